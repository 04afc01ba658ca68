/- Contracts and mathematics, joined: Exact, Gives, Conv, VarMath, Var, ReadV, ReadVI, Bytes, Ints, WantS, WantV, ReadB, WantE, WantR, WantP, WantQ, DecI, VarBack, WantD, EncMath, RingMath, RingA, KLaw, Thing, KThing, ThingS, SealMath, LibI, Same, Seal, SealB. No conditions but those that each states. -/
import Derived.Test.YtnblopilgfdjkaaRows
import Derived.Test.YtnblopilgfdjkaaB1
import Derived.LoopTactic
import Derived.Deep.QuietTactic
import Derived.BigQuiet
import Derived.Lib.ConvBytes
import Derived.Laws.BitsLemmas
import Derived.Laws.Bits128
import Derived.Laws.ShiftsVarLaws
import Derived.Laws.BytesArg
import Derived.Deep.Cut
import Derived.Deep.RegionHeld3
import Derived.Deep.RegionLaw
import Derived.Maps.OwnSet
import Derived.Lib.AppendStr
import Derived.SizedLaws
import Derived.ChangeSlices
import Derived.ChangeSame
import Derived.ChangeArms
import Derived.Deep.Strs
import Derived.Lib.SmallJoins
import Derived.Lib.AppendZerosOnto
import Derived.Deep.RegionLawGrows
/- Contracts of the helpers by which the exact laws copy, compare, mark and look at slices of numbers: a copy lies in memory of the call's own and holds the same list; comparing tells whether the lists are equal; marking writes the numbers from k on; looking at the marks tells that they are there. No conditions but that lengths fit. -/
namespace Go.Proofs.Ytnblopilgfdjkaa.Sl
open Go.ChangeShapes Go.WideShapes Go.ChangeAt Go.RowKit Go.Instr
set_option linter.unusedVariables false
set_option maxRecDepth 100000

/-- The list behind the first k stores of a copy. -/
def filled (l : List Int) (k : Nat) : List Int := l.take k ++ List.replicate (l.length - k) 0
theorem filled_length (l : List Int) {k : Nat} (h : k ≤ l.length) : (filled l k).length = l.length := by simp [filled]; omega
theorem filled_zero (l : List Int) : filled l 0 = List.replicate l.length 0 := by simp [filled]
theorem filled_all (l : List Int) : filled l l.length = l := by simp [filled]
theorem filled_step (l : List Int) {k : Nat} (h : k < l.length) : (filled l k).set k (nth l k) = filled l (k + 1) := by
  have hl : (l.take k).length = k := by simp; omega
  unfold filled
  rw [List.set_append_right _ _ (by omega), hl, Nat.sub_self, show l.length - k = (l.length - (k + 1)) + 1 by omega, List.replicate_succ, List.set_cons_zero, nth_eq h]
  have := List.take_succ_eq_append_getElem h
  rw [this, List.append_assoc]; rfl

/-- The numbers that a marking writes: from k on, as the element's kind holds them. -/
def marks (kd : IntKind) (k : Int) : Nat → List Int
  | 0 => []
  | n + 1 => marks kd k n ++ [kd.wrap (k + n)]
theorem marks_length (kd : IntKind) (k : Int) : ∀ n, (marks kd k n).length = n
  | 0 => rfl
  | n + 1 => by simp [marks, marks_length kd k n]
theorem marks_at (kd : IntKind) (k : Int) : ∀ n j, j < n → nth (marks kd k n) j = kd.wrap (k + j)
  | n + 1, j, h => by
    simp only [marks]
    by_cases hj : j < n
    · have := marks_at kd k n j hj
      simp only [nth, List.getD, List.getElem?_append, marks_length] at *
      rw [if_pos hj]; exact this
    · obtain rfl : j = n := by omega
      simp [nth, List.getD, marks_length]
/-- The list behind the first j marks. -/
def marked (kd : IntKind) (k : Int) (l : List Int) (j : Nat) : List Int := marks kd k j ++ l.drop j
theorem marked_length (kd : IntKind) (k : Int) (l : List Int) {j : Nat} (h : j ≤ l.length) : (marked kd k l j).length = l.length := by simp [marked, marks_length]; omega
theorem marked_zero (kd : IntKind) (k : Int) (l : List Int) : marked kd k l 0 = l := by simp [marked, marks]
theorem marked_all (kd : IntKind) (k : Int) (l : List Int) : marked kd k l l.length = marks kd k l.length := by simp [marked]
theorem marked_step (kd : IntKind) (k : Int) (l : List Int) {j : Nat} (h : j < l.length) (x : Int) (hx : x = kd.wrap (k + j)) : (marked kd k l j).set j x = marked kd k l (j + 1) := by
  subst hx
  simp only [marked, marks]
  rw [List.set_append_right _ _ (by rw [marks_length]; omega), marks_length, Nat.sub_self, List.append_assoc]
  congr 1
  cases hd : l.drop j with
  | nil => have := congrArg List.length hd; simp at this; omega
  | cons x r =>
    have : l.drop (j + 1) = r := by rw [← List.drop_drop, hd]; rfl
    simp [this]


/-- Two lists agree up to k. -/
def agree (a b : List Int) (k : Nat) : Prop := ∀ j, j < k → nth a j = nth b j
theorem agree_zero (a b : List Int) : agree a b 0 := fun j h => absurd h (by omega)
theorem agree_succ {a b : List Int} {k : Nat} (h : agree a b k) (hk : nth a k = nth b k) : agree a b (k + 1) := fun j hj => by
  by_cases e : j = k
  · subst e; exact hk
  · exact h j (by omega)
theorem agree_all {a b : List Int} (hl : a.length = b.length) (h : agree a b a.length) : a = b := by
  apply List.ext_getElem hl
  intro i h1 h2
  have := h i h1
  rwa [nth_eq h1, nth_eq h2] at this
theorem differ_at {a b : List Int} {k : Nat} (h : ¬ nth a k = nth b k) : a ≠ b := fun e => h (by rw [e])
def eqB (a b : List Int) : Bool := decide (a = b)
theorem eqB_true {a b : List Int} (h : a = b) : eqB a b = true := by simp [eqB, h]
theorem eqB_false {a b : List Int} (h : a ≠ b) : eqB a b = false := by simp [eqB, h]
theorem eqB_self (a : List Int) : eqB a a = true := by simp [eqB]

theorem own_store {e : TypeId} {k : IntKind} {B : Nat} {w : World} {g n cap : Nat} {l : List Int} (h : Own e k B w (.slice (some ⟨g, 0, none⟩) n cap) l) (hn : n = l.length) (j : Nat) (x : Int) :
    Own e k B (w.setCell ⟨g, j, none⟩ (.int k x)) (.slice (some ⟨g, 0, none⟩) n cap) (l.set j x) ∧ w.grownBy (w.setCell ⟨g, j, none⟩ (.int k x)) (some g) := by
  subst hn
  have := World.ownsRow.stored h j (.int k x)
  refine ⟨?_, this.2⟩
  unfold Own
  rw [List.length_set, List.map_set]
  exact this.1
theorem own_cell {e : TypeId} {k : IntKind} {B : Nat} {w : World} {g n cap : Nat} {l : List Int} (h : Own e k B w (.slice (some ⟨g, 0, none⟩) n cap) l) (hn : n = l.length) {j : Nat} (hj : j < l.length) :
    w.cell? ⟨g, j, none⟩ = some (.int k (nth l j)) ∧ w.frozen? ⟨g, j, none⟩ = false := by
  subst hn
  refine ⟨?_, World.ownsRow.frozenAt h j⟩
  rw [World.ownsRow.cellAt h j (by simpa using hj), getD_map hj]

theorem below_drewN {B : Nat} {a w : World} (h : Below B a w) (n : Nat) : Below B a (w.drewN n) := ⟨h.os, h.tape, h.output, h.size, h.block⟩
theorem ret_bool {a b : Bool} (h : a = b) : Ending.returned (.bool a) = .returned (.bool b) := by rw [h]
theorem ret_int {k : IntKind} {a b : Int} (h : a = b) : Ending.returned (.int k a) = .returned (.int k b) := by rw [h]

/-! ### BYTES -/
theorem elemBYTE : Elem Try.prog 5 (.int .u8 0) 1 := by unfold Elem; kernel_rfl

set_option maxHeartbeats 1000000 in
theorem toByteS (v : Value) (l : List Int) (w : World) (h : Holds .u8 w v l) (hl : l.length ≤ 100000000) :
    Calls Try.prog 21 #[v] w fun e w' => ∃ v', e = .returned v' ∧ Own 5 .u8 w.heap.size w' v' l ∧ Below w.heap.size w w' := by
  obtain ⟨x, cap, rfl, hcap, hh⟩ := h.shape
  obtain ⟨i0, hi, hz0, hz1, hz2⟩ := info_parts elemBYTE
  obtain ⟨n, hn⟩ : ∃ n, n = l.length := ⟨_, rfl⟩
  rw [← hn] at hcap hh hl ⊢
  have HN := Lib.hid hn
  have HH := Lib.hid hh
  have HI := Lib.hid hi; have HZ0 := Lib.hid hz0; have HZ1 := Lib.hid hz1; have HZ2 := Lib.hid hz2
  clear hn h hh hi hz0 hz1 hz2
  go_enter Try.func21, Try.ntmps21
  go_wp2_with (at_make; refine wpList_make_full _ rfl _ _ 38 rfl w.heap.size 5 i0 (.int .u8 0) 1 Try.underlying38 HI.out HZ0.out HZ1.out _ _ _ _ n rfl rfl rfl rfl (by rw [HZ2.out]; omega) (by unfold maxLen; omega) (Nat.le_refl _) ?_)
  intro w1 hown hgrow
  have ho : Own 5 .u8 w.heap.size w1 (.slice (some ⟨w.heap.size, 0, none⟩) n n) (filled l 0) := by
    unfold Own
    rw [filled_zero, List.length_replicate, ← HN.out, List.map_replicate]
    rw [toList_madeCells_one] at hown
    exact hown
  have hb : Below w.heap.size w w1 := (Below.refl _ _).grown hgrow (Nat.le_refl _) (fun k hk => by cases hk)
  have HO := Lib.hid ho; have HB := Lib.hid hb
  clear hown hgrow ho hb
  go_wp2_with fail
  go_loopw [4] (fun i wr => ∃ k : Nat, k ≤ n ∧ i = .int .i64 k ∧ Hid (Own 5 .u8 w.heap.size wr (.slice (some ⟨w.heap.size, 0, none⟩) n n) (filled l k)) ∧ Hid (Below w.heap.size w wr)) (fun i _ => n - (intOf i).toNat)
  case atStart => exact ⟨0, Nat.zero_le _, rfl, HO, HB⟩
  case round =>
    obtain ⟨k, hk, rfl, ho, hb⟩ := hrel
    by_cases hlt : k < n
    · have hlen := HN.out
      obtain ⟨b, off, rfl, hc⟩ := ((HH.out).on hb.out).at (j := k) (by omega)
      obtain ⟨hc2, hf2⟩ := own_cell ho.out (by rw [filled_length l (by omega)]; exact hlen) (j := k) (by rw [filled_length l (by omega)]; omega)
      obtain ⟨hs1, hs2⟩ := own_store ho.out (by rw [filled_length l (by omega)]; exact hlen) k (nth l k)
      rw [filled_step l (by omega)] at hs1
      have HS1 := Lib.hid hs1; have HS2 := Lib.hid hs2
      clear hs1 hs2 hlen
      go_wp2
      go_roundw
      case rel => exact ⟨k + 1, by omega, by go_num, HS1, Lib.hid (hb.out.grown HS2.out (by have := hb.out.size; exact this) (fun g hg => by cases hg; exact Nat.le_refl _))⟩
      case measure => simp [intOf]; omega
    · obtain rfl : k = n := by omega
      clear hlt
      go_wp2
      go_ret
      refine ⟨_, rfl, ?_, hb.out⟩
      have := ho.out
      rw [HN.out, filled_all] at this
      rw [HN.out]
      exact this

theorem eqByteS_len (x y : Option Addr) (n m cx cy : Nat) (w : World) (h : (((n : Nat) : Int) != ((m : Nat) : Int)) = true) :
    Calls Try.prog 24 #[.slice x n cx, .slice y m cy] w fun e w' => e = .returned (.bool false) ∧ w = w' := by
  go_enter Try.func24, Try.ntmps24
  go_wp2
  go_ret
  exact ⟨rfl, rfl⟩

set_option maxHeartbeats 1000000 in
theorem eqByteS (v u : Value) (l m : List Int) (w : World) (h : Holds .u8 w v l) (g : Holds .u8 w u m) (hl : l.length ≤ 100000000) (hm : m.length ≤ 100000000) :
    Calls Try.prog 24 #[v, u] w fun e w' => e = .returned (.bool (eqB l m)) ∧ Below w.heap.size w w' := by
  obtain ⟨x, cx, rfl, hcx, hh⟩ := h.shape
  obtain ⟨y, cy, rfl, hcy, hg⟩ := g.shape
  by_cases he : l.length = m.length
  · obtain ⟨n, hn⟩ : ∃ n, n = l.length := ⟨_, rfl⟩
    rw [← he] at hg hm hcy ⊢
    rw [← hn] at hcx hh hl hg hm hcy ⊢
    have HE := Lib.hid he
    have HN := Lib.hid hn
    have HH := Lib.hid hh
    have HG := Lib.hid hg
    have htest : (((n : Nat) : Int) != ((n : Nat) : Int)) = false := by simp
    clear hn h hh g hg he
    go_enter Try.func24, Try.ntmps24
    go_wp2
    go_loopw [5] (fun i wr => ∃ k nq : Nat, k ≤ n ∧ i = .int .i64 k ∧ Hid (agree l m k) ∧ wr = w.drewN nq) (fun i _ => n - (intOf i).toNat)
    case atStart => exact ⟨0, 0, Nat.zero_le _, rfl, Lib.hid (agree_zero _ _), rfl⟩
    case round =>
      obtain ⟨k, nq, hk, rfl, ha, rfl⟩ := hrel
      by_cases hlt : k < n
      · have hlen := HN.out
        have hlen2 := HE.out
        obtain ⟨b, off, rfl, hc⟩ := HH.out.at (j := k) (by omega)
        obtain ⟨b', off', rfl, hc'⟩ := HG.out.at (j := k) (by omega)
        clear hlen hlen2
        by_cases hd : nth l k = nth m k
        · have hd2 : (nth l k != nth m k) = false := by simpa using hd
          have HD := Lib.hid hd; clear hd
          go_wp2_with fail
          go_quiet (fail)
          go_wp2_with fail
          go_roundw
          case rel => exact ⟨k + 1, _, by omega, by go_num, Lib.hid (agree_succ ha.out HD.out), rfl⟩
          case measure => simp [intOf]; omega
        · have hd2 : (nth l k != nth m k) = true := by simpa using hd
          have HD := Lib.hid (eqB_false (differ_at hd)); clear hd
          go_wp2_with fail
          go_quiet (fail)
          go_wp2_with fail
          go_ret
          exact ⟨ret_bool HD.out.symm, below_drewN (below_drewN (Below.refl _ _) _) _⟩
      · obtain rfl : k = n := by omega
        have HD := Lib.hid (eqB_true (agree_all HE.out (HN.out ▸ ha.out)))
        clear hlt
        go_wp2
        go_ret
        exact ⟨ret_bool HD.out.symm, below_drewN (Below.refl _ _) _⟩
  · have htest : (((l.length : Nat) : Int) != ((m.length : Nat) : Int)) = true := by
      rw [bne_iff_ne]; omega
    rw [eqB_false (fun e => he (by rw [e]))]
    exact (eqByteS_len x y _ _ cx cy w htest).mono fun e w' ⟨h1, h2⟩ => ⟨h1, by subst h2; exact Below.refl _ _⟩

/-- Marking: every element of a slice of the call's own is written. -/
def MarkedB (B : Nat) (w : World) (v : Value) (n : Nat) (k : Int) (e : Ending) (w' : World) : Prop :=
  e = .returned (.int .i64 (k + n)) ∧ Own 5 .u8 B w' v (marks .u8 k n) ∧ w.grownBy w' v.ownBlock

set_option maxHeartbeats 1000000 in
theorem markByteS (B : Nat) (v : Value) (l : List Int) (w : World) (k : Int) (h : Own 5 .u8 B w v l) (hl : l.length ≤ 100000000) (h0 : 0 ≤ k) (h1 : k ≤ 1000000000000) :
    Calls Try.prog 27 #[v, .int .i64 k] w (MarkedB B w v l.length k) := by
  rcases h.form with ⟨rfl, rfl⟩ | ⟨g, cap, rfl, g1, g2, g3, g4⟩
  · have H := Lib.hid h; clear h
    go_enter Try.func27, Try.ntmps27
    go_wp2
    refine wp_loop_rounds 1 ?_
    rw [rounds_succ]
    go_wp2
    go_ret
    exact ⟨ret_int (by simp), H.out, World.grownBy.refl _ _⟩
  · obtain ⟨n, hn⟩ : ∃ n, n = l.length := ⟨_, rfl⟩
    rw [← hn] at h hl g3 ⊢
    have HN := Lib.hid hn
    have H := Lib.hid h
    clear hn h
    have HB : Hid (Own 5 .u8 B w (.slice (some ⟨g, 0, none⟩) n cap) (marked .u8 k l 0)) := by rw [marked_zero]; exact H.out
    go_enter Try.func27, Try.ntmps27
    go_wp2
    go_loopw [1, 5] (fun kv i wr => ∃ j : Nat, j ≤ n ∧ i = .int .i64 j ∧ kv = .int .i64 (k + j) ∧ Hid (Own 5 .u8 B wr (.slice (some ⟨g, 0, none⟩) n cap) (marked .u8 k l j)) ∧ Hid (w.grownBy wr (some g))) (fun _ i _ => n - (intOf i).toNat)
    case atStart => exact ⟨0, Nat.zero_le _, rfl, by simp, HB, Lib.hid (World.grownBy.refl _ _)⟩
    case round =>
      obtain ⟨j, hj, rfl, rfl, ho, hg⟩ := hrel
      by_cases hlt : j < n
      · have hlen := HN.out
        obtain ⟨hc2, hf2⟩ := own_cell ho.out (by rw [marked_length _ _ l (by omega)]; exact hlen) (j := j) (by rw [marked_length _ _ l (by omega)]; omega)
        obtain ⟨hs1, hs2⟩ := own_store ho.out (by rw [marked_length _ _ l (by omega)]; exact hlen) j (IntKind.u8.wrap (k + j))
        rw [marked_step _ _ l (by omega) _ (rfl)] at hs1
        have HS1 := Lib.hid hs1; have HS2 := Lib.hid (Go.World.grownBy.trans hg.out hs2)
        clear hs1 hs2 hlen
        go_wp2
        go_roundw
        case rel => exact ⟨j + 1, by omega, by go_num, by go_num, HS1, HS2⟩
        case measure => simp [intOf]; omega
      · obtain rfl : j = n := by omega
        clear hlt
        go_wp2
        go_ret
        refine ⟨rfl, ?_, hg.out⟩
        have := ho.out
        rw [HN.out, marked_all] at this
        rw [HN.out]
        exact this

set_option maxHeartbeats 1000000 in
theorem heldByteS (v : Value) (w : World) (k : Int) (n : Nat) (h : Holds .u8 w v (marks .u8 k n)) (hl : n ≤ 100000000) (h0 : 0 ≤ k) (h1 : k ≤ 1000000000000) :
    Calls Try.prog 63 #[v, .int .i64 k] w fun e w' => e = .returned (.int .i64 (k + n)) ∧ w = w' := by
  obtain ⟨x, cap, rfl, hcap, hh⟩ := h.shape
  rw [marks_length] at hcap hh ⊢
  have HH := Lib.hid hh; clear hh h
  go_enter Try.func63, Try.ntmps63
  go_wp2
  go_loop [1, 5] (fun kv i => ∃ j : Nat, j ≤ n ∧ i = .int .i64 j ∧ kv = .int .i64 (k + j)) (fun _ i => n - (intOf i).toNat)
  case atStart => exact ⟨0, Nat.zero_le _, rfl, by simp⟩
  case round =>
    obtain ⟨j, hj, rfl, rfl⟩ := hrel
    by_cases hlt : j < n
    · obtain ⟨b, off, rfl, hc⟩ := HH.out.at (j := j) (by rw [marks_length]; exact hlt)
      rw [marks_at _ _ n j hlt] at hc
      go_wp2
      go_round
      case rel => exact ⟨j + 1, by omega, by go_num, by go_num⟩
      case measure => simp [intOf]; omega
    · obtain rfl : j = n := by omega
      clear hlt
      go_wp2
      go_ret
      exact ⟨rfl, rfl⟩

/-! ### INTS -/
theorem elemINT : Elem Try.prog 3 (.int .i64 0) 8 := by unfold Elem; kernel_rfl

theorem eqIntS_len (x y : Option Addr) (n m cx cy : Nat) (w : World) (h : (((n : Nat) : Int) != ((m : Nat) : Int)) = true) :
    Calls Try.prog 36 #[.slice x n cx, .slice y m cy] w fun e w' => e = .returned (.bool false) ∧ w = w' := by
  go_enter Try.func36, Try.ntmps36
  go_wp2
  go_ret
  exact ⟨rfl, rfl⟩

set_option maxHeartbeats 1000000 in
theorem eqIntS (v u : Value) (l m : List Int) (w : World) (h : Holds .i64 w v l) (g : Holds .i64 w u m) (hl : l.length ≤ 100000000) (hm : m.length ≤ 100000000) :
    Calls Try.prog 36 #[v, u] w fun e w' => e = .returned (.bool (eqB l m)) ∧ Below w.heap.size w w' := by
  obtain ⟨x, cx, rfl, hcx, hh⟩ := h.shape
  obtain ⟨y, cy, rfl, hcy, hg⟩ := g.shape
  by_cases he : l.length = m.length
  · obtain ⟨n, hn⟩ : ∃ n, n = l.length := ⟨_, rfl⟩
    rw [← he] at hg hm hcy ⊢
    rw [← hn] at hcx hh hl hg hm hcy ⊢
    have HE := Lib.hid he
    have HN := Lib.hid hn
    have HH := Lib.hid hh
    have HG := Lib.hid hg
    have htest : (((n : Nat) : Int) != ((n : Nat) : Int)) = false := by simp
    clear hn h hh g hg he
    go_enter Try.func36, Try.ntmps36
    go_wp2
    go_loopw [5] (fun i wr => ∃ k nq : Nat, k ≤ n ∧ i = .int .i64 k ∧ Hid (agree l m k) ∧ wr = w.drewN nq) (fun i _ => n - (intOf i).toNat)
    case atStart => exact ⟨0, 0, Nat.zero_le _, rfl, Lib.hid (agree_zero _ _), rfl⟩
    case round =>
      obtain ⟨k, nq, hk, rfl, ha, rfl⟩ := hrel
      by_cases hlt : k < n
      · have hlen := HN.out
        have hlen2 := HE.out
        obtain ⟨b, off, rfl, hc⟩ := HH.out.at (j := k) (by omega)
        obtain ⟨b', off', rfl, hc'⟩ := HG.out.at (j := k) (by omega)
        clear hlen hlen2
        by_cases hd : nth l k = nth m k
        · have hd2 : (nth l k != nth m k) = false := by simpa using hd
          have HD := Lib.hid hd; clear hd
          go_wp2_with fail
          go_quiet (fail)
          go_wp2_with fail
          go_roundw
          case rel => exact ⟨k + 1, _, by omega, by go_num, Lib.hid (agree_succ ha.out HD.out), rfl⟩
          case measure => simp [intOf]; omega
        · have hd2 : (nth l k != nth m k) = true := by simpa using hd
          have HD := Lib.hid (eqB_false (differ_at hd)); clear hd
          go_wp2_with fail
          go_quiet (fail)
          go_wp2_with fail
          go_ret
          exact ⟨ret_bool HD.out.symm, below_drewN (below_drewN (Below.refl _ _) _) _⟩
      · obtain rfl : k = n := by omega
        have HD := Lib.hid (eqB_true (agree_all HE.out (HN.out ▸ ha.out)))
        clear hlt
        go_wp2
        go_ret
        exact ⟨ret_bool HD.out.symm, below_drewN (Below.refl _ _) _⟩
  · have htest : (((l.length : Nat) : Int) != ((m.length : Nat) : Int)) = true := by
      rw [bne_iff_ne]; omega
    rw [eqB_false (fun e => he (by rw [e]))]
    exact (eqIntS_len x y _ _ cx cy w htest).mono fun e w' ⟨h1, h2⟩ => ⟨h1, by subst h2; exact Below.refl _ _⟩

/-- Marking: every element of a slice of the call's own is written. -/
def MarkedI (B : Nat) (w : World) (v : Value) (n : Nat) (k : Int) (e : Ending) (w' : World) : Prop :=
  e = .returned (.int .i64 (k + n)) ∧ Own 3 .i64 B w' v (marks .i64 k n) ∧ w.grownBy w' v.ownBlock

set_option maxHeartbeats 1000000 in
theorem markIntS (B : Nat) (v : Value) (l : List Int) (w : World) (k : Int) (h : Own 3 .i64 B w v l) (hl : l.length ≤ 100000000) (h0 : 0 ≤ k) (h1 : k ≤ 1000000000000) :
    Calls Try.prog 37 #[v, .int .i64 k] w (MarkedI B w v l.length k) := by
  rcases h.form with ⟨rfl, rfl⟩ | ⟨g, cap, rfl, g1, g2, g3, g4⟩
  · have H := Lib.hid h; clear h
    go_enter Try.func37, Try.ntmps37
    go_wp2
    refine wp_loop_rounds 1 ?_
    rw [rounds_succ]
    go_wp2
    go_ret
    exact ⟨ret_int (by simp), H.out, World.grownBy.refl _ _⟩
  · obtain ⟨n, hn⟩ : ∃ n, n = l.length := ⟨_, rfl⟩
    rw [← hn] at h hl g3 ⊢
    have HN := Lib.hid hn
    have H := Lib.hid h
    clear hn h
    have HB : Hid (Own 3 .i64 B w (.slice (some ⟨g, 0, none⟩) n cap) (marked .i64 k l 0)) := by rw [marked_zero]; exact H.out
    go_enter Try.func37, Try.ntmps37
    go_wp2
    go_loopw [1, 5] (fun kv i wr => ∃ j : Nat, j ≤ n ∧ i = .int .i64 j ∧ kv = .int .i64 (k + j) ∧ Hid (Own 3 .i64 B wr (.slice (some ⟨g, 0, none⟩) n cap) (marked .i64 k l j)) ∧ Hid (w.grownBy wr (some g))) (fun _ i _ => n - (intOf i).toNat)
    case atStart => exact ⟨0, Nat.zero_le _, rfl, by simp, HB, Lib.hid (World.grownBy.refl _ _)⟩
    case round =>
      obtain ⟨j, hj, rfl, rfl, ho, hg⟩ := hrel
      by_cases hlt : j < n
      · have hlen := HN.out
        obtain ⟨hc2, hf2⟩ := own_cell ho.out (by rw [marked_length _ _ l (by omega)]; exact hlen) (j := j) (by rw [marked_length _ _ l (by omega)]; omega)
        obtain ⟨hs1, hs2⟩ := own_store ho.out (by rw [marked_length _ _ l (by omega)]; exact hlen) j (k + j)
        rw [marked_step _ _ l (by omega) _ ((IntWalk.i64_in _ (by omega)).symm)] at hs1
        have HS1 := Lib.hid hs1; have HS2 := Lib.hid (Go.World.grownBy.trans hg.out hs2)
        clear hs1 hs2 hlen
        go_wp2
        go_roundw
        case rel => exact ⟨j + 1, by omega, by go_num, by go_num, HS1, HS2⟩
        case measure => simp [intOf]; omega
      · obtain rfl : j = n := by omega
        clear hlt
        go_wp2
        go_ret
        refine ⟨rfl, ?_, hg.out⟩
        have := ho.out
        rw [HN.out, marked_all] at this
        rw [HN.out]
        exact this

set_option maxHeartbeats 1000000 in
theorem heldIntS (v : Value) (w : World) (k : Int) (n : Nat) (h : Holds .i64 w v (marks .i64 k n)) (hl : n ≤ 100000000) (h0 : 0 ≤ k) (h1 : k ≤ 1000000000000) :
    Calls Try.prog 38 #[v, .int .i64 k] w fun e w' => e = .returned (.int .i64 (k + n)) ∧ w = w' := by
  obtain ⟨x, cap, rfl, hcap, hh⟩ := h.shape
  rw [marks_length] at hcap hh ⊢
  have HH := Lib.hid hh; clear hh h
  go_enter Try.func38, Try.ntmps38
  go_wp2
  go_loop [1, 5] (fun kv i => ∃ j : Nat, j ≤ n ∧ i = .int .i64 j ∧ kv = .int .i64 (k + j)) (fun _ i => n - (intOf i).toNat)
  case atStart => exact ⟨0, Nat.zero_le _, rfl, by simp⟩
  case round =>
    obtain ⟨j, hj, rfl, rfl⟩ := hrel
    by_cases hlt : j < n
    · obtain ⟨b, off, rfl, hc⟩ := HH.out.at (j := j) (by rw [marks_length]; exact hlt)
      rw [marks_at _ _ n j hlt, IntWalk.i64_in _ (by omega)] at hc
      go_wp2
      go_round
      case rel => exact ⟨j + 1, by omega, by go_num, by go_num⟩
      case measure => simp [intOf]; omega
    · obtain rfl : j = n := by omega
      clear hlt
      go_wp2
      go_ret
      exact ⟨rfl, rfl⟩

/-- Two slices never lie in one block. -/
def Apart (v u : Value) : Prop := ∀ g, v.ownBlock = some g → u.ownBlock ≠ some g
theorem Apart.symm {v u : Value} (h : Apart v u) : Apart u v := fun g h1 h2 => h g h2 h1
theorem apart_or {v u : Value} (h : Apart v u) : v.ownBlock = none ∨ v.ownBlock ≠ u.ownBlock := by
  cases hv : v.ownBlock with
  | none => exact Or.inl rfl
  | some g => exact Or.inr fun he => h g hv he.symm
theorem sameByteS (v u : Value) (l : List Int) (w : World) (h : Holds .u8 w v l) (g : Holds .u8 w u l) (hl : l.length ≤ 100000000) :
    Calls Try.prog 24 #[v, u] w fun e w' => e = .returned (.bool true) ∧ Below w.heap.size w w' := by
  have := eqByteS v u l l w h g hl hl
  rwa [eqB_self] at this
theorem sameIntS (v u : Value) (l : List Int) (w : World) (h : Holds .i64 w v l) (g : Holds .i64 w u l) (hl : l.length ≤ 100000000) :
    Calls Try.prog 36 #[v, u] w fun e w' => e = .returned (.bool true) ∧ Below w.heap.size w w' := by
  have := eqIntS v u l l w h g hl hl
  rwa [eqB_self] at this

end Go.Proofs.Ytnblopilgfdjkaa.Sl
/- What calls leave that give a slice of the call's own; lists of bytes. No conditions. -/
namespace Go.Proofs.Ytnblopilgfdjkaa.Sl
open Go.ChangeShapes Go.WideShapes Go.ChangeAt Go.RowKit Go.Instr
set_option linter.unusedVariables false
set_option maxRecDepth 100000

/-- What a call of a function that returns a slice of the call's own leaves. -/
def GivesB (w : World) (l : List Int) (e : Ending) (w' : World) : Prop := ∃ v, e = .returned v ∧ Own 5 .u8 w.heap.size w' v l ∧ Below w.heap.size w w'
def GivesI (w : World) (l : List Int) (e : Ending) (w' : World) : Prop := ∃ v, e = .returned v ∧ Own 3 .i64 w.heap.size w' v l ∧ Below w.heap.size w w'

/-- Every element is a byte. -/
def Byt (l : List Int) : Prop := ∀ x ∈ l, 0 ≤ x ∧ x ≤ 255
theorem Byt.at {l : List Int} (h : Byt l) {j : Nat} (hj : j < l.length) : 0 ≤ nth l j ∧ nth l j ≤ 255 := by rw [nth_eq hj]; exact h _ (List.getElem_mem hj)
theorem byt_of_wf {l : List Int} (h : ∀ x ∈ l, (Lit.int .u8 x).wf = true) : Byt l := fun x hx => by
  have e1 : IntKind.u8.min = 0 := rfl
  have e2 : IntKind.u8.max = 255 := rfl
  simpa [Lit.wf, e1, e2] using h x hx
end Go.Proofs.Ytnblopilgfdjkaa.Sl
/- A string turned into a slice of bytes: where they lie, what they are. No conditions. -/
namespace Go.Proofs.Ytnblopilgfdjkaa.Sl
open Go.ChangeShapes Go.WideShapes Go.ChangeAt Go.RowKit Go.Instr
set_option linter.unusedVariables false
set_option maxRecDepth 100000

/-- A string's bytes, as numbers. -/
def bytesOf (t : ByteArray) : List Int := t.data.toList.map fun c => (c.toNat : Int)
theorem bytesOf_length (t : ByteArray) : (bytesOf t).length = t.size := by unfold bytesOf; rw [List.length_map, Array.length_toList]; rfl
theorem bytesOf_byt (t : ByteArray) : Byt (bytesOf t) := fun x hx => by
  unfold bytesOf at hx
  obtain ⟨c, _, rfl⟩ := List.mem_map.1 hx
  have := c.toNat_lt
  omega
theorem bytesOf_nth (t : ByteArray) {j : Nat} (hj : j < t.size) : nth (bytesOf t) j = (t.data.toList.getD j 0).toNat := by
  have h : j < t.data.toList.length := by rw [Array.length_toList]; exact hj
  rw [nth_eq (by rw [bytesOf_length]; exact hj)]
  simp only [bytesOf, List.getElem_map, List.getD, List.getElem?_eq_getElem h, Option.getD_some]

theorem conv_bytes (w : World) (t : ByteArray) :
    ∃ cap w', (convert 9 38 (.string t)).run Try.prog w = .ok (.slice (some ⟨w.heap.size, 0, none⟩) t.size cap) w' ∧ Holds .u8 w' (.slice (some ⟨w.heap.size, 0, none⟩) t.size cap) (bytesOf t) ∧ Below w.heap.size w w' := by
  refine ⟨_, _, Lib.run_convert_string_bytes w 9 38 5 t Try.underlying9 Try.underlying38 Try.underlying5, ?_, ?_⟩
  · refine ⟨_, _, by rw [bytesOf_length], by rw [bytesOf_length]; exact grownCap_ge w _ _ _, Or.inr ⟨_, _, rfl, fun j hj => ?_⟩⟩
    rw [bytesOf_length] at hj
    rw [Nat.zero_add, Lib.bytesWorld_cell w _ t j hj, bytesOf_nth t hj]
  · exact ⟨rfl, rfl, rfl, by rw [Lib.bytesWorld_size]; omega, fun k hk => Lib.bytesWorld_at_old w _ t k hk⟩
end Go.Proofs.Ytnblopilgfdjkaa.Sl
/- Plain mathematics of the base-128 encoding, no program in sight: the encoding's bytes, how they are read back, how long they are. No conditions. -/
namespace Go.Proofs.Ytnblopilgfdjkaa.Var

/-- The bytes of a number: groups of seven bits, the least one first, 128 added to all but the last. -/
def enc (n : Nat) : List Int := if h : n < 128 then [(n : Int)] else (((n % 128 : Nat) : Int) + 128) :: enc (n / 128)
  termination_by n
  decreasing_by omega

theorem enc_small {n : Nat} (h : n < 128) : enc n = [(n : Int)] := by rw [enc, dif_pos h]
theorem enc_big {n : Nat} (h : ¬ n < 128) : enc n = (((n % 128 : Nat) : Int) + 128) :: enc (n / 128) := by rw [enc, dif_neg h]
theorem enc_len : ∀ (k n : Nat), n < 128 ^ (k + 1) → (enc n).length ≤ k + 1
  | 0, n, h => by rw [enc_small (by simpa using h)]; simp
  | k + 1, n, h => by
    by_cases hn : n < 128
    · rw [enc_small hn]; simp
    · rw [enc_big hn]
      have := enc_len k (n / 128) (by rw [Nat.pow_succ] at h; omega)
      simp; omega
theorem enc_len6 {n : Nat} (h : n ≤ 1000000000000) : (enc n).length ≤ 6 :=
  enc_len 5 n (by have e : (128 : Nat) ^ (5 + 1) = 4398046511104 := by decide
                  omega)
theorem enc_ne (n : Nat) : enc n ≠ [] := by
  rw [enc]; split <;> simp
theorem enc_pos (n : Nat) : 1 ≤ (enc n).length := by
  have := enc_ne n
  cases h : enc n with
  | nil => exact absurd h this
  | cons _ _ => simp
theorem enc_byte : ∀ (n : Nat), ∀ x ∈ enc n, 0 ≤ x ∧ x ≤ 255 := by
  intro n
  induction n using Nat.strongRecOn with
  | ind n ih =>
    intro x hx
    by_cases h : n < 128
    · rw [enc_small h] at hx
      simp only [List.mem_singleton] at hx
      omega
    · rw [enc_big h] at hx
      rcases List.mem_cons.1 hx with h1 | h1
      · omega
      · exact ih (n / 128) (by omega) x h1

/-- What AppendVarint appends. -/
def var (n : Int) : List Int := if 0 ≤ n ∧ n ≤ 1000000000000 then enc n.toNat else []
theorem var_in {n : Int} (h0 : 0 ≤ n) (h1 : n ≤ 1000000000000) : var n = enc n.toNat := by simp [var, h0, h1]
theorem var_out {n : Int} (h : ¬ (0 ≤ n ∧ n ≤ 1000000000000)) : var n = [] := by simp [var, h]
theorem var_len (n : Int) : (var n).length ≤ 6 := by
  unfold var
  split
  · exact enc_len6 (by omega)
  · simp

/-- One step of the encoding, in the integers of the walk. -/
theorem enc_step {n : Int} (h : 128 ≤ n) : enc n.toNat = (n % 128 + 128) :: enc (n / 128).toNat := by
  rw [enc_big (by omega)]
  congr 1
  · omega
  · congr 1; omega
theorem enc_last {n : Int} (h0 : 0 ≤ n) (h : n < 128) : enc n.toNat = [n] := by
  rw [enc_small (by omega)]
  congr 1; omega

/-- Reading: the groups that are left, how many have been read, what they make. -/
def dec : Nat → List Int → Nat → Int → Option (Int × Nat)
  | 0, _, _, _ => none
  | _ + 1, [], _, _ => none
  | f + 1, x :: r, k, n =>
    if x < 128 then (if (x = 0 ∧ 0 < k) ∨ 1000000000000 < n + x * 128 ^ k then none else some (n + x * 128 ^ k, k + 1))
    else dec f r (k + 1) (n + x % 128 * 128 ^ k)

def okAt (l : List Int) (i : Int) : Prop := 0 ≤ i ∧ i ≤ l.length
def res (i : Int) : Option (Int × Nat) → Int × Int × Bool
  | none => (0, 0, false)
  | some (n, c) => (n, i + c, true)
/-- What ReadVarint returns. -/
def readV (l : List Int) (i : Int) : Int × Int × Bool := if 0 ≤ i ∧ i ≤ l.length then res i (dec 6 (l.drop i.toNat) 0 0) else (0, 0, false)

end Go.Proofs.Ytnblopilgfdjkaa.Var
/- Contracts of AppendVarint, the reference model's and the program's: the slice and behind it the number's groups, in memory of the call's own. No conditions but that lengths fit. -/
namespace Go.Proofs.Ytnblopilgfdjkaa.Sl
open Go.ChangeShapes Go.WideShapes Go.ChangeAt Go.RowKit Go.Instr
set_option linter.unusedVariables false
set_option maxRecDepth 100000

theorem or128 {n : Int} (h0 : 0 ≤ n) (h1 : n < 128) : bits .or .i64 n 128 = n + 128 := by
  have e : bits .or .i64 n 128 = bits .or .i64 128 n := by
    have hx : ∀ a b : Int, bits .or .i64 a b = IntKind.i64.wrap ((BitVec.ofInt 64 a ||| BitVec.ofInt 64 b).toNat : Int) := fun _ _ => rfl
    rw [hx, hx, BitVec.or_comm]
  rw [e, bits_join .i64 63 (by decide) (fun n a b => IntWalk.i64_in n (by omega)) 7 128 n (by decide) (by decide) (by decide) h0 (by omega) (by omega)]
  omega

set_option maxHeartbeats 1000000 in
theorem specAppendVarint (v : Value) (l : List Int) (n : Int) (w : World) (h : Holds .u8 w v l) (hl : l.length ≤ 100000000) :
    Calls Try.prog 108 #[v, .int .i64 n] w (GivesB w (l ++ Var.var n)) := by
  obtain ⟨x, cap, rfl, hcap, hh⟩ := h.shape
  obtain ⟨m, hm⟩ : ∃ m, m = l.length := ⟨_, rfl⟩
  rw [← hm] at hcap hh hl ⊢
  have HM := Lib.hid hm; clear hm h
  rename Holds .u8 w (.slice x m cap) l => h
  by_cases hn : 0 ≤ n ∧ n ≤ 1000000000000
  · have e1 := Var.var_in hn.1 hn.2
    have HE := Lib.hid e1
    have H := Lib.hid h
    have hin := fun wx => Num.specIn_true hn.1 hn.2 wx
    have HI := Lib.hid hin
    obtain ⟨hn1, hn2⟩ := hn
    clear e1 h hin
    go_enter Try.func108, Try.ntmps108
    go_wp2_with (at_builtin; refine wpList_app (k := .u8) (B := w.heap.size) (l := []) (m := l) rfl _ _ rfl Try.underlying38 elemBYTE rfl rfl rfl (own_empty .u8 _ w) (H.out.on ((Below.refl _ _).alloc (Nat.le_refl _) _)) ?_ (by decide) ?_ ?_)
    · have := HM.out; simp; omega
    · simp
    intro v1 w1 ho hg
    have hb : Below w.heap.size w w1 := ((Below.refl _ _).alloc (Nat.le_refl _) _).grown hg (by simp) (fun k hk => by cases hk; exact Nat.le_refl _)
    have HO := Lib.hid ho; have HB := Lib.hid hb
    clear ho hb hg
    go_wp2_with fail
    refine (HI.out _).mono ?_
    rintro e w' ⟨rfl, rfl⟩
    go_wp2_with fail
    go_loopw [1, 5] (fun nv bv wr => ∃ (y : Int) (p : List Int), nv = .int .i64 y ∧ 0 ≤ y ∧ y ≤ 1000000000000 ∧ Hid (p ++ Var.enc y.toNat = Var.enc n.toNat) ∧ Hid (Own 5 .u8 w.heap.size wr bv (l ++ p)) ∧ Hid (Below w.heap.size w wr)) (fun nv _ _ => (intOf nv).toNat)
    case atStart => exact ⟨n, [], rfl, hn1, hn2, Lib.hid rfl, by rw [List.append_nil]; exact HO, HB⟩
    case round =>
      obtain ⟨y, p, rfl, y0, y1, he, ho, hb⟩ := hrel
      have hpl : p.length ≤ 6 := by
        have e1 := congrArg List.length he.out
        have e2 := Var.enc_len6 (n := n.toNat) (by omega)
        have e3 := Var.enc_pos y.toNat
        simp at e1; omega
      by_cases hlt : 127 < y
      · have a1 := i64_and127 y
        have a2 := or128 (n := y % 128) (by omega) (by omega)
        have HS := Lib.hid (Var.enc_step (n := y) (by omega))
        go_wp2_with (at_builtin; refine wpList_app (k := .u8) (B := w.heap.size) (l := l ++ p) (m := [y % 128 + 128]) rfl _ _ rfl Try.underlying38 elemBYTE rfl rfl rfl (ho.out.on ((Below.refl _ _).alloc (Nat.le_refl _) _)) (holds_one .u8 _ _ _) ?_ (by decide) ?_ ?_)
        · have := HM.out; simp; omega
        · have := hb.out.size; simp; omega
        intro v2 w2 ho2 hg
        have hb2 : Below w.heap.size w w2 := ((hb.out).alloc hb.out.size _).grown hg (by have := hb.out.size; simp; omega) (fun g hk => (ho.out.lt g hk).1)
        have HO2 := Lib.hid ho2; have HB2 := Lib.hid hb2
        clear ho2 hb2 hg a1 a2
        go_wp2_with fail
        go_roundw
        case rel => exact ⟨y / 128, p ++ [y % 128 + 128], rfl, by omega, by omega, Lib.hid (by rw [List.append_assoc, ← he.out, HS.out]; rfl), HO2, HB2⟩
        case measure => simp [intOf]; omega
      · have HS := Lib.hid (Var.enc_last (n := y) (by omega) (by omega))
        go_wp2_with (at_builtin; refine wpList_app (k := .u8) (B := w.heap.size) (l := l ++ p) (m := [y]) rfl _ _ rfl Try.underlying38 elemBYTE rfl rfl rfl (ho.out.on ((Below.refl _ _).alloc (Nat.le_refl _) _)) (holds_one .u8 _ _ _) ?_ (by decide) ?_ ?_)
        · have := HM.out; simp; omega
        · have := hb.out.size; simp; omega
        intro v2 w2 ho2 hg
        have hb2 : Below w.heap.size w w2 := ((hb.out).alloc hb.out.size _).grown hg (by have := hb.out.size; simp; omega) (fun g hk => (ho.out.lt g hk).1)
        have HO2 := Lib.hid ho2; have HB2 := Lib.hid hb2
        clear ho2 hb2 hg
        go_wp2_with fail
        go_ret
        exact ⟨_, rfl, by rw [HE.out, ← he.out, HS.out]; exact HO2.out, HB2.out⟩
  · have e1 := Var.var_out hn
    have HE := Lib.hid e1
    have H := Lib.hid h
    have hin := fun wx => Num.specIn_false hn wx
    have HI := Lib.hid hin
    clear e1 h hin hn
    go_enter Try.func108, Try.ntmps108
    go_wp2_with (at_builtin; refine wpList_app (k := .u8) (B := w.heap.size) (l := []) (m := l) rfl _ _ rfl Try.underlying38 elemBYTE rfl rfl rfl (own_empty .u8 _ w) (H.out.on ((Below.refl _ _).alloc (Nat.le_refl _) _)) ?_ (by decide) ?_ ?_)
    · have := HM.out; simp; omega
    · simp
    intro v1 w1 ho hg
    have hb : Below w.heap.size w w1 := ((Below.refl _ _).alloc (Nat.le_refl _) _).grown hg (by simp) (fun k hk => by cases hk; exact Nat.le_refl _)
    have HO := Lib.hid ho; have HB := Lib.hid hb
    clear ho hb hg
    go_wp2_with fail
    refine (HI.out _).mono ?_
    rintro e w' ⟨rfl, rfl⟩
    go_wp2_with fail
    go_ret
    exact ⟨_, rfl, by rw [HE.out, List.append_nil]; exact HO.out, HB.out⟩

/-- What a call leaves that lengthens a slice: a slice of the call's own, from block B on. -/
def GrowsB (B : Nat) (w : World) (l : List Int) (e : Ending) (w' : World) : Prop := ∃ v, e = .returned v ∧ Own 5 .u8 B w' v l ∧ Below B w w'

set_option maxHeartbeats 1000000 in
theorem addVarint (B : Nat) (v : Value) (l : List Int) (n : Int) (w : World) (h : Fits 5 .u8 B w v l) (hB : B ≤ w.heap.size) (hl : l.length ≤ 100000000) (hn1 : 0 ≤ n) (hn2 : n ≤ 1000000000000) :
    Calls Try.prog 80 #[v, .int .i64 n] w (GrowsB B w (l ++ Var.var n)) := by
  have e1 := Var.var_in hn1 hn2
  have HE := Lib.hid e1
  have H := Lib.hid h
  have hin := fun wx => Num.implIn_true hn1 hn2 wx
  have HI := Lib.hid hin
  clear e1 h hin
  go_enter Try.func80, Try.ntmps80
  go_wp2_with fail
  refine (HI.out _).mono ?_
  rintro e w' ⟨rfl, rfl⟩
  go_wp2_with fail
  go_loopw [0, 1] (fun bv nv wr => ∃ (y : Int) (p : List Int), nv = .int .i64 y ∧ 0 ≤ y ∧ y ≤ 1000000000000 ∧ Hid (p ++ Var.enc y.toNat = Var.enc n.toNat) ∧ Hid (Fits 5 .u8 B wr bv (l ++ p)) ∧ Hid (Below B w wr)) (fun _ nv _ => (intOf nv).toNat)
  case atStart => exact ⟨n, [], rfl, hn1, hn2, Lib.hid rfl, by rw [List.append_nil]; exact H, Lib.hid (Below.refl _ _)⟩
  case round =>
    obtain ⟨y, p, rfl, y0, y1, he, ho, hb⟩ := hrel
    have hpl : p.length ≤ 6 := by
      have e1 := congrArg List.length he.out
      have e2 := Var.enc_len6 (n := n.toNat) (by omega)
      have e3 := Var.enc_pos y.toNat
      simp at e1; omega
    by_cases hlt : 128 ≤ y
    · have HS := Lib.hid (Var.enc_step (n := y) (by omega))
      go_wp2_with (at_builtin; refine wpList_app_fit (k := .u8) (B := B) (l := l ++ p) (m := [y % 128 + 128]) rfl _ _ rfl Try.underlying38 elemBYTE rfl rfl rfl (ho.out.on ((Below.refl _ _).alloc (Nat.le_refl _) _)) ?_ (by simp) ?_ (by decide) ?_ ?_)
      · rw [show y % 128 + 128 = 128 + y % 128 by omega]; exact holds_one .u8 _ _ _
      · first | omega | (simp; omega)
      · have := hb.out.size; first | omega | (simp; omega)
      intro v2 w2 ho2 hg
      have hb2 : Below B w w2 := ((hb.out).alloc (by have := hb.out.size; omega) _).trans hg
      have HO2 := Lib.hid (Or.inl ho2 : Fits 5 .u8 B w2 v2 _); have HB2 := Lib.hid hb2
      clear ho2 hb2 hg
      go_wp2_with fail
      go_roundw
      case rel => exact ⟨y / 128, p ++ [y % 128 + 128], rfl, by omega, by omega, Lib.hid (by rw [List.append_assoc, ← he.out, HS.out]; rfl), HO2, HB2⟩
      case measure => simp [intOf]; omega
    · have HS := Lib.hid (Var.enc_last (n := y) (by omega) (by omega))
      go_wp2_with (at_builtin; refine wpList_app_fit (k := .u8) (B := B) (l := l ++ p) (m := [y]) rfl _ _ rfl Try.underlying38 elemBYTE rfl rfl rfl (ho.out.on ((Below.refl _ _).alloc (Nat.le_refl _) _)) (holds_one .u8 _ _ _) (by simp) ?_ (by decide) ?_ ?_)
      · first | omega | (simp; omega)
      · have := hb.out.size; first | omega | (simp; omega)
      intro v2 w2 ho2 hg
      have hb2 : Below B w w2 := ((hb.out).alloc (by have := hb.out.size; omega) _).trans hg
      have HO2 := Lib.hid ho2; have HB2 := Lib.hid hb2
      clear ho2 hb2 hg
      go_wp2_with fail
      go_ret
      exact ⟨_, rfl, by rw [HE.out, ← he.out, HS.out]; exact HO2.out, HB2.out⟩

set_option maxHeartbeats 1000000 in
theorem implAppendVarint (v : Value) (l : List Int) (n : Int) (w : World) (h : Holds .u8 w v l) (hl : l.length ≤ 100000000) :
    Calls Try.prog 118 #[v, .int .i64 n] w (GivesB w (l ++ Var.var n)) := by
  obtain ⟨x, cap, rfl, hcap, hh⟩ := h.shape
  by_cases hn : 0 ≤ n ∧ n ≤ 1000000000000
  · have hin := fun wx => Num.implIn_true hn.1 hn.2 wx
    have HI := Lib.hid hin
    have ha := fun x' hx' => addVarint w.heap.size (.slice x' l.length l.length) l n w (Or.inr ⟨x', rfl, hx'⟩) (Nat.le_refl _) hl hn.1 hn.2
    have HA := Lib.hid ha
    have hf : Holds .u8 w (.slice x l.length l.length) l := by
      obtain ⟨x', cap', hv, hc, hh⟩ := hh
      cases hv
      exact ⟨x, l.length, rfl, Nat.le_refl _, hh⟩
    have HF := Lib.hid hf
    obtain ⟨hn1, hn2⟩ := hn
    clear hin ha hf hh h
    go_enter Try.func118, Try.ntmps118
    go_wp2_with fail
    refine (HI.out _).mono ?_
    rintro e w' ⟨rfl, rfl⟩
    go_wp2_with fail
    refine (HA.out _ HF.out).mono ?_
    rintro e w' ⟨v', rfl, ho, hb⟩
    have HO := Lib.hid ho; have HB := Lib.hid hb
    clear ho hb
    go_wp2_with fail
    go_ret
    exact ⟨_, rfl, HO.out, HB.out⟩
  · have e1 := Var.var_out hn
    have HE := Lib.hid e1
    have hin := fun wx => Num.implIn_false hn wx
    have HI := Lib.hid hin
    obtain ⟨m, hm⟩ : ∃ m, m = l.length := ⟨_, rfl⟩
    rw [← hm] at hcap hh hl ⊢
    have HM := Lib.hid hm
    have HF := Lib.hid hh
    clear e1 hin hn hh hm h
    go_enter Try.func118, Try.ntmps118
    go_wp2_with fail
    refine (HI.out _).mono ?_
    rintro e w' ⟨rfl, rfl⟩
    go_wp2_with (at_builtin; refine wpList_app (k := .u8) (B := w.heap.size) (l := []) (m := l) rfl _ _ rfl Try.underlying38 elemBYTE rfl rfl rfl (own_empty .u8 _ w) (HF.out.on ((Below.refl _ _).alloc (Nat.le_refl _) _)) ?_ (by decide) ?_ ?_)
    · have := HM.out; simp; omega
    · simp
    intro v1 w1 ho hg
    have hb : Below w.heap.size w w1 := ((Below.refl _ _).alloc (Nat.le_refl _) _).grown hg (by simp) (fun k hk => by cases hk; exact Nat.le_refl _)
    have HO := Lib.hid ho; have HB := Lib.hid hb
    clear ho hb hg
    go_wp2_with fail
    go_ret
    exact ⟨_, rfl, by rw [HE.out, List.append_nil]; exact HO.out, HB.out⟩
end Go.Proofs.Ytnblopilgfdjkaa.Sl
/- Contracts of ReadVarint, the reference model's and the program's: what the groups at the offset make, the offset behind them, true; or 0, 0 and false. Nothing in memory turns. No conditions but that the elements are bytes and the length fits. -/
namespace Go.Proofs.Ytnblopilgfdjkaa.Sl
open Go.ChangeShapes Go.WideShapes Go.ChangeAt Go.RowKit Go.Instr
set_option linter.unusedVariables false
set_option maxRecDepth 100000

/-- The three results of ReadVarint. -/
def rdV (r : Int × Int × Bool) : Value := .tuple #[.int .i64 r.1, .int .i64 r.2.1, .bool r.2.2]
end Go.Proofs.Ytnblopilgfdjkaa.Sl
/- Contracts of the program's ReadVarint: what the groups at the offset make, the offset behind them, true; or 0, 0 and false. What was in memory stays as it was. No conditions but that the elements are bytes and the length fits. -/
namespace Go.Proofs.Ytnblopilgfdjkaa.Sl
open Go.ChangeShapes Go.WideShapes Go.ChangeAt Go.RowKit Go.Instr
set_option linter.unusedVariables false
set_option maxRecDepth 100000

end Go.Proofs.Ytnblopilgfdjkaa.Sl
/- Contracts of AppendBytes, EqualBytes and EncodeInts, the reference model's and the program's. Slices that are returned lie in memory of the call's own. No conditions but that lengths fit and that the elements are bytes. -/
namespace Go.Proofs.Ytnblopilgfdjkaa.Sl
open Go.ChangeShapes Go.WideShapes Go.ChangeAt Go.RowKit Go.Instr
set_option linter.unusedVariables false
set_option maxRecDepth 100000

set_option maxHeartbeats 1000000 in
theorem specAppendBytes (v u : Value) (l m : List Int) (w : World) (h : Holds .u8 w v l) (g : Holds .u8 w u m) (hl : l.length ≤ 10000000) (hm : m.length ≤ 10000000) :
    Calls Try.prog 109 #[v, u] w (GivesB w (l ++ Var.var m.length ++ m)) := by
  obtain ⟨x, cap, rfl, hcap, hg⟩ := g.shape
  have H := Lib.hid h; have G := Lib.hid hg
  clear h g hg
  go_enter Try.func109, Try.ntmps109
  go_wp2_with fail
  refine (specAppendVarint _ l m.length _ H.out (by omega)).mono ?_
  rintro e w1 ⟨v1, rfl, ho, hb⟩
  have HO := Lib.hid ho; have HB := Lib.hid hb
  have hv := Var.var_len m.length
  clear ho hb
  go_wp2_with (at_builtin; refine wpList_app (k := .u8) (B := w.heap.size) (l := l ++ Var.var m.length) (m := m) rfl _ _ rfl Try.underlying38 elemBYTE rfl rfl rfl HO.out (G.out.on HB.out) ?_ (by decide) ?_ ?_)
  · rw [List.length_append]; omega
  · exact HB.out.size
  intro v2 w2 ho hg
  have hb2 := HB.out.grown hg (by have := HB.out.size; omega) (fun k hk => (HO.out.lt k hk).1)
  have HO2 := Lib.hid ho; have HB2 := Lib.hid hb2
  clear ho hg hb2
  go_wp2_with fail
  go_ret
  exact ⟨_, rfl, by rw [List.append_assoc]; exact HO2.out, HB2.out⟩

set_option maxHeartbeats 1000000 in
theorem implAppendBytes (v u : Value) (l m : List Int) (w : World) (h : Holds .u8 w v l) (g : Holds .u8 w u m) (hl : l.length ≤ 10000000) (hm : m.length ≤ 10000000) :
    Calls Try.prog 119 #[v, u] w (GivesB w (l ++ Var.var m.length ++ m)) := by
  obtain ⟨x, cap, rfl, hcap, hg⟩ := g.shape
  have H := Lib.hid h; have G := Lib.hid hg
  clear h g hg
  go_enter Try.func119, Try.ntmps119
  go_wp2_with fail
  refine (implAppendVarint _ l m.length _ H.out (by omega)).mono ?_
  rintro e w1 ⟨v1, rfl, ho, hb⟩
  have HO := Lib.hid ho; have HB := Lib.hid hb
  have hv := Var.var_len m.length
  clear ho hb
  go_wp2_with (at_builtin; refine wpList_app (k := .u8) (B := w.heap.size) (l := l ++ Var.var m.length) (m := m) rfl _ _ rfl Try.underlying38 elemBYTE rfl rfl rfl HO.out (G.out.on HB.out) ?_ (by decide) ?_ ?_)
  · rw [List.length_append]; omega
  · exact HB.out.size
  intro v2 w2 ho hg
  have hb2 := HB.out.grown hg (by have := HB.out.size; omega) (fun k hk => (HO.out.lt k hk).1)
  have HO2 := Lib.hid ho; have HB2 := Lib.hid hb2
  clear ho hg hb2
  go_wp2_with fail
  go_ret
  exact ⟨_, rfl, by rw [List.append_assoc]; exact HO2.out, HB2.out⟩

/-! ### EqualBytes -/
theorem conv_holds {x : Option Addr} {cap : Nat} {l : List Int} {w : World} (h : Holds .u8 w (.slice x l.length cap) l) :
    (convert 38 9 (.slice x l.length cap)).run Try.prog w = .ok (.string (strOfNums l)) w := by
  obtain ⟨x', cap', hv, hc, hh⟩ := h
  cases hv
  rcases hh with rfl | ⟨b, off, rfl, hc⟩
  · cases x with
    | none => exact run_convert_bytes_nil w 38 5 Try.underlying38 Try.underlying5 _ _ 9 Try.underlying9
    | some a => exact run_convert_bytes_back w 38 9 5 a cap [] Try.underlying38 Try.underlying5 Try.underlying9 (fun j hj => absurd hj (by simp))
  · exact run_convert_bytes_arg w 38 5 Try.underlying38 Try.underlying5 b off l.length cap l rfl hc 9 Try.underlying9

end Go.Proofs.Ytnblopilgfdjkaa.Sl
/- Contracts of EncodeInts, the reference model's and the program's: the numbers' groups, one number after the other, in memory of the call's own. No conditions but that lengths fit. -/
namespace Go.Proofs.Ytnblopilgfdjkaa.Sl
open Go.ChangeShapes Go.WideShapes Go.ChangeAt Go.RowKit Go.Instr
set_option linter.unusedVariables false
set_option maxRecDepth 100000

/-- The groups of the first k numbers. -/
def encs (l : List Int) : List Int := l.flatMap Var.var
end Go.Proofs.Ytnblopilgfdjkaa.Sl
/- Contracts of the model's functions on interests: AppendName. No conditions but that lengths fit. -/
namespace Go.Proofs.Ytnblopilgfdjkaa.Row
open Go.ChangeShapes Go.WideShapes Go.ChangeAt Go.RowKit Go.Instr
set_option linter.unusedVariables false
set_option maxRecDepth 100000

/-- The parts' encodings, one behind the other. -/
def encPs (l : List ByteArray) : List Int := l.flatMap fun s => Var.var s.size ++ Sl.bytesOf s
def encN (l : List ByteArray) : List Int := Var.var l.length ++ encPs l
def appName (b : List Int) (l : List ByteArray) : List Int := if validN l = true then b ++ encN l else b
theorem encPs_next {l : List ByteArray} {k : Nat} (h : k < l.length) : encPs (l.take (k + 1)) = encPs (l.take k) ++ (Var.var (nth l k).size ++ Sl.bytesOf (nth l k)) := by
  unfold encPs
  rw [List.take_succ_eq_append_getElem h, List.flatMap_append, nth_eq h]
  simp
theorem encPs_len : ∀ l : List ByteArray, (encPs l).length ≤ 6 * bulk l
  | [] => by simp [encPs]
  | s :: r => by
    have h1 := encPs_len r
    have h2 := Var.var_len s.size
    have h3 : encPs (s :: r) = (Var.var s.size ++ Sl.bytesOf s) ++ encPs r := by simp [encPs]
    have h4 : bulk (s :: r) = 1 + s.size + bulk r := by simp [bulk_cons]
    rw [h3, List.length_append, List.length_append, Sl.bytesOf_length]
    omega
theorem bulk_take_le (l : List ByteArray) (k : Nat) : bulk (l.take k) ≤ bulk l := by
  have := bulk_append (l.take k) (l.drop k)
  rw [List.take_append_drop] at this
  omega
theorem size_bulk {l : List ByteArray} {k : Nat} (h : k < l.length) : (nth l k).size ≤ bulk l := by
  have h1 := bulk_append (l.take k) (l.drop k)
  rw [List.take_append_drop, List.drop_eq_getElem_cons h, bulk_cons, ← nth_eq h] at h1
  omega

set_option maxHeartbeats 2000000 in
theorem specAppendName (v u : Value) (b : List Int) (l : List ByteArray) (w : World) (h : Sl.Holds .u8 w v b) (g : Holds Value.string w u l) (hb : b.length ≤ 2000000) (hl : bulk l ≤ 1200000) :
    Calls Try.prog 98 #[v, .agg #[u]] w (Sl.GivesB w (appName b l)) := by
  obtain ⟨x, cx, rfl, hcx, hh⟩ := h.shape
  obtain ⟨y, q, cy, rfl, hq, hcy, hg⟩ := g.shapeN
  obtain ⟨m, hm⟩ : ∃ m, m = b.length := ⟨_, rfl⟩
  rw [← hm] at hcx hh hb ⊢
  have HM := Lib.hid hm; have HQ := Lib.hid hq
  have hb0 := (Below.refl w.heap.size w).alloc (Nat.le_refl _) (.cells #[.slice y q cy] 34)
  have hb1 := hb0.alloc (by simp) (.cells #[] 5)
  have HB1 := Lib.hid hb1
  have HH := Lib.hid (hh.on hb1)
  have HG := Lib.hid (hg.on hb1)
  have HX := Lib.hid ((Ret.Box.new w (.slice y q cy) 34).on ((Below.refl _ _).alloc (Nat.le_refl _) (.cells #[] 5)))
  have hoe := Sl.own_empty .u8 5 (w.alloc (.cells #[.slice y q cy] 34))
  rw [World.size_alloc] at hoe
  have HOE := Lib.hid hoe
  have HBL := Lib.hid hl
  have HG0 := Lib.hid hg
  have hql : q ≤ 1200000 := by rw [hq]; exact Nat.le_trans (bulk_len l) hl
  clear hh h g hg hm hq hb0 hb1 hoe
  go_enter Try.func98, Try.ntmps98
  go_wp2_with (at_builtin; refine Sl.wpList_app (k := .u8) (B := w.heap.size + 1) (l := []) (m := b) rfl _ _ rfl Try.underlying38 Sl.elemBYTE rfl rfl rfl HOE.out HH.out ?_ (by decide) ?_ ?_)
  · have := HM.out; simp; omega
  · simp
  intro v1 w1 ho hg
  have HB := Lib.hid (HB1.out.grown hg (by simp; omega) (fun g e => by cases e; exact Nat.le_succ _))
  have HO := Lib.hid (show Sl.Own 5 .u8 w.heap.size w1 v1 b from ho.mono (Nat.le_succ _))
  have HX1 := Lib.hid (HX.out.grown hg (by simp [Value.ownBlock]))
  have HG1 := Lib.hid (HG0.out.on HB.out)
  have hx1 := HX1.out.cell
  clear ho hg HX HOE HH HG
  obtain ⟨ok, hok⟩ : ∃ z, validN l = z := ⟨_, rfl⟩
  have HOK := Lib.hid hok
  go_wp2_with fail
  refine (specValidName _ l _ HG1.out (by omega)).mono ?_
  rintro e w2 ⟨rfl, hb2⟩
  rw [hok]
  have HB2 := Lib.hid (HB.out.trans (hb2.mono HB.out.size))
  have HO2 := Lib.hid (HO.out.on hb2)
  have HX2 := Lib.hid (HX1.out.on hb2)
  have hx2 := HX2.out.cell
  clear hb2 hok hx1
  cases ok with
  | false =>
    have HV : Hid (appName b l = b) := Lib.hid (by unfold appName; rw [if_neg (by rw [HOK.out]; simp)])
    go_wp2_with fail
    go_ret
    exact ⟨_, rfl, by rw [HV.out]; exact HO2.out, HB2.out⟩
  | true =>
    have HV : Hid (appName b l = b ++ encN l) := Lib.hid (by unfold appName; rw [if_pos HOK.out])
    go_wp2_with fail
    refine (Sl.specAppendVarint _ b q _ HO2.out.holds (by rw [← HM.out]; omega)).mono ?_
    rintro e w3 ⟨v3, rfl, ho3, hb3⟩
    have HO3 := Lib.hid (show Sl.Own 5 .u8 w.heap.size w3 v3 (b ++ Var.var q ++ encPs (l.take 0)) by rw [List.take_zero, show encPs [] = [] from rfl, List.append_nil]; exact ho3.mono HB2.out.size)
    have HB3 := Lib.hid (HB2.out.trans (hb3.mono HB2.out.size))
    have HX3 := Lib.hid (HX2.out.on hb3)
    clear ho3 hb3 hx2
    have hx3 := HX3.out.cell
    go_wp2_with fail
    go_loopw [5, 6] (fun tv iv wr => ∃ k : Nat, k ≤ q ∧ iv = .int .i64 k ∧ Hid (Sl.Own 5 .u8 w.heap.size wr tv (b ++ Var.var q ++ encPs (l.take k))) ∧ Hid (Below w.heap.size w wr) ∧ Hid (Ret.Box wr w.heap.size (.slice y q cy) 34)) (fun _ iv _ => q - (intOf iv).toNat)
    case atStart => exact ⟨0, Nat.zero_le _, rfl, HO3, HB3, HX3⟩
    case round =>
      obtain ⟨k, hk, rfl, hO, hB, hX⟩ := hrel
      have hxr := hX.out.cell
      by_cases hlt : k < q
      · obtain ⟨b0, off0, hy, hc⟩ := (HG0.out.on hB.out).at (j := k) (by rw [← HQ.out]; exact hlt)
        subst hy
        have hsz : (nth l k).size ≤ 1200000 := by
          have h2 := size_bulk (l := l) (k := k) (by rw [← HQ.out]; exact hlt)
          have h3 := HBL.out
          omega
        have hle : (encPs (l.take k)).length ≤ 7200000 := by
          have h1 := encPs_len (l.take k)
          have h2 := bulk_take_le l k
          have h3 := HBL.out
          omega
        have hll : (b ++ Var.var q ++ encPs (l.take k)).length ≤ 10000000 := by
          have h1 := Var.var_len q
          rw [List.length_append, List.length_append, ← HM.out]; omega
        have HN := Lib.hid (encPs_next (l := l) (k := k) (by rw [← HQ.out]; exact hlt))
        obtain ⟨cp, wc', e0, h0, b0'⟩ := Sl.conv_bytes wr (nth l k)
        have H0 := Lib.hid h0; have B0 := Lib.hid b0'
        have HLL := Lib.hid hll
        clear h0 b0' hle hll
        go_wp2_with fail
        refine (Sl.specAppendBytes _ _ (b ++ Var.var q ++ encPs (l.take k)) (Sl.bytesOf (nth l k)) wc' (hO.out.on B0.out).holds H0.out HLL.out (by rw [Sl.bytesOf_length]; omega)).mono ?_
        rintro e w4 ⟨v4, rfl, ho4, hb4⟩
        have HB4 := Lib.hid ((hB.out.trans (B0.out.mono hB.out.size)).trans (hb4.mono (Nat.le_trans hB.out.size B0.out.size)))
        have HO4 := Lib.hid (show Sl.Own 5 .u8 w.heap.size w4 v4 (b ++ Var.var q ++ encPs (l.take (k + 1))) by
          have h9 := ho4.mono (Nat.le_trans hB.out.size B0.out.size)
          rw [HN.out, ← List.append_assoc, ← Sl.bytesOf_length, ← List.append_assoc]
          exact h9)
        have HX4 := Lib.hid ((hX.out.on B0.out).on hb4)
        clear ho4 hb4 e0 hxr hc
        go_wp2_with fail
        go_roundw
        case rel => exact ⟨k + 1, by omega, by go_num, HO4, HB4, HX4⟩
        case measure => simp [intOf]; omega
      · obtain rfl : k = q := by omega
        clear hlt
        go_wp2_with fail
        go_ret
        refine ⟨_, rfl, ?_, hB.out⟩
        have h9 := hO.out
        rw [HQ.out, List.take_length] at h9
        rw [HV.out]
        unfold encN
        rw [← List.append_assoc]
        exact h9
end Go.Proofs.Ytnblopilgfdjkaa.Row
/- Contracts of the model's functions on interests: validity, copy, equality, the hop limit. No conditions but that lengths fit. -/
namespace Go.Proofs.Ytnblopilgfdjkaa.Row
open Go.ChangeShapes Go.WideShapes Go.ChangeAt Go.RowKit Go.Instr
set_option linter.unusedVariables false
set_option maxRecDepth 100000

abbrev Wt := List ByteArray × Int × Int × Int
def validW (x : Wt) : Bool := validN x.1 && decide (0 < x.1.length) && decide (0 ≤ x.2.1 ∧ x.2.1 ≤ 1000000) && decide (0 ≤ x.2.2.1 ∧ x.2.2.1 ≤ 16) && decide (1 ≤ x.2.2.2 ∧ x.2.2.2 ≤ 20)
/-- A result that is an interest whose name is the call's own. -/
def GivesW (w : World) (x : Wt) (e : Ending) (w' : World) : Prop := ∃ v', e = .returned (.agg (wc v' x.2.1 x.2.2.1 x.2.2.2)) ∧ Own 9 Value.string w.heap.size w' v' x.1 ∧ Below w.heap.size w w'
def GivesWB (w : World) (x : Wt) (z : Bool) (e : Ending) (w' : World) : Prop := ∃ v', e = .returned (.tuple #[.agg (wc v' x.2.1 x.2.2.1 x.2.2.2), .bool z]) ∧ Own 9 Value.string w.heap.size w' v' x.1 ∧ Below w.heap.size w w'

def decW (x : Wt) : Wt := if x.2.2.1 < 1 then x else (x.1, x.2.1, x.2.2.1 - 1, x.2.2.2)
def decOk (x : Wt) : Bool := decide (1 ≤ x.2.2.1)
end Go.Proofs.Ytnblopilgfdjkaa.Row
/- Contracts of ReadBytes, the reference model's and the program's: the bytes behind the length at the offset, the offset behind them, true; or an empty slice, 0 and false. What is returned lies in memory of the call's own. No conditions but that the elements are bytes and the lengths fit. -/
namespace Go.Proofs.Ytnblopilgfdjkaa.Sl
open Go.ChangeShapes Go.WideShapes Go.ChangeAt Go.RowKit Go.Instr
set_option linter.unusedVariables false
set_option maxRecDepth 100000

/-- What ReadBytes returns. -/
def readB (l : List Int) (i most : Int) : List Int × Int × Bool :=
  let r := Var.readV l i
  if r.2.2 = false ∨ most < r.1 ∨ (l.length : Int) - r.2.1 < r.1 then ([], 0, false)
  else ((l.drop r.2.1.toNat).take r.1.toNat, r.2.1 + r.1, true)
theorem holds_empty (k : IntKind) (w : World) (x : Option Addr) (c : Nat) : Holds k w (.slice x 0 c) [] := ⟨x, c, rfl, by simp, Or.inl rfl⟩

def GivesB3 (w : World) (l : List Int) (n : Int) (ok : Bool) (e : Ending) (w' : World) : Prop := ∃ v, e = .returned (.tuple #[v, .int .i64 n, .bool ok]) ∧ Own 5 .u8 w.heap.size w' v l ∧ Below w.heap.size w w'
theorem GivesB3.of {w w' : World} {v : Value} {l m : List Int} {n p : Int} {a b : Bool} (h : (l, n, a) = (m, p, b)) (ho : Own 5 .u8 w.heap.size w' v l) (hb : Below w.heap.size w w') :
    GivesB3 w m p b (.returned (.tuple #[v, .int .i64 n, .bool a])) w' := by
  cases h; exact ⟨v, rfl, ho, hb⟩

end Go.Proofs.Ytnblopilgfdjkaa.Sl
/- Contract of the model's EncodeInterest. No conditions but that lengths fit. -/
namespace Go.Proofs.Ytnblopilgfdjkaa.Sl
open Go.ChangeShapes Go.WideShapes Go.ChangeAt Go.RowKit Go.Instr
set_option linter.unusedVariables false
/-- append to a slice of numbers of the call's own, as a step of a statement that draws its order. -/
theorem step_app2 {P : Program} {ops : Array Oper} {o : Oper} {a : Act} {w : World} {K : Act → World → Prop} {Q : Exit → Act → World → Prop} {E : Prop} {k : IntKind} {e t : TypeId} {bytes : Nat} {z : Value}
    (hg : o.guard = none) (s x : Operand) (hop : o.op = Op.call { callee := Callee.builtin Builtin.append, args := #[s, x], argTypes := #[t, t] }) (ht : P.underlying t = some (.slice e)) (hi : Elem P e z bytes) (hz : z.cells.size = 1)
    {B : Nat} {v : Value} {ad : Addr} {n c : Nat} {l m : List Int} (hs : a.eval s = v) (hx : a.eval x = .slice (some ad) n c) (hown : Own e k B w v l) (hsrc : Holds k w (.slice (some ad) n c) m) (hlen : (l.length + m.length) * 8 ≤ 140737488355328) (hby : bytes ≤ 8) (hB : B ≤ w.heap.size)
    (hK : ∀ v' w', Own e k B w' v' (l ++ m) → w.grownBy w' v.ownBlock → K (a.put o.dst v') w') :
    if Region.wanted o (yielded ops a.tmps) = true then Oper.wp P o a w K Q else E := by
  have hw : Region.wanted o (yielded ops a.tmps) = true := by simp [Region.wanted, hg]
  rw [if_pos hw]
  obtain ⟨i, h1, h2, h3, h4⟩ := info_parts hi
  have hbytes : (l.length + m.length) * bytes ≤ 140737488355328 := Nat.le_trans (Nat.mul_le_mul_left _ hby) hlen
  have h63 : l.length + m.length ≤ maxLen := by unfold maxLen; omega
  obtain rfl := hsrc.lenEq
  obtain ⟨v', w', hrun, r1, r2, _⟩ := run_append_own (P := P) w B t o.type e i z 1 bytes ht h1 h2 h3 h4 hz (by decide) v l.length (l.map (Value.int k)) hown ad m.length c (m.map (Value.int k)) (by simp) hsrc.cells (oneCell k m) h63 hbytes hB
  unfold Oper.wp
  simp [execOp, hop, resolve, invoke, builtin, hs, hx, hrun, Result.andThen]
  refine hK v' w' ?_ r2
  unfold Own
  rw [List.length_append, List.map_append]; exact r1
end Go.Proofs.Ytnblopilgfdjkaa.Sl
namespace Go.Proofs.Ytnblopilgfdjkaa.Row
open Go.ChangeShapes Go.WideShapes Go.ChangeAt Go.RowKit Go.Instr
set_option linter.unusedVariables false
set_option maxRecDepth 100000

def encW (x : Wt) : List Int := if validW x = true then appName [] x.1 ++ Sl.encs [x.2.1, x.2.2.1, x.2.2.2] else []
end Go.Proofs.Ytnblopilgfdjkaa.Row
/- Contract of the model's ReadName. No conditions but that lengths fit. -/
namespace Go.Proofs.Ytnblopilgfdjkaa.Row
open Go.ChangeShapes Go.WideShapes Go.ChangeAt Go.RowKit Go.Instr
set_option linter.unusedVariables false
set_option maxRecDepth 100000

/-- So many parts are read from place i on, behind those that were read. -/
def rdP : Nat → List Int → Int → List ByteArray → Option (List ByteArray × Int)
  | 0, _, i, acc => some (acc, i)
  | k + 1, b, i, acc => if (Sl.readB b i 8).2.2 = true then rdP k b (Sl.readB b i 8).2.1 (acc ++ [strOfNums (Sl.readB b i 8).1]) else none
def rdN (b : List Int) (i : Int) : List ByteArray × Int × Bool :=
  if (Var.readV b i).2.2 = false ∨ 6 < (Var.readV b i).1 then ([], 0, false)
  else match rdP (Var.readV b i).1.toNat b (Var.readV b i).2.1 [] with
    | none => ([], 0, false)
    | some (l, j) => if validN l = true then (l, j, true) else ([], 0, false)
def GivesN3 (w : World) (l : List ByteArray) (n : Int) (ok : Bool) (e : Ending) (w' : World) : Prop := ∃ v, e = .returned (.tuple #[.agg #[v], .int .i64 n, .bool ok]) ∧ Own 9 Value.string w.heap.size w' v l ∧ Below w.heap.size w w'
end Go.Proofs.Ytnblopilgfdjkaa.Row
namespace Go.Proofs.Ytnblopilgfdjkaa.Ret
variable {P : Program}
end Go.Proofs.Ytnblopilgfdjkaa.Ret
namespace Go.Proofs.Ytnblopilgfdjkaa.Row
open Go.ChangeShapes Go.WideShapes Go.ChangeAt Go.RowKit Go.Instr
set_option linter.unusedVariables false
set_option maxRecDepth 100000
end Go.Proofs.Ytnblopilgfdjkaa.Row
/- Contracts of the program's functions on interests: validity, AppendName, the numbers, copy, the hop limit. No conditions but that lengths fit. -/
namespace Go.Proofs.Ytnblopilgfdjkaa.Row
open Go.ChangeShapes Go.WideShapes Go.ChangeAt Go.RowKit Go.Instr
set_option linter.unusedVariables false
set_option maxRecDepth 100000

set_option maxHeartbeats 4000000 in
theorem implAppendName (v u : Value) (b : List Int) (l : List ByteArray) (w : World) (h : Sl.Holds .u8 w v b) (g : Holds Value.string w u l) (hb : b.length ≤ 2000000) (hl : bulk l ≤ 1200000) :
    Calls Try.prog 113 #[v, .agg #[u]] w (Sl.GivesB w (appName b l)) := by
  obtain ⟨x, cx, rfl, hcx, hh⟩ := h.shape
  obtain ⟨y, q, cy, rfl, hq, hcy, hg⟩ := g.shapeN
  obtain ⟨m, hm⟩ : ∃ m, m = b.length := ⟨_, rfl⟩
  rw [← hm] at hcx hh hb ⊢
  have HM := Lib.hid hm; have HQ := Lib.hid hq
  have hb0 := (Below.refl w.heap.size w).alloc (Nat.le_refl _) (.cells #[.slice y q cy] 34)
  have HB1 := Lib.hid hb0
  have HH := Lib.hid hh
  have HG := Lib.hid (hg.on hb0)
  have HX := Lib.hid (Ret.Box.new w (.slice y q cy) 34)
  have HBL := Lib.hid hl
  have HG0 := Lib.hid hg
  have hql : q ≤ 1200000 := by rw [hq]; exact Nat.le_trans (bulk_len l) hl
  clear hh h g hg hm hq hb0
  obtain ⟨ok, hok⟩ : ∃ z, validN l = z := ⟨_, rfl⟩
  have HOK := Lib.hid hok
  go_enter Try.func113, Try.ntmps113
  go_wp2_with fail
  refine (implValidName _ l _ HG.out (by omega)).mono ?_
  rintro e w2 ⟨rfl, hb2⟩
  rw [hok]
  have HB2 := Lib.hid (HB1.out.trans (hb2.mono HB1.out.size))
  have HX2 := Lib.hid (HX.out.on hb2)
  have HH2 := Lib.hid (HH.out.on HB2.out)
  have hx2 := HX2.out.cell
  clear hb2 hok
  cases ok with
  | false =>
    have HV : Hid (appName b l = b) := Lib.hid (by unfold appName; rw [if_neg (by rw [HOK.out]; simp)])
    have HOE := Lib.hid (Sl.own_empty .u8 5 w2)
    have HHE := Lib.hid (HH2.out.on ((Below.refl _ _).alloc (Nat.le_refl _) (.cells #[] 5)))
    have HBE := Lib.hid (HB2.out.alloc HB2.out.size (.cells #[] 5))
    go_wp2_with (at_builtin; refine Sl.wpList_app (k := .u8) (B := w2.heap.size) (l := []) (m := b) rfl _ _ rfl Try.underlying38 Sl.elemBYTE rfl rfl rfl HOE.out HHE.out ?_ (by decide) ?_ ?_)
    · have := HM.out; simp; omega
    · simp
    intro v1 w1 ho hg
    have HB := Lib.hid (HBE.out.grown hg HBE.out.size (fun g e => by cases e; exact HB2.out.size))
    have HO := Lib.hid (show Sl.Own 5 .u8 w.heap.size w1 v1 b from ho.mono HB2.out.size)
    clear ho hg
    go_wp2_with fail
    go_ret
    exact ⟨_, rfl, by rw [HV.out]; exact HO.out, HB.out⟩
  | true =>
    have HV : Hid (appName b l = b ++ encN l) := Lib.hid (by unfold appName; rw [if_pos HOK.out])
    go_wp2_with fail
    refine (Sl.implAppendVarint _ b q _ HH2.out (by rw [← HM.out]; omega)).mono ?_
    rintro e w3 ⟨v3, rfl, ho3, hb3⟩
    have HO3 := Lib.hid (show Sl.Own 5 .u8 w.heap.size w3 v3 (b ++ Var.var q ++ encPs (l.take 0)) by rw [List.take_zero, show encPs [] = [] from rfl, List.append_nil]; exact ho3.mono HB2.out.size)
    have HB3 := Lib.hid (HB2.out.trans (hb3.mono HB2.out.size))
    have HX3 := Lib.hid (HX2.out.on hb3)
    clear ho3 hb3 hx2
    have hx3 := HX3.out.cell
    go_wp2_with fail
    go_loopw [0, 6, 21] (fun tv pv iv wr => ∃ k : Nat, k ≤ q ∧ iv = .int .i64 k ∧ Hid (Sl.Own 5 .u8 w.heap.size wr tv (b ++ Var.var q ++ encPs (l.take k))) ∧ Hid (Below w.heap.size w wr)) (fun _ _ iv _ => q - (intOf iv).toNat)
    case atStart => exact ⟨0, Nat.zero_le _, rfl, HO3, HB3⟩
    case round =>
      obtain ⟨k, hk, rfl, hO, hB⟩ := hrel
      by_cases hlt : k < q
      · obtain ⟨b0, off0, hy, hc⟩ := (HG0.out.on hB.out).at (j := k) (by rw [← HQ.out]; exact hlt)
        subst hy
        have hsz : (nth l k).size ≤ 1200000 := by
          have h2 := size_bulk (l := l) (k := k) (by rw [← HQ.out]; exact hlt)
          have h3 := HBL.out
          omega
        have hle : (encPs (l.take k)).length ≤ 7200000 := by
          have h1 := encPs_len (l.take k)
          have h2 := bulk_take_le l k
          have h3 := HBL.out
          omega
        have hll : (b ++ Var.var q ++ encPs (l.take k)).length ≤ 10000000 := by
          have h1 := Var.var_len q
          rw [List.length_append, List.length_append, ← HM.out]; omega
        have HN := Lib.hid (encPs_next (l := l) (k := k) (by rw [← HQ.out]; exact hlt))
        obtain ⟨cp, wc', e0, h0, b0'⟩ := Sl.conv_bytes wr (nth l k)
        have H0 := Lib.hid h0; have B0 := Lib.hid b0'
        have HLL := Lib.hid hll
        clear h0 b0' hle hll
        go_wp2_with fail
        refine (Sl.implAppendBytes _ _ (b ++ Var.var q ++ encPs (l.take k)) (Sl.bytesOf (nth l k)) wc' (hO.out.on B0.out).holds H0.out HLL.out (by rw [Sl.bytesOf_length]; omega)).mono ?_
        rintro e w4 ⟨v4, rfl, ho4, hb4⟩
        have HB4 := Lib.hid ((hB.out.trans (B0.out.mono hB.out.size)).trans (hb4.mono (Nat.le_trans hB.out.size B0.out.size)))
        have HO4 := Lib.hid (show Sl.Own 5 .u8 w.heap.size w4 v4 (b ++ Var.var q ++ encPs (l.take (k + 1))) by
          have h9 := ho4.mono (Nat.le_trans hB.out.size B0.out.size)
          rw [HN.out, ← List.append_assoc, ← Sl.bytesOf_length, ← List.append_assoc]
          exact h9)
        clear ho4 hb4 e0 hc
        go_wp2_with fail
        go_roundw
        case rel => exact ⟨k + 1, by omega, by go_num, HO4, HB4⟩
        case measure => simp [intOf]; omega
      · obtain rfl : k = q := by omega
        clear hlt
        go_wp2_with fail
        go_ret
        refine ⟨_, rfl, ?_, hB.out⟩
        have h9 := hO.out
        rw [HQ.out, List.take_length] at h9
        rw [HV.out]
        unfold encN
        rw [← List.append_assoc]
        exact h9
end Go.Proofs.Ytnblopilgfdjkaa.Row
/- Contract of the program's ReadName. No conditions but that lengths fit. -/
namespace Go.Proofs.Ytnblopilgfdjkaa.Row
open Go.ChangeShapes Go.WideShapes Go.ChangeAt Go.RowKit Go.Instr
set_option linter.unusedVariables false
set_option maxRecDepth 100000

end Go.Proofs.Ytnblopilgfdjkaa.Row
/- Contracts of DecodeInts, the reference model's and the program's: so many numbers at the offset, the offset behind them, true; or an empty slice, 0 and false. What is returned lies in memory of the call's own. No conditions but that the elements are bytes and the length fits. -/
namespace Go.Proofs.Ytnblopilgfdjkaa.Sl
open Go.ChangeShapes Go.WideShapes Go.ChangeAt Go.RowKit Go.Instr
set_option linter.unusedVariables false
set_option maxRecDepth 100000

def decA : Nat → List Int → Int → List Int → List Int × Int × Bool
  | 0, _, i, acc => (acc, i, true)
  | k + 1, l, i, acc => if (Var.readV l i).2.2 = true then decA k l (Var.readV l i).2.1 (acc ++ [(Var.readV l i).1]) else ([], 0, false)
/-- What DecodeInts returns. -/
def readIs (l : List Int) (i n : Int) : List Int × Int × Bool := if (0 ≤ n ∧ n ≤ 100) ∧ 0 ≤ i ∧ i ≤ l.length then decA n.toNat l i [] else ([], 0, false)
def GivesI3 (w : World) (l : List Int) (n : Int) (ok : Bool) (e : Ending) (w' : World) : Prop := ∃ v, e = .returned (.tuple #[v, .int .i64 n, .bool ok]) ∧ Own 3 .i64 w.heap.size w' v l ∧ Below w.heap.size w w'
theorem GivesI3.of {w w' : World} {v : Value} {l m : List Int} {n p : Int} {a b : Bool} (h : (l, n, a) = (m, p, b)) (ho : Own 3 .i64 w.heap.size w' v l) (hb : Below w.heap.size w w') :
    GivesI3 w m p b (.returned (.tuple #[v, .int .i64 n, .bool a])) w' := by
  cases h; exact ⟨v, rfl, ho, hb⟩
end Go.Proofs.Ytnblopilgfdjkaa.Sl
/- Plain mathematics: what the encoding writes is read back, and what is read is what the encoding writes. No program in sight. -/
namespace Go.Proofs.Ytnblopilgfdjkaa.Var
open Sl (Byt)

end Go.Proofs.Ytnblopilgfdjkaa.Var
/- Contract of the model's DecodeInterest. No conditions but that lengths fit. -/
namespace Go.Proofs.Ytnblopilgfdjkaa.Row
open Go.ChangeShapes Go.WideShapes Go.ChangeAt Go.RowKit Go.Instr
set_option linter.unusedVariables false
set_option maxRecDepth 100000

def w0 : Wt := ([], 0, 0, 0)
/-- What DecodeInterest reads. -/
def gotW (b : List Int) : Wt := ((rdN b 0).1, Sl.nth (Sl.readIs b (rdN b 0).2.1 3).1 0, Sl.nth (Sl.readIs b (rdN b 0).2.1 3).1 1, Sl.nth (Sl.readIs b (rdN b 0).2.1 3).1 2)
def dcW (b : List Int) : Wt × Bool :=
  if (rdN b 0).2.2 = true ∧ (Sl.readIs b (rdN b 0).2.1 3).2.2 = true ∧ (Sl.readIs b (rdN b 0).2.1 3).2.1 = b.length ∧ validW (gotW b) = true then (gotW b, true) else (w0, false)
end Go.Proofs.Ytnblopilgfdjkaa.Row
/- Plain mathematics of encodings: what is encoded is read back, what is read is what is encoded. No conditions but those that are named. -/
namespace Go.Proofs.Ytnblopilgfdjkaa.Row
open Go.RowKit
set_option linter.unusedVariables false
set_option maxRecDepth 100000

/-! ### what is read is what is encoded -/
/-! ### what is encoded is read back -/
theorem str_back (s : ByteArray) : strOfNums (Sl.bytesOf s) = s := by
  obtain ⟨⟨d⟩⟩ := s
  unfold strOfNums Sl.bytesOf
  simp only [List.map_map]
  congr 1
  congr 1
  conv => rhs; rw [← List.map_id d]
  apply List.map_congr_left
  intro x hx
  simp only [Function.comp, id, Int.toNat_natCast, UInt8.ofNat_toNat]
end Go.Proofs.Ytnblopilgfdjkaa.Row
/- Keyrings as data: a map from a name's text to the first key with this name; the numbers that are in use; valid lists of keys. No conditions. -/
namespace Go.Proofs.Ytnblopilgfdjkaa.Row.Ring
open Go.ChangeShapes Go.WideShapes Go.ChangeAt Go.RowKit Go.Instr
set_option linter.unusedVariables false
set_option maxRecDepth 100000

/-! ### names' texts -/
theorem enc_app (n : Nat) : ∀ (m : Nat) (s t : List Int), Var.enc n ++ s = Var.enc m ++ t → n = m ∧ s = t := by
  induction n using Nat.strongRecOn with
  | ind n ih =>
    intro m s t h
    by_cases hn : n < 128
    · by_cases hm : m < 128
      · rw [Var.enc_small hn, Var.enc_small hm] at h
        simp only [List.cons_append, List.nil_append, List.cons.injEq] at h
        exact ⟨by omega, h.2⟩
      · rw [Var.enc_small hn, Var.enc_big hm] at h
        simp only [List.cons_append, List.nil_append, List.cons.injEq] at h
        exact absurd h.1 (by omega)
    · by_cases hm : m < 128
      · rw [Var.enc_big hn, Var.enc_small hm] at h
        simp only [List.cons_append, List.nil_append, List.cons.injEq] at h
        exact absurd h.1 (by omega)
      · rw [Var.enc_big hn, Var.enc_big hm] at h
        simp only [List.cons_append, List.cons.injEq] at h
        obtain ⟨e1, e2⟩ := ih (n / 128) (by omega) (m / 128) s t h.2
        exact ⟨by omega, e2⟩
theorem encPs_cons (s : ByteArray) (r : List ByteArray) : encPs (s :: r) = Var.var s.size ++ (Sl.bytesOf s ++ encPs r) := by simp [encPs]
/-- The parts are no longer than an integer that is encoded. -/
def smN (l : List ByteArray) : Prop := ∀ x ∈ l, x.size ≤ 1000000000000
theorem smN_bulk {l : List ByteArray} (h : bulk l ≤ 9000000) : smN l := fun x hx => by
  obtain ⟨k, hk, rfl⟩ := List.getElem_of_mem hx
  have := size_bulk hk
  rw [nth_eq hk] at this
  omega
theorem encPs_inj : ∀ (l m : List ByteArray), smN l → smN m → encPs l = encPs m → l = m
  | [], [], _, _, _ => rfl
  | [], s :: r, _, hm, h => by
    rw [encPs_cons, Var.var_in (by omega) (by have := hm s (by simp); omega)] at h
    have h1 := congrArg List.length h
    have h2 := Var.enc_pos (s.size : Int).toNat
    simp only [List.length_append] at h1
    have h3 : (encPs []).length = 0 := rfl
    omega
  | s :: r, [], hl, _, h => by
    rw [encPs_cons, Var.var_in (by omega) (by have := hl s (by simp); omega)] at h
    have h1 := congrArg List.length h
    have h2 := Var.enc_pos (s.size : Int).toNat
    simp only [List.length_append] at h1
    have h3 : (encPs []).length = 0 := rfl
    omega
  | s :: r, t :: q, hl, hm, h => by
    rw [encPs_cons, encPs_cons, Var.var_in (by omega) (by have := hl s (by simp); omega), Var.var_in (by omega) (by have := hm t (by simp); omega)] at h
    obtain ⟨e1, e2⟩ := enc_app _ _ _ _ h
    have e3 : s.size = t.size := by omega
    obtain ⟨e4, e5⟩ := List.append_inj e2 (by rw [Sl.bytesOf_length, Sl.bytesOf_length, e3])
    have e6 : s = t := by rw [← str_back s, ← str_back t, e4]
    rw [e6, encPs_inj r q (fun x hx => hl x (by simp [hx])) (fun x hx => hm x (by simp [hx])) e5]
theorem encPs_byt : ∀ l : List ByteArray, Sl.Byt (encPs l)
  | [] => fun x hx => by simp [encPs] at hx
  | s :: r => fun x hx => by
    rw [encPs_cons] at hx
    rcases List.mem_append.1 hx with hx | hx
    · unfold Var.var at hx
      split at hx
      · exact Var.enc_byte _ x hx
      · simp at hx
    · rcases List.mem_append.1 hx with hx | hx
      · exact Sl.bytesOf_byt s x hx
      · exact encPs_byt r x hx
/-- What the program keeps a name's key under. -/
def txt (l : List ByteArray) : ByteArray := strOfNums (encPs l)
def kl (l : List ByteArray) : Lit := .string (txt l).data.toList
theorem bytes_inj : ∀ (a b : List Int), Sl.Byt a → Sl.Byt b → (a.map fun n => UInt8.ofNat n.toNat) = (b.map fun n => UInt8.ofNat n.toNat) → a = b
  | [], [], _, _, _ => rfl
  | [], _ :: _, _, _, h => by simp at h
  | _ :: _, [], _, _, h => by simp at h
  | x :: r, y :: s, ha, hb, h => by
    simp only [List.map_cons, List.cons.injEq] at h
    have h1 := ha x (by simp)
    have h2 := hb y (by simp)
    have h3 := congrArg UInt8.toNat h.1
    simp at h3
    have h4 : x = y := by omega
    rw [h4, bytes_inj r s (fun z hz => ha z (by simp [hz])) (fun z hz => hb z (by simp [hz])) h.2]
theorem kl_inj {l m : List ByteArray} (hl : smN l) (hm : smN m) (h : kl l = kl m) : l = m := by
  have h1 : (txt l).data.toList = (txt m).data.toList := by
    unfold kl at h
    injection h
  unfold txt at h1
  rw [strOfNums_data, strOfNums_data] at h1
  exact encPs_inj l m hl hm (bytes_inj _ _ (encPs_byt l) (encPs_byt m) (by simpa using h1))
theorem kl_key (l : List ByteArray) : WideAt.IsKeyLit (kl l) := trivial
theorem txt_size (l : List ByteArray) : (txt l).size ≤ 6 * bulk l := by
  have h := encPs_len l
  have e : (txt l).size = (encPs l).length := by
    show (txt l).data.size = _
    unfold txt
    have := congrArg List.length (strOfNums_data (encPs l))
    simpa using this
  omega

/-! ### the keyring -/
/-- An element is held as it is. -/
def heldV (v : Value) : Option (DataW Value × List MemPlace) := some (.held v, [])
theorem heldV_inj {v u : Value} {ps : List MemPlace} (h : heldV v = some (.held u, ps)) : v = u := by
  unfold heldV at h
  cases h
  rfl
def step (D : DataW Value) (x : List ByteArray × Value) : DataW Value := if Maps.has D (kl x.1) then D else D.put (kl x.1) (.held x.2)
def ringD (l : List (List ByteArray × Value)) : DataW Value := l.foldl step (.map [])
theorem ringD_next (l : List (List ByteArray × Value)) (x : List ByteArray × Value) : ringD (l ++ [x]) = step (ringD l) x := by simp [ringD, List.foldl_append]
theorem step_tidy {D : DataW Value} (h : Maps.Tidy D) (x : List ByteArray × Value) : Maps.Tidy (step D x) := by
  unfold step
  split
  · exact h
  · exact h.put (kl_key _) _
/-- The first one with this name. -/
def fst1 (m : List ByteArray) : List (List ByteArray × Value) → DataW Value → DataW Value
  | [], z => z
  | x :: r, z => if x.1 = m then .held x.2 else fst1 m r z
theorem fold_at (m : List ByteArray) (hm : smN m) (z : DataW Value) : ∀ (l : List (List ByteArray × Value)) (D : DataW Value), (∀ x ∈ l, smN x.1) → Maps.Tidy D →
    (l.foldl step D).atKey (kl m) z = if Maps.has D (kl m) then D.atKey (kl m) z else fst1 m l z
  | [], D, _, _ => by
    show D.atKey (kl m) z = _
    split
    · rfl
    · rename_i h
      exact Maps.atKey_of_not_has (by simpa using h) z
  | x :: r, D, hl, hD => by
    have ih := fold_at m hm z r (step D x) (fun y hy => hl y (by simp [hy])) (step_tidy hD x)
    rw [List.foldl_cons, ih]
    by_cases he : x.1 = m
    · rw [show fst1 m (x :: r) z = .held x.2 from if_pos he]
      unfold step
      rw [he]
      cases hh : Maps.has D (kl m) with
      | true => simp [hh]
      | false =>
        simp only [Bool.false_eq_true, if_false]
        rw [Maps.has_put_same hD.isMap (kl_key m), Maps.atKey_put_same hD.isMap (kl_key m)]
        simp
    · rw [show fst1 m (x :: r) z = fst1 m r z from if_neg he]
      have hne : kl m ≠ kl x.1 := fun e => he (kl_inj hm (hl x (by simp)) e).symm
      unfold step
      cases hh : Maps.has D (kl x.1) with
      | true => simp
      | false =>
        simp only [Bool.false_eq_true, if_false]
        rw [Maps.has_put_other hne, Maps.atKey_put_other hne]
theorem ringD_at {l : List (List ByteArray × Value)} {m : List ByteArray} (hl : ∀ x ∈ l, smN x.1) (hm : smN m) (z : DataW Value) : (ringD l).atKey (kl m) z = fst1 m l z := by
  unfold ringD
  rw [fold_at m hm z l _ hl Maps.tidy_empty]
  simp [Maps.has]
theorem fold_le : ∀ (l : List (List ByteArray × Value)) (D : DataW Value), Maps.Tidy D → Maps.size (l.foldl step D) ≤ Maps.size D + l.length
  | [], D, _ => by simp
  | x :: r, D, h => by
    have ih := fold_le r (step D x) (step_tidy h x)
    rw [List.foldl_cons]
    have h1 : Maps.size (step D x) ≤ Maps.size D + 1 := by
      unfold step
      split
      · omega
      · rw [Maps.size_put h]; split <;> omega
    simp only [List.length_cons]
    omega
theorem fold_size : ∀ (l : List (List ByteArray × Value)) (D : DataW Value), (∀ x ∈ l, smN x.1) → Maps.Tidy D →
    (Maps.size (l.foldl step D) = Maps.size D + l.length ↔ (l.map (·.1)).Nodup ∧ ∀ x ∈ l, Maps.has D (kl x.1) = false)
  | [], D, _, _ => by simp
  | x :: r, D, hl, h => by
    have hle := fold_le r (step D x) (step_tidy h x)
    have ih := fold_size r (step D x) (fun y hy => hl y (by simp [hy])) (step_tidy h x)
    rw [List.foldl_cons]
    cases hh : Maps.has D (kl x.1) with
    | true =>
      have e : step D x = D := by unfold step; simp [hh]
      rw [e] at hle ⊢
      simp only [List.length_cons]
      constructor
      · intro h1; omega
      · intro h1
        have := h1.2 x (by simp)
        rw [hh] at this
        cases this
    | false =>
      have e : step D x = D.put (kl x.1) (.held x.2) := by unfold step; simp [hh]
      have e2 : Maps.size (step D x) = Maps.size D + 1 := by rw [e, Maps.size_put h]; simp [hh]
      rw [e2] at ih
      rw [show Maps.size D + (x :: r).length = Maps.size D + 1 + r.length by simp; omega, ih]
      simp only [List.map_cons, List.nodup_cons, List.mem_cons]
      constructor
      · rintro ⟨h1, h2⟩
        refine ⟨⟨fun hx => ?_, h1⟩, fun y hy => ?_⟩
        · obtain ⟨y, hy, hyx⟩ := List.mem_map.1 hx
          have := h2 y hy
          rw [e, hyx, Maps.has_put_same h.isMap (kl_key _)] at this
          cases this
        · rcases hy with rfl | hy
          · exact hh
          · by_cases hk : kl y.1 = kl x.1
            · rw [hk]; exact hh
            · have := h2 y hy
              rw [e, Maps.has_put_other hk] at this
              exact this
      · rintro ⟨⟨h1, h2⟩, h3⟩
        refine ⟨h2, fun y hy => ?_⟩
        rw [e, Maps.has_put_other (fun ek => h1 ?_)]
        · exact h3 y (Or.inr hy)
        · have := kl_inj (hl y (by simp [hy])) (hl x (by simp)) ek
          rw [← this]
          exact List.mem_map_of_mem hy
theorem ringD_size {l : List (List ByteArray × Value)} (hl : ∀ x ∈ l, smN x.1) : Maps.size (ringD l) = l.length ↔ (l.map (·.1)).Nodup := by
  have h := fold_size l (.map []) hl Maps.tidy_empty
  have e : Maps.size (.map [] : DataW Value) = 0 := rfl
  rw [e, Nat.zero_add] at h
  unfold ringD
  rw [h]
  simp [Maps.has]

/-! ### the numbers in use -/
def sk (s : Int) : Lit := .int .i64 s
def secD (l : List Int) : DataW Value := l.foldl (fun D s => D.put (sk s) (.held (.bool true))) (.map [])
theorem secD_next (l : List Int) (s : Int) : secD (l ++ [s]) = (secD l).put (sk s) (.held (.bool true)) := by simp [secD, List.foldl_append]
theorem sec_fold (s : Int) (z : DataW Value) : ∀ (l : List Int) (D : DataW Value), Maps.IsMap D → (l.foldl (fun D s => D.put (sk s) (.held (.bool true))) D).atKey (sk s) z = if s ∈ l then .held (.bool true) else D.atKey (sk s) z
  | [], D, _ => by simp
  | x :: r, D, h => by
    rw [List.foldl_cons, sec_fold s z r _ (h.put _ _)]
    by_cases he : s = x
    · subst he
      rw [Maps.atKey_put_same h (show WideAt.IsKeyLit (sk s) from trivial)]
      simp
    · have hne : sk s ≠ sk x := fun e => he (by unfold sk at e; injection e)
      rw [Maps.atKey_put_other hne]
      simp [he]
theorem secD_at (l : List Int) (s : Int) : (secD l).atKey (sk s) (.held (.bool false)) = .held (.bool (decide (s ∈ l))) := by
  unfold secD
  rw [sec_fold s _ l _ Maps.isMap_empty]
  by_cases h : s ∈ l <;> simp [h, DataW.atKey]

/-! ### lists of keys -/
/-- The keys as they are held. -/
def pairs (L : List Ent) : List (List ByteArray × Value) := L.map fun x => (x.ps, x.whole)
theorem pairs_take (L : List Ent) {k : Nat} (h : k < L.length) : pairs (L.take (k + 1)) = pairs (L.take k) ++ [((nth L k).ps, (nth L k).whole)] := by
  rw [List.take_succ_eq_append_getElem h, ← nth_eq h]; simp [pairs]
theorem pairs_fst (L : List Ent) : (pairs L).map (·.1) = (strip L).map (·.1) := by simp [pairs, strip, Ent.t]
theorem pairs_length (L : List Ent) : (pairs L).length = (strip L).length := by simp [pairs, strip]
theorem pairs_sm {L : List Ent} (h : smT (strip L)) : ∀ x ∈ pairs L, smN x.1 := by
  intro x hx
  obtain ⟨y, hy, rfl⟩ := List.mem_map.1 hx
  exact smN_bulk (h _ (strip_mem hy))
theorem lkN_cons (x : List ByteArray × Int) (T : List (List ByteArray × Int)) (n : List ByteArray) : lkN (x :: T) n = if x.1 = n then x.2 else lkN T n := by
  by_cases he : x.1 = n
  · have h1 : isN n x = true := by unfold isN; exact eqB_true he
    unfold lkN
    rw [List.findIdx_cons, h1, if_pos he]
    simp [nth]
  · have h1 : isN n x = false := by unfold isN; exact eqB_false he
    unfold lkN
    rw [List.findIdx_cons, h1, if_neg he]
    simp only [cond_false, List.length_cons, Nat.add_lt_add_iff_right]
    by_cases h2 : T.findIdx (isN n) < T.length
    · rw [if_pos h2, if_pos h2]; simp [nth]
    · rw [if_neg h2, if_neg h2]
theorem lkN_nil (n : List ByteArray) : lkN [] n = 0 := by simp [lkN]
def zK : Value := .agg #[.slice none 0 0, .int .i64 0]
/-- What is held under a name: a key with the number that the model finds. -/
theorem fst1_lk (m : List ByteArray) : ∀ L : List Ent, ∃ ad n cap, fst1 m (pairs L) (.held zK) = .held (.agg #[.slice ad n cap, .int .i64 (lkN (strip L) m)])
  | [] => ⟨none, 0, 0, by show DataW.held zK = _; rw [show strip [] = [] from rfl, lkN_nil]; rfl⟩
  | x :: L => by
    have e1 : pairs (x :: L) = (x.ps, x.whole) :: pairs L := rfl
    have e2 : strip (x :: L) = x.t :: strip L := rfl
    rw [e1, e2, lkN_cons]
    unfold fst1
    by_cases he : x.ps = m
    · rw [if_pos (show (x.ps, x.whole).1 = m from he), if_pos (show x.t.1 = m from he)]
      exact ⟨x.ad, x.n, x.cap, rfl⟩
    · rw [if_neg (show ¬ (x.ps, x.whole).1 = m from he), if_neg (show ¬ x.t.1 = m from he)]
      exact fst1_lk m L
/-- A key that is valid by itself. -/
def vkey (x : List ByteArray × Int) : Bool := validN x.1 && decide (0 < x.1.length) && Num.inB x.2 1 2147483646
def Vk (T : List (List ByteArray × Int)) : Prop := (∀ x ∈ T, vkey x = true) ∧ (T.map (·.1)).Nodup ∧ (T.map (·.2)).Nodup
def validK (T : List (List ByteArray × Int)) : Bool := decide ((∀ x ∈ T, vkey x = true) ∧ (T.map (·.1)).Nodup ∧ (T.map (·.2)).Nodup ∧ T.length ≤ 8)
theorem validK_iff {T : List (List ByteArray × Int)} : validK T = true ↔ (∀ x ∈ T, vkey x = true) ∧ (T.map (·.1)).Nodup ∧ (T.map (·.2)).Nodup ∧ T.length ≤ 8 := by unfold validK; exact decide_eq_true_iff
theorem validK_no {T : List (List ByteArray × Int)} (h : ¬ ((∀ x ∈ T, vkey x = true) ∧ (T.map (·.1)).Nodup ∧ (T.map (·.2)).Nodup ∧ T.length ≤ 8)) : validK T = false := by
  cases e : validK T
  · rfl
  · exact absurd (validK_iff.1 e) h
end Go.Proofs.Ytnblopilgfdjkaa.Row.Ring
/- Contracts of the program's keyring: the text under which a name's key is kept, the map, the search in it; of the model's search. No conditions but that lengths fit. -/
namespace Go.Proofs.Ytnblopilgfdjkaa.Row.Ring
open Go.ChangeShapes Go.WideShapes Go.ChangeAt Go.RowKit Go.Instr
set_option linter.unusedVariables false
set_option maxRecDepth 100000

theorem own_str {B : Nat} {w : World} {v : Value} {l : List Int} {s : ByteArray} (h : w.ownsRow B 5 1 v (l.length + s.size) (l.map (Value.int .u8) ++ Lib.strCells s)) : Sl.Own 5 .u8 B w v (l ++ Sl.bytesOf s) := by
  unfold Sl.Own
  have e : (l ++ Sl.bytesOf s).map (Value.int .u8) = l.map (Value.int .u8) ++ Lib.strCells s := by
    rw [List.map_append]
    unfold Sl.bytesOf Lib.strCells
    rw [List.map_map]
    rfl
  rw [e, List.length_append, Sl.bytesOf_length]
  exact h

set_option maxHeartbeats 2000000 in
theorem nameText (v : Value) (l : List ByteArray) (w : World) (h : Holds Value.string w v l) (hl : bulk l ≤ 9000000) :
    Calls Try.prog 55 #[.agg #[v]] w fun e w' => e = .returned (.string (txt l)) ∧ Below w.heap.size w w' := by
  obtain ⟨x, n, cap, rfl, hn, hcap, hh⟩ := h.shapeN
  obtain ⟨i0, hi, hz0, hz1, hz2⟩ := info_parts (show (Try.prog.info? 5).map (fun i => (i.zero, i.size, i.bytes)) = some (some (.int .u8 0), 1, 1) by kernel_rfl)
  have hb0 := (Below.refl w.heap.size w).alloc (Nat.le_refl _) (.cells #[.slice x n cap] 34)
  have hb1 := hb0.alloc (by simp) (.cells #[] 5)
  have HB1 := Lib.hid hb1
  have HH := Lib.hid hh
  have hoe := Sl.own_empty .u8 5 (w.alloc (.cells #[.slice x n cap] 34))
  rw [World.size_alloc] at hoe
  have HO0 := Lib.hid (show Sl.Own 5 .u8 w.heap.size ((w.alloc (.cells #[.slice x n cap] 34)).alloc (.cells #[] 5)) (.slice (some ⟨w.heap.size + 1, 0, none⟩) 0 0) (encPs (l.take 0)) from hoe.mono (Nat.le_succ _))
  have HN := Lib.hid hn
  have HL := Lib.hid hl
  have hnl : n ≤ 9000000 := by rw [hn]; exact Nat.le_trans (bulk_len l) hl
  have HI := Lib.hid hi; have HZ0 := Lib.hid hz0; have HZ1 := Lib.hid hz1; have HZ2 := Lib.hid hz2
  clear hh h hn hl hb0 hb1 hoe hi hz0 hz1 hz2
  go_enter Try.func55, Try.ntmps55
  go_wp2_with fail
  go_loopw [3, 10] (fun bv iv wr => ∃ k : Nat, k ≤ n ∧ iv = .int .i64 k ∧ Hid (Sl.Own 5 .u8 w.heap.size wr bv (encPs (l.take k))) ∧ Hid (Below w.heap.size w wr)) (fun _ iv _ => n - (intOf iv).toNat)
  case atStart => exact ⟨0, Nat.zero_le _, rfl, HO0, HB1⟩
  case round =>
    obtain ⟨k, hk, rfl, hO, hB⟩ := hrel
    by_cases hlt : k < n
    · obtain ⟨b0, off0, hy, hc⟩ := (HH.out.on hB.out).at (j := k) (by rw [← HN.out]; exact hlt)
      subst hy
      have hsz : (nth l k).size ≤ 9000000 := by
        have h2 := size_bulk (l := l) (k := k) (by rw [← HN.out]; exact hlt)
        have h3 := HL.out
        omega
      have hle : (encPs (l.take k)).length ≤ 54000000 := by
        have h1 := encPs_len (l.take k)
        have h2 := bulk_take_le l k
        have h3 := HL.out
        omega
      have HLE := Lib.hid hle
      have HNX := Lib.hid (encPs_next (l := l) (k := k) (by rw [← HN.out]; exact hlt))
      clear hle
      go_wp2_with fail
      refine (Sl.addVarint w.heap.size _ (encPs (l.take k)) (nth l k).size wr (Or.inl hO.out) hB.out.size (by have := HLE.out; omega) (by omega) (by omega)).mono ?_
      rintro e w1 ⟨v1, rfl, ho1, hb1⟩
      have HO1 := Lib.hid ho1
      have HB2 := Lib.hid (hB.out.trans hb1)
      have hvl := Var.var_len (nth l k).size
      clear ho1 hb1 hc
      go_wp2_with (at_builtin; refine Lib.wpList_append_own_string _ rfl _ _ 38 9 rfl w.heap.size 5 i0 Try.underlying38 Try.underlying9 HI.out HZ0.out HZ1.out HZ2.out _ _ _ rfl HO1.out (nth l k) rfl ?_ ?_ HB2.out.size ?_)
      · unfold maxLen; have := HLE.out; rw [List.length_append]; omega
      · have := HLE.out; rw [List.length_append]; omega
      intro v2 w2 ho2 hg2 _
      have HO2 := Lib.hid (show Sl.Own 5 .u8 w.heap.size w2 v2 (encPs (l.take (k + 1))) by
        have h9 := own_str (l := encPs (l.take k) ++ Var.var (nth l k).size) (s := nth l k) (by rw [List.length_append, List.map_append, List.append_assoc]; exact ho2)
        rw [HNX.out, ← List.append_assoc]
        exact h9)
      have HB3 := Lib.hid (HB2.out.grown hg2 HB2.out.size (fun g hg => (HO1.out.lt g hg).1))
      clear ho2 hg2
      go_wp2_with fail
      go_roundw
      case rel => exact ⟨k + 1, by omega, by go_num, HO2, HB3⟩
      case measure => simp [intOf]; omega
    · obtain rfl : k = n := by omega
      clear hlt
      have ho := hO.out
      rw [HN.out, List.take_length] at ho
      obtain ⟨x1, c1, rfl, -, hh1⟩ := ho.holds.shape
      have hcv := Sl.conv_holds hh1
      clear ho hh1
      go_wp2_with fail
      go_ret
      exact ⟨rfl, hB.out⟩

theorem zeroKey (w : World) : (zeroValue 67).run Try.prog w = .ok zK w := by kernel_rfl
theorem strLaw : Maps.Keyed Try.prog 9 := Maps.string_keyed Try.underlying9
theorem keyTxt {l : List ByteArray} (h : bulk l ≤ 9000000) : keyOf Try.prog 9 (.string (txt l)) = some (kl l) := Go.WideMaps.keyOf_string_mk Try.underlying9 (by have := txt_size l; unfold maxLen; omega)
theorem pairs_key (m : List ByteArray) (hm : smN m) {L : List Ent} (hL : smT (strip L)) : ∃ ad n cap, (ringD (pairs L)).atKey (kl m) (.held zK) = .held (.agg #[.slice ad n cap, .int .i64 (lkN (strip L) m)]) := by
  rw [ringD_at (pairs_sm hL) hm]
  exact fst1_lk m L
/-- What the program's keyring is. -/
def GivesRing (w : World) (L : List Ent) (e : Ending) (w' : World) : Prop := ∃ b, e = .returned (.map (some b)) ∧ w'.ownsMap Try.prog 9 heldV b L.length (ringD (pairs L)) ∧ w.heap.size ≤ b ∧ Below w.heap.size w w'
theorem smT_take {T : List (List ByteArray × Int)} (h : smT T) (k : Nat) : smT (T.take k) := fun t ht => h t (List.mem_of_mem_take ht)

set_option maxHeartbeats 4000000 in
theorem keyringOf (v : Value) (L : List Ent) (w : World) (h : TabH w v L) (hl : L.length ≤ 4000000) (hT : smT (strip L)) :
    Calls Try.prog 52 #[v] w (GivesRing w L) := by
  obtain ⟨x, n, cx, rfl, hn, hcx, hh⟩ := h.shapeN
  rw [← hn] at hl
  have HN := Lib.hid hn
  have HH := Lib.hid hh
  have HT := Lib.hid hT
  have HM0 := Lib.hid (show (w.alloc (.map #[] 0)).ownsMap Try.prog 9 heldV w.heap.size 0 (ringD (pairs (L.take 0))) from World.ownsMap_made w _ _ _)
  have HB0 := Lib.hid ((Below.refl w.heap.size w).alloc (Nat.le_refl _) (.map #[] 0))
  have hmm := @run_makeMap Try.prog
  clear hn h hh hT
  go_enter Try.func52, Try.ntmps52
  go_wp2_with fail
  go_loopw [12] (fun i wr => ∃ k : Nat, k ≤ n ∧ i = .int .i64 k ∧ Hid (wr.ownsMap Try.prog 9 heldV w.heap.size k (ringD (pairs (L.take k)))) ∧ Hid (Below w.heap.size w wr) ∧ Hid (w.heap.size + 1 ≤ wr.heap.size)) (fun i _ => n - (intOf i).toNat)
  case atStart => exact ⟨0, Nat.zero_le _, rfl, HM0, HB0, Lib.hid (by simp)⟩
  case round =>
    obtain ⟨k, hk, rfl, hM, hB, hS⟩ := hrel
    by_cases hlt : k < n
    · have hlen := HN.out
      obtain ⟨b, off, rfl, hc, hd, hnm⟩ := (HH.out.on hB.out).at (k := k) (by omega)
      have HPS := Lib.hid (smT_ps HT.out (k := k) (by omega))
      have hal := ((Below.refl wr.heap.size wr).alloc (Nat.le_refl _) (.cells #[.slice (nth L k).ad (nth L k).n (nth L k).cap, .int .i64 (nth L k).val] 67))
      have HNM := Lib.hid (hnm.on hal)
      have HB1 := Lib.hid (hB.out.trans (hal.mono hB.out.size))
      have HM1 := Lib.hid (hM.out.alloc (.cells #[.slice (nth L k).ad (nth L k).n (nth L k).cap, .int .i64 (nth L k).val] 67))
      have HX := Lib.hid (Ret.Blk.new wr #[.slice (nth L k).ad (nth L k).n (nth L k).cap, .int .i64 (nth L k).val] 67)
      have HKL := Lib.hid (show k < L.length by omega)
      have HS1 := Lib.hid (show (wr.alloc (.cells #[.slice (nth L k).ad (nth L k).n (nth L k).cap, .int .i64 (nth L k).val] 67)).heap.size = wr.heap.size + 1 from World.size_alloc _ _)
      clear hlen hnm hal hmm
      go_wp2_with fail
      refine (nameText _ (nth L k).ps _ HNM.out HPS.out).mono ?_
      rintro e w1 ⟨rfl, hb1⟩
      have HB2 := Lib.hid (HB1.out.trans (hb1.mono HB1.out.size))
      have HM2 := Lib.hid (show w1.ownsMap Try.prog 9 heldV w.heap.size k (ringD (pairs (L.take k))) by
        obtain ⟨es, clock, hbk, r⟩ := HM1.out
        exact ⟨es, clock, (hb1.block _ (Array.getElem?_eq_some_iff.1 hbk).1).trans hbk, r⟩)
      have HX2 := Lib.hid (HX.out.on hb1)
      have hx0 : w1.cell? ⟨wr.heap.size, 0, none⟩ = some (.slice (nth L k).ad (nth L k).n (nth L k).cap) := HX2.out.cell 0
      have hx1 : w1.cell? ⟨wr.heap.size, 1, none⟩ = some (.int .i64 (nth L k).val) := HX2.out.cell 1
      have HS2 := Lib.hid (show w.heap.size + 1 < w1.heap.size by have := hb1.size; have := HS1.out; have := hS.out; omega)
      have HKY := Lib.hid (keyTxt HPS.out)
      obtain ⟨z, hz⟩ : ∃ z, Maps.has (ringD (pairs (L.take k))) (kl (nth L k).ps) = z := ⟨_, rfl⟩
      have hlook : ∃ ad nn cc, (Instr.lookup 78 (.map (some w.heap.size)) (.string (txt (nth L k).ps)) true).run Try.prog w1 = .ok (.tuple #[.agg #[.slice ad nn cc, .int .i64 (lkN (strip (L.take k)) (nth L k).ps)], .bool z]) w1 := by
        obtain ⟨v9, ps9, hr, hv⟩ := HM2.out.look_ok strLaw Try.underlying78 (zeroKey w1) (zd := .held zK) (zp := []) rfl HKY.out
        obtain ⟨ad, nn, cc, he⟩ := pairs_key (nth L k).ps (smN_bulk HPS.out) (L := L.take k) (by rw [strip_take]; exact smT_take HT.out k)
        rw [he] at hv
        rw [hz, heldV_inj hv] at hr
        exact ⟨ad, nn, cc, hr⟩
      obtain ⟨ad, nn, cc, hlook⟩ := hlook
      have HST := Lib.hid (show ringD (pairs (L.take (k + 1))) = if z then ringD (pairs (L.take k)) else (ringD (pairs (L.take k))).put (kl (nth L k).ps) (.held (nth L k).whole) by
        rw [pairs_take L HKL.out, ringD_next]; unfold step; rw [← hz])
      clear hz hb1 HNM HM1 HX HB1 hc hd
      generalize lkN (strip (L.take k)) (nth L k).ps = q at hlook
      cases z with
      | true =>
        have HM3 := Lib.hid (show w1.ownsMap Try.prog 9 heldV w.heap.size (k + 1) (ringD (pairs (L.take (k + 1)))) by rw [HST.out]; exact HM2.out.mono (Nat.le_succ _))
        go_wp2_with fail
        go_roundw
        case rel => exact ⟨k + 1, by omega, by go_num, Lib.hid (HM3.out.alloc _), Lib.hid (HB2.out.alloc HB2.out.size _), Lib.hid (by have := HS2.out; simp; omega)⟩
        case measure => simp [intOf]; omega
      | false =>
        have HM3 := Lib.hid (HM2.out.alloc (.cells #[.slice ad nn cc, .int .i64 q] 67))
        have HB3 := Lib.hid (HB2.out.alloc HB2.out.size (.cells #[.slice ad nn cc, .int .i64 q] 67))
        have hy0 : (w1.alloc (.cells #[.slice ad nn cc, .int .i64 q] 67)).cell? ⟨wr.heap.size, 0, none⟩ = some (.slice (nth L k).ad (nth L k).n (nth L k).cap) := (((Below.refl w1.heap.size w1).alloc (Nat.le_refl _) _).cell (cell_lt hx0)).trans hx0
        have hy1 : (w1.alloc (.cells #[.slice ad nn cc, .int .i64 q] 67)).cell? ⟨wr.heap.size, 1, none⟩ = some (.int .i64 (nth L k).val) := (((Below.refl w1.heap.size w1).alloc (Nat.le_refl _) _).cell (cell_lt hx1)).trans hx1
        go_wp2_with (at_mapUpdate; refine wpList_mapUpdate_own _ rfl _ _ _ 78 rfl 9 67 strLaw Try.underlying78 heldV w.heap.size k _ rfl HM3.out (by unfold maxLen; omega) _ _ _ rfl rfl HKY.out (.held (nth L k).whole) [] rfl ?_)
        intro w3 hown3 hg3
        have HM4 := Lib.hid (show w3.ownsMap Try.prog 9 heldV w.heap.size (k + 1) (ringD (pairs (L.take (k + 1)))) by rw [HST.out]; exact hown3)
        have HB4 := Lib.hid (HB3.out.grown hg3 HB3.out.size (fun g hg => by cases hg; exact Nat.le_refl _))
        have HS4 := Lib.hid (show w.heap.size + 1 ≤ w3.heap.size by have := HS2.out; have := hg3.size; simp at this; omega)
        clear hown3 hg3 hlook hx0 hx1 hy0 hy1
        go_wp2_with fail
        go_roundw
        case rel => exact ⟨k + 1, by omega, by go_num, HM4, HB4, HS4⟩
        case measure => simp [intOf]; omega
    · obtain rfl : k = n := by omega
      clear hlt
      have hM9 := hM.out
      rw [List.take_of_length_le (by rw [← HN.out]; exact Nat.le_refl _)] at hM9
      have HM9 := Lib.hid hM9
      clear hM9
      go_wp2_with fail
      go_ret
      exact ⟨_, rfl, by rw [← HN.out]; exact HM9.out, Nat.le_refl _, hB.out⟩
end Go.Proofs.Ytnblopilgfdjkaa.Row.Ring
/- Kinds of values with memory beneath in the words of the exact laws: slices of one-cell elements, slices of bytes, names; the laws' helpers for them; what keeps a region's loads. No conditions but that lengths fit. -/
namespace Go.Proofs.Ytnblopilgfdjkaa.Row
open Go.ChangeShapes Go.WideShapes Go.ChangeAt Go.RowKit Go.Instr
set_option linter.unusedVariables false
set_option maxRecDepth 100000

/-- A slice of scalars. -/
def kS {α : Type} (e : TypeId) (enc : α → Value) (h1 : ∀ x, (enc x).oneCell' = true) : Kd (List α) (Rw α) := Kd.slice e (Kd.scalar enc h1)
theorem kS_strip {α : Type} {enc : α → Value} {h1 : ∀ x, (enc x).oneCell' = true} {e : TypeId} (m : Rw α) : (kS e enc h1).strip m = m.els := by simp [kS, Kd.slice, Kd.scalar]
theorem kS_blocks {α : Type} {enc : α → Value} {h1 : ∀ x, (enc x).oneCell' = true} {e : TypeId} (r : Rw α) : (kS e enc h1).blocks r = r.v.ownBlock.toList := by simp [kS, Kd.slice, Kd.scalar]
section
variable {α : Type} [Inhabited α] {enc : α → Value} {h1 : ∀ x, (enc x).oneCell' = true} {e : TypeId} {w : World} {v : Value} {l : List α} {B E : Nat}
theorem kS_at (h : (kS e enc h1).At w v l) : Holds enc w v l := by
  obtain ⟨m, rfl, rfl, h, -⟩ := h
  rw [kS_strip]
  exact holdsK_single.1 h
theorem kS_of (h : Holds enc w v l) : (kS e enc h1).At w v l := by
  obtain ⟨x, n, cap, rfl, -, -, hh⟩ := h.shapeN
  exact ⟨⟨x, n, cap, l⟩, rfl, kS_strip _, holdsK_single.2 hh, fun _ _ => trivial⟩
theorem kS_mk (h : Own e enc B w v l) (hE : ∀ g, v.ownBlock = some g → g < E) : (kS e enc h1).In B E w v l := by
  obtain ⟨x, n, cap, rfl, -, -, hh⟩ := h.shapeN
  refine ⟨⟨x, n, cap, l⟩, rfl, kS_strip _, ⟨ownK_single.2 hh, fun _ _ => trivial⟩, ?_, ?_⟩
  · rw [kS_blocks]
    cases h2 : (Rw.v ⟨x, n, cap, l⟩).ownBlock <;> simp
  · rw [kS_blocks]
    intro g hg
    exact hE g (by simpa [Rw.v] using hg)
theorem kS_own (h : Own e enc B w v l) : (kS e enc h1).In B w.heap.size w v l := kS_mk h (fun g hg => (h.lt g hg).2)
theorem kS_in (h : (kS e enc h1).In B E w v l) : Own e enc B w v l ∧ ∀ g, v.ownBlock = some g → g < E := by
  obtain ⟨m, rfl, rfl, h, -, h2⟩ := h
  rw [kS_strip]
  rw [kS_blocks] at h2
  exact ⟨ownK_single.1 h.1, fun g hg => h2 g (by rw [show m.v.ownBlock = some g from hg]; simp)⟩
end

/-! ### bytes -/
def kB : Kd (List Int) (Rw Int) := kS 5 (Value.int .u8) (fun _ => rfl)
section
variable {w : World} {v V : Value} {l : List Int} {B E : Nat}
theorem kB_of (h : Sl.Holds .u8 w v l) : kB.At w v l := kS_of h
theorem kB_own (h : Sl.Own 5 .u8 B w v l) : kB.In B w.heap.size w v l := kS_own h
theorem kB_mk (h : Sl.Own 5 .u8 B w v l) (hE : ∀ g, v.ownBlock = some g → g < E) : kB.In B E w v l := kS_mk h hE
theorem kB_shape (h : kB.In B E w V l) : ∃ x n c, V = .slice x n c ∧ kB.In B E w (.slice x n c) l := by
  obtain ⟨x, n, c, rfl, -⟩ := (kS_in h).1.shapeN
  exact ⟨x, n, c, rfl, h⟩
theorem kB_shapeA (h : kB.At w V l) : ∃ x n c, V = .slice x n c ∧ kB.At w (.slice x n c) l := by
  obtain ⟨x, n, c, rfl, -⟩ := (kS_at h).shapeN
  exact ⟨x, n, c, rfl, h⟩
end
theorem toB (V : Value) (l : List Int) (w : World) (h : kB.At w V l) (hl : l.length ≤ 100000000) :
    Calls Try.prog 21 #[V] w fun e w' => ∃ U, e = .returned U ∧ kB.In w.heap.size w'.heap.size w' U l ∧ Below w.heap.size w w' :=
  (Sl.toByteS V l w (kS_at h) hl).mono fun e w' ⟨v, a, b, c⟩ => ⟨v, a, kB_own b, c⟩
theorem sameB' (V U : Value) (l : List Int) (w : World) (h : kB.At w V l) (g : kB.At w U l) (hl : l.length ≤ 100000000) :
    Calls Try.prog 24 #[V, U] w fun e w' => e = .returned (.bool true) ∧ Below w.heap.size w w' := Sl.sameByteS V U l w (kS_at h) (kS_at g) hl
theorem markB (B E : Nat) (V : Value) (l : List Int) (w : World) (k : Int) (h : kB.In B E w V l) (hl : l.length ≤ 100000000) (h0 : 0 ≤ k) (h1 : k ≤ 1000000000) :
    Calls Try.prog 27 #[V, .int .i64 k] w fun e w' => e = .returned (.int .i64 (k + (l.length : Int))) ∧ kB.In B E w' V (Sl.marks .u8 k l.length) ∧ Wrote B E w w' :=
  (Sl.markByteS B V l w k (kS_in h).1 hl h0 (by omega)).mono fun e w' ⟨a, b, c⟩ => ⟨a, kB_mk b (kS_in h).2, Wrote.of c (fun g hg => ⟨((kS_in h).1.lt g hg).1, (kS_in h).2 g hg⟩)⟩
/-! ### names -/
def kN : Kd (List ByteArray) (Rw ByteArray) := (kNm 9).wrap
section
variable {w : World} {v V : Value} {l : List ByteArray} {B E : Nat}
theorem kNm_mk (h : Own 9 Value.string B w v l) (hE : ∀ g, v.ownBlock = some g → g < E) : (kNm 9).In B E w v l := by
  obtain ⟨x, n, cap, rfl, -, -, hh⟩ := h.shapeN
  refine ⟨⟨x, n, cap, l⟩, rfl, by simp [kNm, Kd.slice, kStr, Kd.scalar], ⟨ownK_single.2 hh, fun _ _ => trivial⟩, ?_, ?_⟩
  · rw [kNm_blocks]
    cases h2 : (Rw.v ⟨x, n, cap, l⟩).ownBlock <;> simp
  · rw [kNm_blocks]
    intro g hg
    exact hE g (by simpa [Rw.v] using hg)
theorem kN_at (h : kN.At w V l) : ∃ v, V = .agg #[v] ∧ Holds Value.string w v l := by
  obtain ⟨m, rfl, e, h⟩ := h
  exact ⟨m.v, rfl, kNm_at (e := 9) ⟨m, rfl, e, h⟩⟩
theorem kN_of (h : Holds Value.string w v l) : kN.At w (.agg #[v]) l := by
  obtain ⟨m, rfl, e, h⟩ := kNm_of (e := 9) h
  exact ⟨m, rfl, e, h⟩
theorem kN_mk (h : Own 9 Value.string B w v l) (hE : ∀ g, v.ownBlock = some g → g < E) : kN.In B E w (.agg #[v]) l := by
  obtain ⟨m, rfl, e, h⟩ := kNm_mk h hE
  exact ⟨m, rfl, e, h⟩
theorem kN_own (h : Own 9 Value.string B w v l) : kN.In B w.heap.size w (.agg #[v]) l := kN_mk h (fun g hg => (h.lt g hg).2)
theorem kN_in (h : kN.In B E w V l) : ∃ v, V = .agg #[v] ∧ Own 9 Value.string B w v l ∧ ∀ g, v.ownBlock = some g → g < E := by
  obtain ⟨m, rfl, e, h⟩ := h
  exact ⟨m.v, rfl, kNm_in (e := 9) ⟨m, rfl, e, h⟩⟩
theorem kN_shape (h : kN.In B E w V l) : ∃ x n c, V = .agg #[.slice x n c] ∧ kN.In B E w (.agg #[.slice x n c]) l := by
  obtain ⟨v, rfl, ho, -⟩ := kN_in h
  obtain ⟨x, n, c, rfl, -⟩ := ho.shapeN
  exact ⟨x, n, c, rfl, h⟩
end
theorem szNK (V : Value) (l : List ByteArray) (w : World) (left : Int) (h : kN.At w V l) (hl : l.length ≤ 9223372036854775807) (hs : ∀ x ∈ l, x.size ≤ maxLen) (h0 : 0 ≤ left) (h1 : left ≤ 1048576) :
    Calls Try.prog 15 #[V, .int .i64 left] w fun e w' => e = .returned (.int .i64 (szL l left)) ∧ Below w.heap.size w w' := by
  obtain ⟨v, rfl, h9⟩ := kN_at h
  exact szName v l w left h9 hl hs h0 h1
theorem toNK (V : Value) (l : List ByteArray) (w : World) (h : kN.At w V l) (hl : l.length ≤ 100000000) :
    Calls Try.prog 17 #[V] w fun e w' => ∃ U, e = .returned U ∧ kN.In w.heap.size w'.heap.size w' U l ∧ Below w.heap.size w w' := by
  obtain ⟨v, rfl, h9⟩ := kN_at h
  exact (toName v l w h9 hl).mono fun e w' ⟨v, a, b, c⟩ => ⟨_, a, kN_own b, c⟩
theorem sameNK (V U : Value) (l : List ByteArray) (w : World) (h : kN.At w V l) (g : kN.At w U l) (hl : l.length ≤ 100000000) :
    Calls Try.prog 19 #[V, U] w fun e w' => e = .returned (.bool true) ∧ Below w.heap.size w w' := by
  obtain ⟨v, rfl, h9⟩ := kN_at h
  obtain ⟨u, rfl, g9⟩ := kN_at g
  exact sameN v u l w h9 g9 (by omega)
theorem markNK (B E : Nat) (V : Value) (l : List ByteArray) (w : World) (k : Int) (h : kN.In B E w V l) (hl : l.length ≤ 100000000) (h0 : 0 ≤ k) (h1 : k ≤ 1000000000) :
    Calls Try.prog 26 #[V, .int .i64 k] w fun e w' => e = .returned (.int .i64 (k + (l.length : Int))) ∧ kN.In B E w' V (marks markT k l.length) ∧ Wrote B E w w' := by
  obtain ⟨v, rfl, h9, hE⟩ := kN_in h
  exact (markName B v l w k h9 hl h0 (by omega)).mono fun e w' ⟨a, b, c⟩ => ⟨a, kN_mk b hE, Wrote.of c (fun g hg => ⟨(h9.lt g hg).1, hE g hg⟩)⟩
/-! ### what keeps a region's loads, a variable's block -/
theorem kc {w w' : World} {a : Addr} {u : Value} (h : w.cell? a = some u) (hb : Below w.heap.size w w') : w'.cell? a = some u := (hb.cell (cell_lt h)).trans h
theorem Wrote.blk {B E : Nat} {w w' : World} (h : Wrote B E w w') {g : Nat} {cs : Array Value} {t : TypeId} (hb : Ret.Blk w g cs t) (hn : g < B ∨ E ≤ g) : Ret.Blk w' g cs t := (h.grown hb.lt hn).trans hb
end Go.Proofs.Ytnblopilgfdjkaa.Row
/- Contracts of the helpers by which the laws measure, copy, compare, mark and look at data packets (a name, bytes, a name, two numbers). No conditions but that lengths fit. -/
namespace Go.Proofs.Ytnblopilgfdjkaa.Row
open Go.ChangeShapes Go.WideShapes Go.ChangeAt Go.RowKit Go.Instr
set_option linter.unusedVariables false
set_option maxRecDepth 100000

abbrev Dt := List ByteArray × List Int × List ByteArray × Int × Int
/-- A packet's cells. -/
abbrev dc (a b c : Value) (f s : Int) : Array Value := #[a, b, c, .int .i64 f, .int .i64 s]
abbrev nil : Value := .slice none 0 0
theorem aggD : Ret.AggOf Try.prog 40 5 := ⟨by kernel_rfl, by kernel_rfl⟩
/-- What the call's own slices of a packet are: in blocks from B on, no two the same. -/
def DOwn (B : Nat) (w : World) (a b c : Value) (x : Dt) : Prop := Own 9 Value.string B w a x.1 ∧ Sl.Own 5 .u8 B w b x.2.1 ∧ Own 9 Value.string B w c x.2.2.1 ∧ Apart a b ∧ Apart a c ∧ Apart b c
def DHold (w : World) (a b c : Value) (x : Dt) : Prop := Holds Value.string w a x.1 ∧ Sl.Holds .u8 w b x.2.1 ∧ Holds Value.string w c x.2.2.1
theorem DHold.on {w w' : World} {a b c : Value} {x : Dt} (h : DHold w a b c x) (hb : Below w.heap.size w w') : DHold w' a b c x := ⟨h.1.on hb, h.2.1.on hb, h.2.2.on hb⟩
theorem DOwn.hold {B : Nat} {w : World} {a b c : Value} {x : Dt} (h : DOwn B w a b c x) : DHold w a b c x := by
  exact ⟨h.1.holds, h.2.1.holds, h.2.2.1.holds⟩
theorem DHold.shape {w : World} {a b c : Value} {x : Dt} (h : DHold w a b c x) : ∃ xa na ca xb nb cb xc nc cc, a = .slice xa na ca ∧ b = .slice xb nb cb ∧ c = .slice xc nc cc := by
  obtain ⟨xa, na, ca, rfl, -⟩ := h.1.shapeN
  obtain ⟨xb, cb, rfl, -⟩ := h.2.1.shape
  obtain ⟨xc, nc, cc, rfl, -⟩ := h.2.2.shapeN
  exact ⟨_, _, _, _, _, _, _, _, _, rfl, rfl, rfl⟩
theorem sl_own_set {k : IntKind} {e : TypeId} {B g i : Nat} {w : World} {v u : Value} {l : List Int} (h : Sl.Own e k B w v l) (hg : g < B) : Sl.Own e k B (w.setCell ⟨g, i, none⟩ u) v l := own_set (enc := Value.int k) h hg

set_option maxHeartbeats 4000000 in
theorem toData (a b c : Value) (x : Dt) (w : World) (h : DHold w a b c x) (h1 : x.1.length ≤ 100000000) (h2 : x.2.1.length ≤ 100000000) (h3 : x.2.2.1.length ≤ 100000000) :
    Calls Try.prog 32 #[.agg (dc a b c x.2.2.2.1 x.2.2.2.2)] w fun e w' => ∃ a' b' c', e = .returned (.agg (dc a' b' c' x.2.2.2.1 x.2.2.2.2)) ∧ DOwn w.heap.size w' a' b' c' x ∧ Below w.heap.size w w' := by
  obtain ⟨l, m, k, f, s⟩ := x
  simp only at h1 h2 h3 ⊢
  obtain ⟨xa, na, ca, xb, nb, cb, xc, nc, cc, rfl, rfl, rfl⟩ := h.shape
  have hb0 := (Below.refl w.heap.size w).alloc (Nat.le_refl _) (.cells (dc (.slice xa na ca) (.slice xb nb cb) (.slice xc nc cc) f s) 52)
  have hb1 := hb0.alloc (by simp) (.cells (dc nil nil nil 0 0) 40)
  have hb2 := hb1.alloc (by simp; omega) (.cells (dc nil nil nil 0 0) 40)
  have HB := Lib.hid hb2
  have H0 := Lib.hid h
  have HX := Lib.hid (((Ret.Blk.new w (dc (.slice xa na ca) (.slice xb nb cb) (.slice xc nc cc) f s) 52).on ((Below.refl _ _).alloc (Nat.le_refl _) (.cells (dc nil nil nil 0 0) 40))).on ((Below.refl _ _).alloc (Nat.le_refl _) (.cells (dc nil nil nil 0 0) 40)))
  have HR := Lib.hid ((Ret.Blk.new' (w := (w.alloc (.cells (dc (.slice xa na ca) (.slice xb nb cb) (.slice xc nc cc) f s) 52))) (n := w.heap.size + 1) (dc nil nil nil 0 0) 40 (by simp)).on ((Below.refl _ _).alloc (Nat.le_refl _) (.cells (dc nil nil nil 0 0) 40)))
  have HL := Lib.hid (Ret.Blk.new' (w := (w.alloc (.cells (dc (.slice xa na ca) (.slice xb nb cb) (.slice xc nc cc) f s) 52)).alloc (.cells (dc nil nil nil 0 0) 40)) (n := w.heap.size + 1 + 1) (dc nil nil nil 0 0) 40 (by simp))
  have hz0 : (((w.alloc (.cells (dc (.slice xa na ca) (.slice xb nb cb) (.slice xc nc cc) f s) 52)).alloc (.cells (dc nil nil nil 0 0) 40)).alloc (.cells (dc nil nil nil 0 0) 40)).heap.size = w.heap.size + 3 := by simp
  clear h hb0 hb1 hb2
  go_enter Try.func32, Try.ntmps32
  go_wp2_with fail
  refine (toName _ l _ (H0.out.on HB.out).1 h1).mono ?_
  rintro e w1 ⟨a1, rfl, ho1, hb1⟩
  obtain ⟨ya, ma, da, rfl, -, -, ho1⟩ := ho1.shapeN
  have hs1 := hb1.size
  rw [hz0] at ho1 hs1
  replace HX := Lib.hid (HX.out.on hb1); replace HR := Lib.hid (HR.out.on hb1); replace HL := Lib.hid (HL.out.on hb1)
  replace HB := Lib.hid (HB.out.trans (hb1.mono HB.out.size))
  have HO1 := Lib.hid ho1
  have HLA := Lib.hid (fun g hg => (ho1.lt g hg).2)
  clear ho1 hb1 hz0
  have q0 : w1.cell? ⟨w.heap.size, 0, none⟩ = some (.slice xa na ca) := HX.out.cell 0
  have q1 : w1.cell? ⟨w.heap.size, 1, none⟩ = some (.slice xb nb cb) := HX.out.cell 1
  have q2 : w1.cell? ⟨w.heap.size, 2, none⟩ = some (.slice xc nc cc) := HX.out.cell 2
  have q3 : w1.cell? ⟨w.heap.size, 3, none⟩ = some (.int .i64 f) := HX.out.cell 3
  have q4 : w1.cell? ⟨w.heap.size, 4, none⟩ = some (.int .i64 s) := HX.out.cell 4
  have p0 : w1.cell? ⟨w.heap.size + 1 + 1, 0, none⟩ = some (.slice none 0 0) := HL.out.cell 0
  have p1 : w1.cell? ⟨w.heap.size + 1 + 1, 1, none⟩ = some (.slice none 0 0) := HL.out.cell 1
  have p2 : w1.cell? ⟨w.heap.size + 1 + 1, 2, none⟩ = some (.slice none 0 0) := HL.out.cell 2
  have p3 : w1.cell? ⟨w.heap.size + 1 + 1, 3, none⟩ = some (.int .i64 0) := HL.out.cell 3
  have p4 : w1.cell? ⟨w.heap.size + 1 + 1, 4, none⟩ = some (.int .i64 0) := HL.out.cell 4
  have t0 := HL.out.frozen 0; have t1 := HL.out.frozen 1; have t2 := HL.out.frozen 2; have t3 := HL.out.frozen 3; have t4 := HL.out.frozen 4
  go_wp2_with fail
  clear q0 q1 q2 q3 q4 p0 p1 p2 p3 p4 t0 t1 t2 t3 t4
  replace HX := Lib.hid (HX.out.other (a := ⟨w.heap.size + 1 + 1, 0, none⟩) (by show w.heap.size + 1 + 1 ≠ w.heap.size; omega) (.slice ya ma da))
  replace HR := Lib.hid (HR.out.other (a := ⟨w.heap.size + 1 + 1, 0, none⟩) (by show w.heap.size + 1 + 1 ≠ w.heap.size + 1; omega) (.slice ya ma da))
  replace HL := Lib.hid (HL.out.set 0 (.slice ya ma da))
  replace HB := Lib.hid (HB.out.setCell (p := ⟨w.heap.size + 1 + 1, 0, none⟩) (by show w.heap.size ≤ w.heap.size + 1 + 1; omega) (.slice ya ma da))
  replace HO1 := Lib.hid (own_set (g := w.heap.size + 1 + 1) (i := 0) (u := .slice ya ma da) HO1.out (by omega))
  refine (Sl.toByteS _ m _ (H0.out.on HB.out).2.1 h2).mono ?_
  rintro e w2 ⟨b1, rfl, ho2, hb2⟩
  obtain ⟨yb, mb, db, rfl, -, -, ho2⟩ := Own.shapeN (enc := Value.int .u8) ho2
  replace ho2 : Sl.Own 5 .u8 _ w2 (.slice yb mb db) m := ho2
  have hs2 := hb2.size
  simp only [World.size_setCell] at hs2 ho2
  replace HX := Lib.hid (HX.out.on hb2); replace HR := Lib.hid (HR.out.on hb2); replace HL := Lib.hid (HL.out.on hb2)
  replace HO1 := Lib.hid (HO1.out.on hb2)
  replace HB := Lib.hid (HB.out.trans (hb2.mono HB.out.size))
  have HO2 := Lib.hid ho2
  have HLB := Lib.hid (fun g hg => (ho2.lt g hg).2)
  clear ho2 hb2
  have q0 : w2.cell? ⟨w.heap.size, 0, none⟩ = some (.slice xa na ca) := HX.out.cell 0
  have q1 : w2.cell? ⟨w.heap.size, 1, none⟩ = some (.slice xb nb cb) := HX.out.cell 1
  have q2 : w2.cell? ⟨w.heap.size, 2, none⟩ = some (.slice xc nc cc) := HX.out.cell 2
  have q3 : w2.cell? ⟨w.heap.size, 3, none⟩ = some (.int .i64 f) := HX.out.cell 3
  have q4 : w2.cell? ⟨w.heap.size, 4, none⟩ = some (.int .i64 s) := HX.out.cell 4
  have p0 : w2.cell? ⟨w.heap.size + 1 + 1, 0, none⟩ = some (.slice ya ma da) := HL.out.cell 0
  have p1 : w2.cell? ⟨w.heap.size + 1 + 1, 1, none⟩ = some (.slice none 0 0) := HL.out.cell 1
  have p2 : w2.cell? ⟨w.heap.size + 1 + 1, 2, none⟩ = some (.slice none 0 0) := HL.out.cell 2
  have p3 : w2.cell? ⟨w.heap.size + 1 + 1, 3, none⟩ = some (.int .i64 0) := HL.out.cell 3
  have p4 : w2.cell? ⟨w.heap.size + 1 + 1, 4, none⟩ = some (.int .i64 0) := HL.out.cell 4
  have t0 := HL.out.frozen 0; have t1 := HL.out.frozen 1; have t2 := HL.out.frozen 2; have t3 := HL.out.frozen 3; have t4 := HL.out.frozen 4
  go_wp2_with fail
  clear q0 q1 q2 q3 q4 p0 p1 p2 p3 p4 t0 t1 t2 t3 t4
  replace HX := Lib.hid (HX.out.other (a := ⟨w.heap.size + 1 + 1, 1, none⟩) (by show w.heap.size + 1 + 1 ≠ w.heap.size; omega) (.slice yb mb db))
  replace HR := Lib.hid (HR.out.other (a := ⟨w.heap.size + 1 + 1, 1, none⟩) (by show w.heap.size + 1 + 1 ≠ w.heap.size + 1; omega) (.slice yb mb db))
  replace HL := Lib.hid (HL.out.set 1 (.slice yb mb db))
  replace HB := Lib.hid (HB.out.setCell (p := ⟨w.heap.size + 1 + 1, 1, none⟩) (by show w.heap.size ≤ w.heap.size + 1 + 1; omega) (.slice yb mb db))
  replace HO1 := Lib.hid (own_set (g := w.heap.size + 1 + 1) (i := 1) (u := .slice yb mb db) HO1.out (by omega))
  replace HO2 := Lib.hid (sl_own_set (g := w.heap.size + 1 + 1) (i := 1) (u := .slice yb mb db) HO2.out (by omega))
  refine (toName _ k _ (H0.out.on HB.out).2.2 h3).mono ?_
  rintro e w3 ⟨c1, rfl, ho3, hb3⟩
  obtain ⟨yc, mc, dc_, rfl, -, -, ho3⟩ := ho3.shapeN
  have hs3 := hb3.size
  simp only [World.size_setCell] at hs3 ho3
  replace HX := Lib.hid (HX.out.on hb3); replace HR := Lib.hid (HR.out.on hb3); replace HL := Lib.hid (HL.out.on hb3)
  replace HO1 := Lib.hid (HO1.out.on hb3); replace HO2 := Lib.hid (HO2.out.on hb3)
  replace HB := Lib.hid (HB.out.trans (hb3.mono HB.out.size))
  have HO3 := Lib.hid ho3
  clear ho3 hb3
  have q0 : w3.cell? ⟨w.heap.size, 0, none⟩ = some (.slice xa na ca) := HX.out.cell 0
  have q1 : w3.cell? ⟨w.heap.size, 1, none⟩ = some (.slice xb nb cb) := HX.out.cell 1
  have q2 : w3.cell? ⟨w.heap.size, 2, none⟩ = some (.slice xc nc cc) := HX.out.cell 2
  have q3 : w3.cell? ⟨w.heap.size, 3, none⟩ = some (.int .i64 f) := HX.out.cell 3
  have q4 : w3.cell? ⟨w.heap.size, 4, none⟩ = some (.int .i64 s) := HX.out.cell 4
  have p0 : w3.cell? ⟨w.heap.size + 1 + 1, 0, none⟩ = some (.slice ya ma da) := HL.out.cell 0
  have p1 : w3.cell? ⟨w.heap.size + 1 + 1, 1, none⟩ = some (.slice yb mb db) := HL.out.cell 1
  have p2 : w3.cell? ⟨w.heap.size + 1 + 1, 2, none⟩ = some (.slice none 0 0) := HL.out.cell 2
  have p3 : w3.cell? ⟨w.heap.size + 1 + 1, 3, none⟩ = some (.int .i64 0) := HL.out.cell 3
  have p4 : w3.cell? ⟨w.heap.size + 1 + 1, 4, none⟩ = some (.int .i64 0) := HL.out.cell 4
  have t0 := HL.out.frozen 0; have t1 := HL.out.frozen 1; have t2 := HL.out.frozen 2; have t3 := HL.out.frozen 3; have t4 := HL.out.frozen 4
  have r0 : w3.cell? ⟨w.heap.size + 1, 0, none⟩ = some (.slice none 0 0) := HR.out.cell 0
  have r1 : w3.cell? ⟨w.heap.size + 1, 1, none⟩ = some (.slice none 0 0) := HR.out.cell 1
  have r2 : w3.cell? ⟨w.heap.size + 1, 2, none⟩ = some (.slice none 0 0) := HR.out.cell 2
  have r3 : w3.cell? ⟨w.heap.size + 1, 3, none⟩ = some (.int .i64 0) := HR.out.cell 3
  have r4 : w3.cell? ⟨w.heap.size + 1, 4, none⟩ = some (.int .i64 0) := HR.out.cell 4
  have u0 := HR.out.frozen 0; have u1 := HR.out.frozen 1; have u2 := HR.out.frozen 2; have u3 := HR.out.frozen 3; have u4 := HR.out.frozen 4
  have Z1 := Lib.hid ((((((((HR.out.other (a := ⟨w.heap.size + 1 + 1, 2, none⟩) (by show w.heap.size + 1 + 1 ≠ w.heap.size + 1; omega) (.slice yc mc dc_)).other (a := ⟨w.heap.size + 1 + 1, 3, none⟩) (by show w.heap.size + 1 + 1 ≠ w.heap.size + 1; omega) (.int .i64 f)).other (a := ⟨w.heap.size + 1 + 1, 4, none⟩) (by show w.heap.size + 1 + 1 ≠ w.heap.size + 1; omega) (.int .i64 s)).set 0 (.slice ya ma da)).set 1 (.slice yb mb db)).set 2 (.slice yc mc dc_)).set 3 (.int .i64 f)).set 4 (.int .i64 s))
  have Z2 := Lib.hid (own_set (g := w.heap.size + 1) (i := 4) (u := .int .i64 s) (own_set (g := w.heap.size + 1) (i := 3) (u := .int .i64 f) (own_set (g := w.heap.size + 1) (i := 2) (u := .slice yc mc dc_) (own_set (g := w.heap.size + 1) (i := 1) (u := .slice yb mb db) (own_set (g := w.heap.size + 1) (i := 0) (u := .slice ya ma da) (own_set (g := w.heap.size + 1 + 1) (i := 4) (u := .int .i64 s) (own_set (g := w.heap.size + 1 + 1) (i := 3) (u := .int .i64 f) (own_set (g := w.heap.size + 1 + 1) (i := 2) (u := .slice yc mc dc_) HO1.out (by omega)) (by omega)) (by omega)) (by omega)) (by omega)) (by omega)) (by omega)) (by omega))
  have Z3 := Lib.hid (sl_own_set (g := w.heap.size + 1) (i := 4) (u := .int .i64 s) (sl_own_set (g := w.heap.size + 1) (i := 3) (u := .int .i64 f) (sl_own_set (g := w.heap.size + 1) (i := 2) (u := .slice yc mc dc_) (sl_own_set (g := w.heap.size + 1) (i := 1) (u := .slice yb mb db) (sl_own_set (g := w.heap.size + 1) (i := 0) (u := .slice ya ma da) (sl_own_set (g := w.heap.size + 1 + 1) (i := 4) (u := .int .i64 s) (sl_own_set (g := w.heap.size + 1 + 1) (i := 3) (u := .int .i64 f) (sl_own_set (g := w.heap.size + 1 + 1) (i := 2) (u := .slice yc mc dc_) HO2.out (by omega)) (by omega)) (by omega)) (by omega)) (by omega)) (by omega)) (by omega)) (by omega))
  have Z4 := Lib.hid (own_set (g := w.heap.size + 1) (i := 4) (u := .int .i64 s) (own_set (g := w.heap.size + 1) (i := 3) (u := .int .i64 f) (own_set (g := w.heap.size + 1) (i := 2) (u := .slice yc mc dc_) (own_set (g := w.heap.size + 1) (i := 1) (u := .slice yb mb db) (own_set (g := w.heap.size + 1) (i := 0) (u := .slice ya ma da) (own_set (g := w.heap.size + 1 + 1) (i := 4) (u := .int .i64 s) (own_set (g := w.heap.size + 1 + 1) (i := 3) (u := .int .i64 f) (own_set (g := w.heap.size + 1 + 1) (i := 2) (u := .slice yc mc dc_) HO3.out (by omega)) (by omega)) (by omega)) (by omega)) (by omega)) (by omega)) (by omega)) (by omega))
  have Z5 := Lib.hid ((((((((HB.out.setCell (p := ⟨w.heap.size + 1 + 1, 2, none⟩) (by show w.heap.size ≤ w.heap.size + 1 + 1; omega) (.slice yc mc dc_)).setCell (p := ⟨w.heap.size + 1 + 1, 3, none⟩) (by show w.heap.size ≤ w.heap.size + 1 + 1; omega) (.int .i64 f)).setCell (p := ⟨w.heap.size + 1 + 1, 4, none⟩) (by show w.heap.size ≤ w.heap.size + 1 + 1; omega) (.int .i64 s)).setCell (p := ⟨w.heap.size + 1, 0, none⟩) (by show w.heap.size ≤ w.heap.size + 1; omega) (.slice ya ma da)).setCell (p := ⟨w.heap.size + 1, 1, none⟩) (by show w.heap.size ≤ w.heap.size + 1; omega) (.slice yb mb db)).setCell (p := ⟨w.heap.size + 1, 2, none⟩) (by show w.heap.size ≤ w.heap.size + 1; omega) (.slice yc mc dc_)).setCell (p := ⟨w.heap.size + 1, 3, none⟩) (by show w.heap.size ≤ w.heap.size + 1; omega) (.int .i64 f)).setCell (p := ⟨w.heap.size + 1, 4, none⟩) (by show w.heap.size ≤ w.heap.size + 1; omega) (.int .i64 s))
  go_wp2_with fail
  refine bodyPost_ret (Ret.results_c rfl _ _ (w.heap.size + 1) (dc (.slice ya ma da) (.slice yb mb db) (.slice yc mc dc_) f s).toList rfl aggD Z1.out.cells) rfl ?_
  have hlb := fun g hg => (Sl.Own.lt Z3.out g hg).1
  have hlc := fun g hg => (Own.lt Z4.out g hg).1
  exact ⟨_, _, _, rfl, ⟨Z2.out.mono (by omega), Sl.Own.mono Z3.out (by omega), Z4.out.mono (by omega), fun g e1 e2 => by have h5 := HLA.out g e1; have h6 := hlb g e2; omega, fun g e1 e2 => by have h5 := HLA.out g e1; have h6 := hlc g e2; omega, fun g e1 e2 => by have h5 := HLB.out g e1; have h6 := hlc g e2; omega⟩, Z5.out⟩

set_option maxHeartbeats 4000000 in
theorem eqData (a b c a2 b2 c2 : Value) (x y : Dt) (w : World) (q : Bool) (hq : decide (x = y) = q) (h : DHold w a b c x) (g : DHold w a2 b2 c2 y) (h1 : x.1.length ≤ 100000000) (h2 : x.2.1.length ≤ 100000000) (h3 : x.2.2.1.length ≤ 100000000) (g1 : y.1.length ≤ 100000000) (g2 : y.2.1.length ≤ 100000000) (g3 : y.2.2.1.length ≤ 100000000) :
    Calls Try.prog 23 #[.agg (dc a b c x.2.2.2.1 x.2.2.2.2), .agg (dc a2 b2 c2 y.2.2.2.1 y.2.2.2.2)] w fun e w' => e = .returned (.bool q) ∧ Below w.heap.size w w' := by
  obtain ⟨l, m, k, f, s⟩ := x
  obtain ⟨l2, m2, k2, f2, s2⟩ := y
  simp only at h1 h2 h3 g1 g2 g3 ⊢
  obtain ⟨xa, na, ca, xb, nb, cb, xc, nc, cc, rfl, rfl, rfl⟩ := h.shape
  obtain ⟨ua, va, oa, ub, vb, ob, uc, vc, oc, rfl, rfl, rfl⟩ := g.shape
  have hb0 := (Below.refl w.heap.size w).alloc (Nat.le_refl _) (.cells (dc (.slice xa na ca) (.slice xb nb cb) (.slice xc nc cc) f s) 40)
  have HB := Lib.hid (hb0.alloc (by simp) (.cells (dc (.slice ua va oa) (.slice ub vb ob) (.slice uc vc oc) f2 s2) 40))
  have H0 := Lib.hid h; have G0 := Lib.hid g
  have HX := Lib.hid ((Ret.Blk.new w (dc (.slice xa na ca) (.slice xb nb cb) (.slice xc nc cc) f s) 40).on ((Below.refl _ _).alloc (Nat.le_refl _) (.cells (dc (.slice ua va oa) (.slice ub vb ob) (.slice uc vc oc) f2 s2) 40)))
  have HY := Lib.hid (Ret.Blk.new' (w := w.alloc (.cells (dc (.slice xa na ca) (.slice xb nb cb) (.slice xc nc cc) f s) 40)) (n := w.heap.size + 1) (dc (.slice ua va oa) (.slice ub vb ob) (.slice uc vc oc) f2 s2) 40 (by simp))
  have HQ := Lib.hid hq
  clear h g hq hb0
  go_enter Try.func23, Try.ntmps23
  go_wp2_with fail
  refine (eqName _ _ l l2 _ (H0.out.on HB.out).1 (G0.out.on HB.out).1 (by omega) (by omega)).mono ?_
  rintro e w1 ⟨rfl, hb⟩
  replace HX := Lib.hid (HX.out.on hb); replace HY := Lib.hid (HY.out.on hb)
  replace HB := Lib.hid (HB.out.trans (hb.mono HB.out.size)); clear hb
  have q0 : w1.cell? ⟨w.heap.size, 0, none⟩ = some (.slice xa na ca) := HX.out.cell 0
  have q1 : w1.cell? ⟨w.heap.size, 1, none⟩ = some (.slice xb nb cb) := HX.out.cell 1
  have q2 : w1.cell? ⟨w.heap.size, 2, none⟩ = some (.slice xc nc cc) := HX.out.cell 2
  have q3 : w1.cell? ⟨w.heap.size, 3, none⟩ = some (.int .i64 f) := HX.out.cell 3
  have q4 : w1.cell? ⟨w.heap.size, 4, none⟩ = some (.int .i64 s) := HX.out.cell 4
  have p0 : w1.cell? ⟨w.heap.size + 1, 0, none⟩ = some (.slice ua va oa) := HY.out.cell 0
  have p1 : w1.cell? ⟨w.heap.size + 1, 1, none⟩ = some (.slice ub vb ob) := HY.out.cell 1
  have p2 : w1.cell? ⟨w.heap.size + 1, 2, none⟩ = some (.slice uc vc oc) := HY.out.cell 2
  have p3 : w1.cell? ⟨w.heap.size + 1, 3, none⟩ = some (.int .i64 f2) := HY.out.cell 3
  have p4 : w1.cell? ⟨w.heap.size + 1, 4, none⟩ = some (.int .i64 s2) := HY.out.cell 4
  by_cases e1 : l = l2
  · rw [eqB_true e1]
    go_wp2_with fail
    clear q0 q1 q2 q3 q4 p0 p1 p2 p3 p4
    refine (Sl.eqByteS _ _ m m2 _ (H0.out.on HB.out).2.1 (G0.out.on HB.out).2.1 h2 g2).mono ?_
    rintro e w2 ⟨rfl, hb⟩
    replace HX := Lib.hid (HX.out.on hb); replace HY := Lib.hid (HY.out.on hb)
    replace HB := Lib.hid (HB.out.trans (hb.mono HB.out.size)); clear hb
    have q0 : w2.cell? ⟨w.heap.size, 0, none⟩ = some (.slice xa na ca) := HX.out.cell 0
    have q1 : w2.cell? ⟨w.heap.size, 1, none⟩ = some (.slice xb nb cb) := HX.out.cell 1
    have q2 : w2.cell? ⟨w.heap.size, 2, none⟩ = some (.slice xc nc cc) := HX.out.cell 2
    have q3 : w2.cell? ⟨w.heap.size, 3, none⟩ = some (.int .i64 f) := HX.out.cell 3
    have q4 : w2.cell? ⟨w.heap.size, 4, none⟩ = some (.int .i64 s) := HX.out.cell 4
    have p0 : w2.cell? ⟨w.heap.size + 1, 0, none⟩ = some (.slice ua va oa) := HY.out.cell 0
    have p1 : w2.cell? ⟨w.heap.size + 1, 1, none⟩ = some (.slice ub vb ob) := HY.out.cell 1
    have p2 : w2.cell? ⟨w.heap.size + 1, 2, none⟩ = some (.slice uc vc oc) := HY.out.cell 2
    have p3 : w2.cell? ⟨w.heap.size + 1, 3, none⟩ = some (.int .i64 f2) := HY.out.cell 3
    have p4 : w2.cell? ⟨w.heap.size + 1, 4, none⟩ = some (.int .i64 s2) := HY.out.cell 4
    by_cases e2 : m = m2
    · rw [Sl.eqB_true e2]
      go_wp2_with fail
      clear q0 q1 q2 q3 q4 p0 p1 p2 p3 p4
      refine (eqName _ _ k k2 _ (H0.out.on HB.out).2.2 (G0.out.on HB.out).2.2 (by omega) (by omega)).mono ?_
      rintro e w3 ⟨rfl, hb⟩
      replace HX := Lib.hid (HX.out.on hb); replace HY := Lib.hid (HY.out.on hb)
      replace HB := Lib.hid (HB.out.trans (hb.mono HB.out.size)); clear hb
      have q0 : w3.cell? ⟨w.heap.size, 0, none⟩ = some (.slice xa na ca) := HX.out.cell 0
      have q1 : w3.cell? ⟨w.heap.size, 1, none⟩ = some (.slice xb nb cb) := HX.out.cell 1
      have q2 : w3.cell? ⟨w.heap.size, 2, none⟩ = some (.slice xc nc cc) := HX.out.cell 2
      have q3 : w3.cell? ⟨w.heap.size, 3, none⟩ = some (.int .i64 f) := HX.out.cell 3
      have q4 : w3.cell? ⟨w.heap.size, 4, none⟩ = some (.int .i64 s) := HX.out.cell 4
      have p0 : w3.cell? ⟨w.heap.size + 1, 0, none⟩ = some (.slice ua va oa) := HY.out.cell 0
      have p1 : w3.cell? ⟨w.heap.size + 1, 1, none⟩ = some (.slice ub vb ob) := HY.out.cell 1
      have p2 : w3.cell? ⟨w.heap.size + 1, 2, none⟩ = some (.slice uc vc oc) := HY.out.cell 2
      have p3 : w3.cell? ⟨w.heap.size + 1, 3, none⟩ = some (.int .i64 f2) := HY.out.cell 3
      have p4 : w3.cell? ⟨w.heap.size + 1, 4, none⟩ = some (.int .i64 s2) := HY.out.cell 4
      by_cases e3 : k = k2
      · rw [eqB_true e3]
        by_cases e4 : f = f2
        · have t1 : (f != f2) = false := by simp [e4]
          by_cases e5 : s = s2
          · have t2 : (s != s2) = false := by simp [e5]
            have HE : Hid (q = true) := Lib.hid (by rw [← HQ.out]; simp [e1, e2, e3, e4, e5])
            clear e1 e2 e3 e4 e5
            go_wp2
            go_ret
            exact ⟨ret_bool HE.out.symm, HB.out⟩
          · have t2 : (s != s2) = true := by simpa using e5
            have HE : Hid (q = false) := Lib.hid (by rw [← HQ.out]; simp [e5])
            clear e1 e2 e3 e4 e5
            go_wp2
            go_ret
            exact ⟨ret_bool HE.out.symm, HB.out⟩
        · have t1 : (f != f2) = true := by simpa using e4
          have HE : Hid (q = false) := Lib.hid (by rw [← HQ.out]; simp [e4])
          clear e4
          go_wp2
          go_ret
          exact ⟨ret_bool HE.out.symm, HB.out⟩
      · rw [eqB_false e3]
        have HE : Hid (q = false) := Lib.hid (by rw [← HQ.out]; simp [e3])
        clear e3
        go_wp2
        go_ret
        exact ⟨ret_bool HE.out.symm, HB.out⟩
    · rw [Sl.eqB_false e2]
      have HE : Hid (q = false) := Lib.hid (by rw [← HQ.out]; simp [e2])
      clear e2
      go_wp2
      go_ret
      exact ⟨ret_bool HE.out.symm, HB.out⟩
  · rw [eqB_false e1]
    have HE : Hid (q = false) := Lib.hid (by rw [← HQ.out]; simp [e1])
    clear e1
    go_wp2
    go_ret
    exact ⟨ret_bool HE.out.symm, HB.out⟩

theorem szByteS (x : Option Addr) (n cap : Nat) (w : World) (left : Int) (hn : n ≤ 9223372036854775807) (h0 : 0 ≤ left) (h1 : left ≤ 1048576) :
    Calls Try.prog 64 #[.slice x n cap, .int .i64 left] w fun e w' => e = .returned (.int .i64 (if (n : Int) ≤ left then left - n else -1)) ∧ w = w' := by
  by_cases h : (n : Int) ≤ left
  · rw [if_pos h]
    have h2 : ¬ left - (n : Int) < 0 := by omega
    go_enter Try.func64, Try.ntmps64
    go_wp2
    go_ret
    exact ⟨rfl, rfl⟩
  · rw [if_neg h]
    have h2 : left - (n : Int) < 0 := by omega
    go_enter Try.func64, Try.ntmps64
    go_wp2
    go_ret
    exact ⟨rfl, rfl⟩
def bulkD (x : Dt) : Nat := bulk x.1 + x.2.1.length + bulk x.2.2.1
def szD (x : Dt) (left : Int) : Int := if (bulkD x : Int) ≤ left then left - bulkD x else -1
/-- Its parts are small enough for the contracts. -/
def smD (x : Dt) : Prop := bulk x.1 ≤ 1200000 ∧ x.2.1.length ≤ 1200000 ∧ bulk x.2.2.1 ≤ 1200000
theorem smD_of {x : Dt} (h : bulkD x ≤ 1200000) : smD x := by unfold bulkD at h; unfold smD; omega
theorem szD_fit {x : Dt} {left : Int} (h : (bulkD x : Int) ≤ left) : szD x left = left - bulkD x := if_pos h
theorem szD_not {x : Dt} {left : Int} (h : left < (bulkD x : Int)) : szD x left = -1 := if_neg (by omega)
set_option maxHeartbeats 2000000 in
theorem szData (a b c : Value) (x : Dt) (w : World) (left : Int) (h : DHold w a b c x) (h1 : x.1.length ≤ 9223372036854775807) (h2 : x.2.1.length ≤ 9223372036854775807) (h3 : x.2.2.1.length ≤ 9223372036854775807) (hs1 : ∀ y ∈ x.1, y.size ≤ maxLen) (hs3 : ∀ y ∈ x.2.2.1, y.size ≤ maxLen) (h0 : 0 ≤ left) (hl : left ≤ 1048576) :
    Calls Try.prog 30 #[.agg (dc a b c x.2.2.2.1 x.2.2.2.2), .int .i64 left] w fun e w' => e = .returned (.int .i64 (szD x left)) ∧ Below w.heap.size w w' := by
  obtain ⟨l, m, k, f, s⟩ := x
  simp only at h1 h2 h3 hs1 hs3 ⊢
  obtain ⟨xa, na, ca, xb, nb, cb, xc, nc, cc, rfl, rfl, rfl⟩ := h.shape
  obtain rfl : nb = m.length := Sl.Holds.lenEq h.2.1
  have HB := Lib.hid ((Below.refl w.heap.size w).alloc (Nat.le_refl _) (.cells (dc (.slice xa na ca) (.slice xb m.length cb) (.slice xc nc cc) f s) 52))
  have H0 := Lib.hid h; have S1 := Lib.hid hs1; have S3 := Lib.hid hs3
  have HX := Lib.hid (Ret.Blk.new w (dc (.slice xa na ca) (.slice xb m.length cb) (.slice xc nc cc) f s) 52)
  clear h hs1 hs3
  go_enter Try.func30, Try.ntmps30
  go_wp2_with fail
  refine (szName _ l _ left (H0.out.on HB.out).1 h1 S1.out h0 hl).mono ?_
  rintro e w1 ⟨rfl, hb⟩
  replace HX := Lib.hid (HX.out.on hb)
  replace HB := Lib.hid (HB.out.trans (hb.mono HB.out.size)); clear hb
  have q0 : w1.cell? ⟨w.heap.size, 0, none⟩ = some (.slice xa na ca) := HX.out.cell 0
  have q1 : w1.cell? ⟨w.heap.size, 1, none⟩ = some (.slice xb m.length cb) := HX.out.cell 1
  have q2 : w1.cell? ⟨w.heap.size, 2, none⟩ = some (.slice xc nc cc) := HX.out.cell 2
  have q3 : w1.cell? ⟨w.heap.size, 3, none⟩ = some (.int .i64 f) := HX.out.cell 3
  have q4 : w1.cell? ⟨w.heap.size, 4, none⟩ = some (.int .i64 s) := HX.out.cell 4
  by_cases t1 : (bulk l : Int) ≤ left
  · rw [szL_fit t1]
    have g1 : ¬ left - (bulk l : Int) < 0 := by omega
    go_wp2_with fail
    clear q0 q1 q2 q3 q4
    refine (szByteS _ _ _ _ (left - (bulk l : Int)) h2 (by omega) (by omega)).mono ?_
    rintro e w2 ⟨rfl, rfl⟩
    have q0 : w1.cell? ⟨w.heap.size, 0, none⟩ = some (.slice xa na ca) := HX.out.cell 0
    have q1 : w1.cell? ⟨w.heap.size, 1, none⟩ = some (.slice xb m.length cb) := HX.out.cell 1
    have q2 : w1.cell? ⟨w.heap.size, 2, none⟩ = some (.slice xc nc cc) := HX.out.cell 2
    have q3 : w1.cell? ⟨w.heap.size, 3, none⟩ = some (.int .i64 f) := HX.out.cell 3
    have q4 : w1.cell? ⟨w.heap.size, 4, none⟩ = some (.int .i64 s) := HX.out.cell 4
    by_cases t2 : (m.length : Int) ≤ left - (bulk l : Int)
    · rw [if_pos t2]
      have g2 : ¬ left - (bulk l : Int) - (m.length : Int) < 0 := by omega
      go_wp2_with fail
      clear q0 q1 q2 q3 q4
      refine (szName _ k _ (left - (bulk l : Int) - (m.length : Int)) (H0.out.on HB.out).2.2 h3 S3.out (by omega) (by omega)).mono ?_
      rintro e w3 ⟨rfl, hb⟩
      replace HX := Lib.hid (HX.out.on hb)
      replace HB := Lib.hid (HB.out.trans (hb.mono HB.out.size)); clear hb
      have q0 : w3.cell? ⟨w.heap.size, 0, none⟩ = some (.slice xa na ca) := HX.out.cell 0
      have q1 : w3.cell? ⟨w.heap.size, 1, none⟩ = some (.slice xb m.length cb) := HX.out.cell 1
      have q2 : w3.cell? ⟨w.heap.size, 2, none⟩ = some (.slice xc nc cc) := HX.out.cell 2
      have q3 : w3.cell? ⟨w.heap.size, 3, none⟩ = some (.int .i64 f) := HX.out.cell 3
      have q4 : w3.cell? ⟨w.heap.size, 4, none⟩ = some (.int .i64 s) := HX.out.cell 4
      by_cases t3 : (bulk k : Int) ≤ left - (bulk l : Int) - (m.length : Int)
      · rw [szL_fit t3]
        have g3 : ¬ left - (bulk l : Int) - (m.length : Int) - (bulk k : Int) < 0 := by omega
        have HZ : Hid (szD (l, m, k, f, s) left = left - (bulk l : Int) - (m.length : Int) - (bulk k : Int)) := Lib.hid (by rw [szD_fit (by show ((bulk l + m.length + bulk k : Nat) : Int) ≤ left; omega)]; show left - ((bulk l + m.length + bulk k : Nat) : Int) = _; omega)
        go_wp2
        go_ret
        exact ⟨ret_int HZ.out.symm, HB.out⟩
      · rw [szL_not (by omega)]
        have hz : szD (l, m, k, f, s) left = -1 := szD_not (by show left < ((bulk l + m.length + bulk k : Nat) : Int); omega)
        have HZ := Lib.hid hz; clear hz
        go_wp2
        go_ret
        exact ⟨ret_int HZ.out.symm, HB.out⟩
    · rw [if_neg t2]
      have hz : szD (l, m, k, f, s) left = -1 := szD_not (by show left < ((bulk l + m.length + bulk k : Nat) : Int); omega)
      have HZ := Lib.hid hz; clear hz
      go_wp2
      go_ret
      exact ⟨ret_int HZ.out.symm, HB.out⟩
  · rw [szL_not (l := l) (left := left) (by omega)]
    have hz : szD (l, m, k, f, s) left = -1 := szD_not (by show left < ((bulk l + m.length + bulk k : Nat) : Int); omega)
    have HZ := Lib.hid hz; clear hz
    go_wp2
    go_ret
    exact ⟨ret_int HZ.out.symm, HB.out⟩

def advD (x : Dt) : Nat := x.1.length + x.2.1.length + x.2.2.1.length
theorem advD_big {x : Dt} {n : Nat} (h : bulkD x ≤ n) : advD x ≤ n := by have h1 := bulk_len x.1; have h2 := bulk_len x.2.2.1; unfold bulkD at h; unfold advD; omega
/-- A packet whose parts are marked. -/
def mkD (k : Int) (x : Dt) : Dt := (marks markT k x.1.length, Sl.marks .u8 (k + x.1.length) x.2.1.length, marks markT (k + x.1.length + x.2.1.length) x.2.2.1.length, x.2.2.2)
set_option maxHeartbeats 2000000 in
theorem markData (B E : Nat) (a b c : Value) (x : Dt) (w : World) (k : Int) (h : DOwn B w a b c x) (hE : (∀ g, a.ownBlock = some g → g < E) ∧ (∀ g, b.ownBlock = some g → g < E) ∧ ∀ g, c.ownBlock = some g → g < E) (hl : advD x ≤ 100000000) (h0 : 0 ≤ k) (h1 : k ≤ 1000000000) :
    Calls Try.prog 28 #[.agg (dc a b c x.2.2.2.1 x.2.2.2.2), .int .i64 k] w fun e w' => e = .returned (.int .i64 (k + (advD x : Int))) ∧ DOwn B w' a b c (mkD k x) ∧ Wrote B E w w' := by
  obtain ⟨l, m, n, f, s⟩ := x
  obtain ⟨xa, na, ca, xb, nb, cb, xc, nc, cc, rfl, rfl, rfl⟩ := h.hold.shape
  obtain ⟨oa, ob, oc, ab, ac, bc⟩ := h
  have hl' : l.length + m.length + n.length ≤ 100000000 := hl
  simp only at oa ob oc ⊢
  have hal := (Below.refl w.heap.size w).alloc (Nat.le_refl _) (.cells (dc (.slice xa na ca) (.slice xb nb cb) (.slice xc nc cc) f s) 40)
  have HW := Lib.hid (Wrote.ofBelow (B := B) (E := E) hal)
  have HX := Lib.hid (Ret.Blk.new w (dc (.slice xa na ca) (.slice xb nb cb) (.slice xc nc cc) f s) 40)
  have OA := Lib.hid (oa.on hal); have OB := Lib.hid (Own.on (enc := Value.int .u8) ob hal); have OC := Lib.hid (oc.on hal)
  have LA := Lib.hid (fun g hg => And.intro (oa.lt g hg).1 (And.intro (oa.lt g hg).2 (hE.1 g hg)))
  have LB := Lib.hid (fun g hg => And.intro (ob.lt g hg).1 (And.intro (ob.lt g hg).2 (hE.2.1 g hg)))
  have LC := Lib.hid (fun g hg => And.intro (oc.lt g hg).1 (And.intro (oc.lt g hg).2 (hE.2.2 g hg)))
  have AB := Lib.hid ab; have AC := Lib.hid ac; have BC := Lib.hid bc
  clear oa ob oc ab ac bc hE hal hl
  go_enter Try.func28, Try.ntmps28
  go_wp2_with fail
  refine (markName B _ l _ k OA.out (by omega) h0 (by omega)).mono ?_
  rintro e w1 ⟨rfl, ho, hg⟩
  have OA1 := Lib.hid ho
  have OB1 := Lib.hid (Own.grown (enc := Value.int .u8) OB.out hg (apart_or AB.out.symm))
  have OC1 := Lib.hid (OC.out.grown hg (apart_or AC.out.symm))
  have HX1 := Lib.hid (HX.out.grown hg (fun e => by have h5 := (LA.out _ e.symm).2.1; omega))
  have HW1 := Lib.hid (HW.out.trans (Wrote.of hg (fun g hg => ⟨(LA.out g hg).1, (LA.out g hg).2.2⟩)))
  clear ho hg
  have q0 : w1.cell? ⟨w.heap.size, 0, none⟩ = some (.slice xa na ca) := HX1.out.cell 0
  have q1 : w1.cell? ⟨w.heap.size, 1, none⟩ = some (.slice xb nb cb) := HX1.out.cell 1
  have q2 : w1.cell? ⟨w.heap.size, 2, none⟩ = some (.slice xc nc cc) := HX1.out.cell 2
  have q3 : w1.cell? ⟨w.heap.size, 3, none⟩ = some (.int .i64 f) := HX1.out.cell 3
  have q4 : w1.cell? ⟨w.heap.size, 4, none⟩ = some (.int .i64 s) := HX1.out.cell 4
  go_wp2_with fail
  clear q0 q1 q2 q3 q4
  refine (Sl.markByteS B _ m _ (k + (l.length : Int)) OB1.out (by omega) (by omega) (by omega)).mono ?_
  rintro e w2 ⟨rfl, ho, hg⟩
  have OB2 := Lib.hid ho
  have OA2 := Lib.hid (OA1.out.grown hg (apart_or AB.out))
  have OC2 := Lib.hid (OC1.out.grown hg (apart_or BC.out.symm))
  have HX2 := Lib.hid (HX1.out.grown hg (fun e => by have h5 := (LB.out _ e.symm).2.1; omega))
  have HW2 := Lib.hid (HW1.out.trans (Wrote.of hg (fun g hg => ⟨(LB.out g hg).1, (LB.out g hg).2.2⟩)))
  clear ho hg
  have q0 : w2.cell? ⟨w.heap.size, 0, none⟩ = some (.slice xa na ca) := HX2.out.cell 0
  have q1 : w2.cell? ⟨w.heap.size, 1, none⟩ = some (.slice xb nb cb) := HX2.out.cell 1
  have q2 : w2.cell? ⟨w.heap.size, 2, none⟩ = some (.slice xc nc cc) := HX2.out.cell 2
  have q3 : w2.cell? ⟨w.heap.size, 3, none⟩ = some (.int .i64 f) := HX2.out.cell 3
  have q4 : w2.cell? ⟨w.heap.size, 4, none⟩ = some (.int .i64 s) := HX2.out.cell 4
  go_wp2_with fail
  clear q0 q1 q2 q3 q4
  refine (markName B _ n _ (k + (l.length : Int) + (m.length : Int)) OC2.out (by omega) (by omega) (by omega)).mono ?_
  rintro e w3 ⟨rfl, ho, hg⟩
  have OC3 := Lib.hid ho
  have OA3 := Lib.hid (OA2.out.grown hg (apart_or AC.out))
  have OB3 := Lib.hid (Own.grown (enc := Value.int .u8) OB2.out hg (apart_or BC.out))
  have HW3 := Lib.hid (HW2.out.trans (Wrote.of hg (fun g hg => ⟨(LC.out g hg).1, (LC.out g hg).2.2⟩)))
  clear ho hg
  go_wp2_with fail
  go_ret
  refine ⟨ret_int (by show _ = k + ((l.length + m.length + n.length : Nat) : Int); omega), ⟨OA3.out, OB3.out, OC3.out, AB.out, AC.out, BC.out⟩, HW3.out⟩

set_option maxHeartbeats 2000000 in
theorem heldData (a b c : Value) (w : World) (k : Int) (x : Dt) (h : DHold w a b c (mkD k x)) (hl : advD x ≤ 100000000) (h0 : 0 ≤ k) (h1 : k ≤ 1000000000) :
    Calls Try.prog 29 #[.agg (dc a b c x.2.2.2.1 x.2.2.2.2), .int .i64 k] w fun e w' => e = .returned (.int .i64 (k + (advD x : Int))) ∧ Below w.heap.size w w' := by
  obtain ⟨l, m, n, f, s⟩ := x
  obtain ⟨xa, na, ca, xb, nb, cb, xc, nc, cc, rfl, rfl, rfl⟩ := h.shape
  have hl' : l.length + m.length + n.length ≤ 100000000 := hl
  have HB := Lib.hid ((Below.refl w.heap.size w).alloc (Nat.le_refl _) (.cells (dc (.slice xa na ca) (.slice xb nb cb) (.slice xc nc cc) f s) 40))
  have H0 := Lib.hid h
  have HX := Lib.hid (Ret.Blk.new w (dc (.slice xa na ca) (.slice xb nb cb) (.slice xc nc cc) f s) 40)
  clear h hl
  go_enter Try.func29, Try.ntmps29
  go_wp2_with fail
  refine (heldName _ _ k l.length (H0.out.on HB.out).1 (by omega) h0 (by omega)).mono ?_
  rintro e w1 ⟨rfl, hb⟩
  replace HX := Lib.hid (HX.out.on hb)
  replace HB := Lib.hid (HB.out.trans (hb.mono HB.out.size)); clear hb
  have q0 : w1.cell? ⟨w.heap.size, 0, none⟩ = some (.slice xa na ca) := HX.out.cell 0
  have q1 : w1.cell? ⟨w.heap.size, 1, none⟩ = some (.slice xb nb cb) := HX.out.cell 1
  have q2 : w1.cell? ⟨w.heap.size, 2, none⟩ = some (.slice xc nc cc) := HX.out.cell 2
  have q3 : w1.cell? ⟨w.heap.size, 3, none⟩ = some (.int .i64 f) := HX.out.cell 3
  have q4 : w1.cell? ⟨w.heap.size, 4, none⟩ = some (.int .i64 s) := HX.out.cell 4
  have t1 : ¬ k + (l.length : Int) < 0 := by omega
  go_wp2_with fail
  clear q0 q1 q2 q3 q4
  refine (Sl.heldByteS _ _ (k + (l.length : Int)) m.length (H0.out.on HB.out).2.1 (by omega) (by omega) (by omega)).mono ?_
  rintro e w2 ⟨rfl, rfl⟩
  have q0 : w1.cell? ⟨w.heap.size, 0, none⟩ = some (.slice xa na ca) := HX.out.cell 0
  have q1 : w1.cell? ⟨w.heap.size, 1, none⟩ = some (.slice xb nb cb) := HX.out.cell 1
  have q2 : w1.cell? ⟨w.heap.size, 2, none⟩ = some (.slice xc nc cc) := HX.out.cell 2
  have q3 : w1.cell? ⟨w.heap.size, 3, none⟩ = some (.int .i64 f) := HX.out.cell 3
  have q4 : w1.cell? ⟨w.heap.size, 4, none⟩ = some (.int .i64 s) := HX.out.cell 4
  have t2 : ¬ k + (l.length : Int) + (m.length : Int) < 0 := by omega
  go_wp2_with fail
  clear q0 q1 q2 q3 q4
  refine (heldName _ _ (k + (l.length : Int) + (m.length : Int)) n.length (H0.out.on HB.out).2.2 (by omega) (by omega) (by omega)).mono ?_
  rintro e w3 ⟨rfl, hb⟩
  replace HB := Lib.hid (HB.out.trans (hb.mono HB.out.size)); clear hb
  have t3 : ¬ k + (l.length : Int) + (m.length : Int) + (n.length : Int) < 0 := by omega
  go_wp2_with fail
  go_ret
  exact ⟨ret_int (by show _ = k + ((l.length + m.length + n.length : Nat) : Int); omega), HB.out⟩
end Go.Proofs.Ytnblopilgfdjkaa.Row
/- Data packets in the words of the exact laws: the kind; the laws' helpers for it; a packet that came in as an argument. No conditions but that lengths fit. -/
namespace Go.Proofs.Ytnblopilgfdjkaa.Row
open Go.ChangeShapes Go.WideShapes Go.ChangeAt Go.RowKit Go.Instr
set_option linter.unusedVariables false
set_option maxRecDepth 100000

theorem u8one (x : Int) : (Value.int .u8 x).oneCell' = true := rfl
def kBs : Kd (List Int) (Rw Int) := kS 5 (Value.int .u8) u8one
def kD : Kd Dt (Rw ByteArray × Rw Int × Rw ByteArray × Int × Int) := (kNm 9).pair (kBs.pair ((kNm 9).pair (kInt.pair kInt)))
section
variable {w : World} {a b c V : Value} {x : Dt} {B E : Nat}
theorem kD_at (h : kD.At w V x) : ∃ a b c, V = .agg (dc a b c x.2.2.2.1 x.2.2.2.2) ∧ DHold w a b c x := by
  obtain ⟨⟨r, q, t, f, s⟩, rfl, rfl, h⟩ := h
  exact ⟨r.v, q.v, t.v, rfl, kNm_at (e := 9) ⟨r, rfl, rfl, h.1⟩, kS_at (h1 := u8one) (e := 5) ⟨q, rfl, rfl, h.2.1⟩, kNm_at (e := 9) ⟨t, rfl, rfl, h.2.2.1⟩⟩
theorem kD_of (h : DHold w a b c x) : kD.At w (.agg (dc a b c x.2.2.2.1 x.2.2.2.2)) x := by
  obtain ⟨l, m, k, f, s⟩ := x
  obtain ⟨r, rfl, e1, h1⟩ := kNm_of (e := 9) h.1
  obtain ⟨q, rfl, e2, h2⟩ := kS_of (enc := Value.int .u8) (h1 := u8one) (e := 5) h.2.1
  obtain ⟨t, rfl, e3, h3⟩ := kNm_of (e := 9) h.2.2
  exact ⟨(r, q, t, f, s), rfl, Prod.ext e1 (Prod.ext e2 (Prod.ext e3 rfl)), h1, h2, h3, trivial, trivial⟩
theorem nodup3 {u v t : Option Nat} : (u.toList ++ (v.toList ++ t.toList)).Nodup ↔ (∀ g, u = some g → v ≠ some g) ∧ (∀ g, u = some g → t ≠ some g) ∧ (∀ g, v = some g → t ≠ some g) := by
  cases u <;> cases v <;> cases t <;> simp <;> (try constructor) <;> (try intro h) <;> (try omega)
theorem kD_blocks (r : Rw ByteArray) (q : Rw Int) (t : Rw ByteArray) (f s : Int) : kD.blocks (r, q, t, f, s) = r.v.ownBlock.toList ++ (q.v.ownBlock.toList ++ t.v.ownBlock.toList) := by
  show (kNm 9).blocks r ++ (kBs.blocks q ++ ((kNm 9).blocks t ++ ([] ++ []))) = _
  rw [kNm_blocks, kNm_blocks, List.append_nil, List.append_nil]
  unfold kBs
  rw [kS_blocks]
theorem kD_mk (h : DOwn B w a b c x) (hE : (∀ g, a.ownBlock = some g → g < E) ∧ (∀ g, b.ownBlock = some g → g < E) ∧ ∀ g, c.ownBlock = some g → g < E) : kD.In B E w (.agg (dc a b c x.2.2.2.1 x.2.2.2.2)) x := by
  obtain ⟨l, m, k, f, s⟩ := x
  obtain ⟨o1, o2, o3, ab, ac, bc⟩ := h
  obtain ⟨r, rfl, e1, h1, -⟩ := kNm_mk o1 hE.1
  obtain ⟨q, rfl, e2, h2, -⟩ := kS_mk (h1 := u8one) (e := 5) (enc := Value.int .u8) o2 hE.2.1
  obtain ⟨t, rfl, e3, h3, -⟩ := kNm_mk o3 hE.2.2
  refine ⟨(r, q, t, f, s), rfl, Prod.ext e1 (Prod.ext e2 (Prod.ext e3 rfl)), ⟨h1, h2, h3, trivial, trivial⟩, ?_, ?_⟩
  · rw [kD_blocks]; exact nodup3.2 ⟨ab, ac, bc⟩
  · rw [kD_blocks]
    intro g hg
    rcases List.mem_append.1 hg with hg | hg
    · exact hE.1 g (show r.v.ownBlock = some g by simpa using hg)
    · rcases List.mem_append.1 hg with hg | hg
      · exact hE.2.1 g (show q.v.ownBlock = some g by simpa using hg)
      · exact hE.2.2 g (show t.v.ownBlock = some g by simpa using hg)
theorem kD_own (h : DOwn B w a b c x) : kD.In B w.heap.size w (.agg (dc a b c x.2.2.2.1 x.2.2.2.2)) x := kD_mk h ⟨fun g hg => (h.1.lt g hg).2, fun g hg => (Sl.Own.lt h.2.1 g hg).2, fun g hg => (h.2.2.1.lt g hg).2⟩
theorem kD_in (h : kD.In B E w V x) : ∃ a b c, V = .agg (dc a b c x.2.2.2.1 x.2.2.2.2) ∧ DOwn B w a b c x ∧ (∀ g, a.ownBlock = some g → g < E) ∧ (∀ g, b.ownBlock = some g → g < E) ∧ ∀ g, c.ownBlock = some g → g < E := by
  obtain ⟨⟨r, q, t, f, s⟩, rfl, rfl, h, hn, hl⟩ := h
  rw [kD_blocks] at hn hl
  obtain ⟨ab, ac, bc⟩ := nodup3.1 hn
  have la : ∀ g, r.v.ownBlock = some g → g < E := fun g hg => hl g (List.mem_append_left _ (by simp [hg]))
  have lb : ∀ g, q.v.ownBlock = some g → g < E := fun g hg => hl g (List.mem_append_right _ (List.mem_append_left _ (by simp [hg])))
  have lc : ∀ g, t.v.ownBlock = some g → g < E := fun g hg => hl g (List.mem_append_right _ (List.mem_append_right _ (by simp [hg])))
  have nd : ∀ u : Option Nat, u.toList.Nodup := fun u => by cases u <;> simp
  have i1 := kNm_in (E := E) (e := 9) ⟨r, rfl, rfl, h.1, by rw [kNm_blocks]; exact nd _, by rw [kNm_blocks]; intro g hg; exact la g (by simpa using hg)⟩
  have i2 := kS_in (E := E) (h1 := u8one) (e := 5) (enc := Value.int .u8) ⟨q, rfl, rfl, h.2.1, by rw [kS_blocks]; exact nd _, by rw [kS_blocks]; intro g hg; exact lb g (by simpa using hg)⟩
  have i3 := kNm_in (E := E) (e := 9) ⟨t, rfl, rfl, h.2.2.1, by rw [kNm_blocks]; exact nd _, by rw [kNm_blocks]; intro g hg; exact lc g (by simpa using hg)⟩
  exact ⟨r.v, q.v, t.v, rfl, ⟨i1.1, i2.1, i3.1, ab, ac, bc⟩, la, lb, lc⟩
theorem kD_shape (h : kD.In B E w V x) : ∃ xa na ca xb nb cb xc nc cc, V = .agg #[.slice xa na ca, .slice xb nb cb, .slice xc nc cc, .int .i64 x.2.2.2.1, .int .i64 x.2.2.2.2] ∧ kD.In B E w (.agg #[.slice xa na ca, .slice xb nb cb, .slice xc nc cc, .int .i64 x.2.2.2.1, .int .i64 x.2.2.2.2]) x := by
  obtain ⟨a, b, c, rfl, ho, -⟩ := kD_in h
  obtain ⟨xa, na, ca, xb, nb, cb, xc, nc, cc, rfl, rfl, rfl⟩ := ho.hold.shape
  exact ⟨_, _, _, _, _, _, _, _, _, rfl, h⟩
theorem kD_shapeA (h : kD.At w V x) : ∃ xa na ca xb nb cb xc nc cc, V = .agg #[.slice xa na ca, .slice xb nb cb, .slice xc nc cc, .int .i64 x.2.2.2.1, .int .i64 x.2.2.2.2] ∧ kD.At w (.agg #[.slice xa na ca, .slice xb nb cb, .slice xc nc cc, .int .i64 x.2.2.2.1, .int .i64 x.2.2.2.2]) x := by
  obtain ⟨a, b, c, rfl, ho⟩ := kD_at h
  obtain ⟨xa, na, ca, xb, nb, cb, xc, nc, cc, rfl, rfl, rfl⟩ := ho.shape
  exact ⟨_, _, _, _, _, _, _, _, _, rfl, h⟩
end
/-- Its parts' sizes and its numbers fit. -/
def WfD (x : Dt) : Prop := (∀ y ∈ x.1, y.size ≤ maxLen) ∧ (∀ y ∈ x.2.1, (Lit.int .u8 y).wf = true) ∧ (∀ y ∈ x.2.2.1, y.size ≤ maxLen) ∧ (Lit.int .i64 x.2.2.2.1).wf = true ∧ (Lit.int .i64 x.2.2.2.2).wf = true
theorem szDK (V : Value) (x : Dt) (w : World) (left : Int) (h : kD.At w V x) (hl : x.1.length ≤ 9223372036854775807 ∧ x.2.1.length ≤ 9223372036854775807 ∧ x.2.2.1.length ≤ 9223372036854775807) (hs : WfD x) (h0 : 0 ≤ left) (h1 : left ≤ 1048576) :
    Calls Try.prog 30 #[V, .int .i64 left] w fun e w' => e = .returned (.int .i64 (szD x left)) ∧ Below w.heap.size w w' := by
  obtain ⟨a, b, c, rfl, h9⟩ := kD_at h
  exact szData a b c x w left h9 hl.1 hl.2.1 hl.2.2 hs.1 hs.2.2.1 h0 h1
theorem toDK (V : Value) (x : Dt) (w : World) (h : kD.At w V x) (hl : bulkD x ≤ 100000000) :
    Calls Try.prog 32 #[V] w fun e w' => ∃ U, e = .returned U ∧ kD.In w.heap.size w'.heap.size w' U x ∧ Below w.heap.size w w' := by
  obtain ⟨a, b, c, rfl, h9⟩ := kD_at h
  have h1 := bulk_len x.1
  have h2 := bulk_len x.2.2.1
  unfold bulkD at hl
  exact (toData a b c x w h9 (by omega) (by omega) (by omega)).mono fun e w' ⟨a, b, c, p, q, r⟩ => ⟨_, p, kD_own q, r⟩
theorem sameDK (V U : Value) (x : Dt) (w : World) (h : kD.At w V x) (g : kD.At w U x) (hl : advD x ≤ 100000000) :
    Calls Try.prog 23 #[V, U] w fun e w' => e = .returned (.bool true) ∧ Below w.heap.size w w' := by
  obtain ⟨a, b, c, rfl, h9⟩ := kD_at h
  obtain ⟨a2, b2, c2, rfl, g9⟩ := kD_at g
  unfold advD at hl
  exact eqData a b c a2 b2 c2 x x w true (by simp) h9 g9 (by omega) (by omega) (by omega) (by omega) (by omega) (by omega)
theorem markDK (B E : Nat) (V : Value) (x : Dt) (w : World) (k : Int) (h : kD.In B E w V x) (hl : advD x ≤ 100000000) (h0 : 0 ≤ k) (h1 : k ≤ 1000000000) :
    Calls Try.prog 28 #[V, .int .i64 k] w fun e w' => e = .returned (.int .i64 (k + (advD x : Int))) ∧ kD.In B E w' V (mkD k x) ∧ Wrote B E w w' := by
  obtain ⟨a, b, c, rfl, ho, hE⟩ := kD_in h
  exact (markData B E a b c x w k ho hE hl h0 h1).mono fun e w' ⟨p, q, r⟩ => ⟨p, kD_mk (x := mkD k x) q hE, r⟩
theorem heldDK (V : Value) (w : World) (k : Int) (x : Dt) (h : kD.At w V (mkD k x)) (hl : advD x ≤ 100000000) (h0 : 0 ≤ k) (h1 : k ≤ 1000000000) :
    Calls Try.prog 29 #[V, .int .i64 k] w fun e w' => e = .returned (.int .i64 (k + (advD x : Int))) ∧ Below w.heap.size w w' := by
  obtain ⟨a, b, c, rfl, h9⟩ := kD_at h
  exact heldData a b c w k x h9 hl h0 h1

/-- A slice of bytes as it is read. -/
theorem open_bytes1 {H : Type} {enc : TypeId × Value → H} {P : Program} {w : World} {b2 n : Nat} {held : Bool} {e s : TypeId} {cs : List Value} {y0 : DataW H × List MemPlace} (he : P.underlying e = some (.slice s)) (hs : P.underlying s = some (.int .u8)) (hcs : P.cellsOf s = 1)
    (h0 : DataW.trod enc P w b2 (fun _ => true) held n e cs = some y0) : ∃ (ad : Option Addr) (k c : Nat) (l : List Int), cs = [.slice ad k c] ∧ Sl.Holds .u8 w (.slice ad k c) l ∧ (∀ x ∈ l, (Lit.int .u8 x).wf = true) ∧ l.length ≤ 9223372036854775807 := by
  have hmx : maxLen = 9223372036854775807 := rfl
  rcases open_ints he hs hcs h0 with ⟨hc, hx⟩ | ⟨a, len', cap', zs, hc, hb, hl, hm, hn, hx, hcell, hwz⟩
  · exact ⟨none, 0, 0, [], hc, Sl.Holds.nil _ _, by simp, by simp⟩
  · simp only [if_true] at hn
    have hlen : (zs.take len').length = len' := by rw [List.length_take]; omega
    refine ⟨some a, len', cap', zs.take len', hc, ⟨some a, cap', by rw [hlen], by rw [hlen]; exact hl, ?_⟩, fun n hnn => hwz n (List.mem_of_mem_take hnn), by rw [hlen, ← hmx]; exact Nat.le_trans hl hm⟩
    by_cases h0 : len' = 0
    · left; subst h0; simp
    · right
      obtain ⟨b, off, spot⟩ := a
      have h1 := hcell 0 (by omega)
      have hs : spot = none := by simpa [Addr.add] using World.cell?_spot h1
      subst hs
      refine ⟨b, off, rfl, fun i hi => ?_⟩
      rw [hlen] at hi
      have h2 := hcell i (by omega)
      rw [Go.WideShapes.add_plain] at h2
      rw [h2]
      simp only [Sl.nth, List.getD, List.getElem?_take, if_pos hi]
theorem five {α : Type} {cs : Array α} (h : cs.size = 5) : ∃ c0 c1 c2 c3 c4, cs = #[c0, c1, c2, c3, c4] := by
  obtain ⟨l⟩ := cs
  match l, h with
  | [c0, c1, c2, c3, c4], _ => exact ⟨c0, c1, c2, c3, c4, rfl⟩
/-- A packet as it came in. -/
theorem open_data {H : Type} {enc : TypeId × Value → H} {P : Program} {w : World} {base b2 : Nat} {held : Bool} {t ep eb : TypeId} {v : Value} {d : DataW H} {p : List MemPlace} {f0 f1 f2 f3 f4 g0 : Field}
    (he : P.underlying t = some (.struct #[f0, f1, f2, f3, f4])) (hN : P.underlying f0.type = some (.struct #[g0])) (hN2 : P.underlying f2.type = some (.struct #[g0])) (hg : P.underlying g0.type = some (.slice ep)) (hs : P.underlying ep = some .string) (hB : P.underlying f1.type = some (.slice eb)) (hb : P.underlying eb = some (.int .u8)) (hI3 : P.underlying f3.type = some (.int .i64)) (hI4 : P.underlying f4.type = some (.int .i64))
    (ho0 : f0.offset = 0) (ho1 : f1.offset = 1) (ho2 : f2.offset = 2) (ho3 : f3.offset = 3) (ho4 : f4.offset = 4) (hog : g0.offset = 0) (hc0 : P.cellsOf f0.type = 1) (hc1 : P.cellsOf f1.type = 1) (hc2 : P.cellsOf f2.type = 1) (hc3 : P.cellsOf f3.type = 1) (hc4 : P.cellsOf f4.type = 1) (hcg : P.cellsOf g0.type = 1) (hcs : P.cellsOf ep = 1) (hcb : P.cellsOf eb = 1) (hC : P.cellsOf t = 5)
    (hv : Value.okWide P w .any base t v) (h : DataW.Trod enc P w b2 (fun _ => true) held t v d p) :
    ∃ x, kD.At w v x ∧ WfD x ∧ x.1.length ≤ 9223372036854775807 ∧ x.2.1.length ≤ 9223372036854775807 ∧ x.2.2.1.length ≤ 9223372036854775807 := by
  obtain ⟨cs, rfl, hcz⟩ := okWide_struct he hv
  obtain ⟨fuel, hfu⟩ := h
  obtain ⟨xs, n2, -, -, -, hlen, hf⟩ := DataW.trod_struct he hfu
  have hlen5 : xs.length = 5 := hlen
  obtain ⟨y0, y1, y2, y3, y4, rfl⟩ : ∃ y0 y1 y2 y3 y4, xs = [y0, y1, y2, y3, y4] := by
    match xs, hlen5 with
    | [y0, y1, y2, y3, y4], _ => exact ⟨y0, y1, y2, y3, y4, rfl⟩
  have q0 := hf 0 f0 rfl
  have q1 := hf 1 f1 rfl
  have q2 := hf 2 f2 rfl
  have q3 := hf 3 f3 rfl
  have q4 := hf 4 f4 rfl
  simp only [List.getElem?_cons_zero, List.getElem?_cons_succ] at q0 q1 q2 q3 q4
  rw [ho0, hc0] at q0
  rw [ho1, hc1] at q1
  rw [ho2, hc2] at q2
  rw [ho3, hc3] at q3
  rw [ho4, hc4] at q4
  obtain ⟨z0, n3, -, -, q0⟩ := trod_struct1 hN q0
  rw [hog, hcg] at q0
  obtain ⟨z2, n4, -, -, q2⟩ := trod_struct1 hN2 q2
  rw [hog, hcg] at q2
  obtain ⟨a1, k1, c1, l, e0, hh, hz, hln⟩ := open_strs1 hg hs hcs q0
  obtain ⟨a2, k2, c2, m, e1, hh2, hz2, hln2⟩ := open_bytes1 hB hb hcb q1
  obtain ⟨a3, k3, c3, k, e2, hh3, hz3, hln3⟩ := open_strs1 hg hs hcs q2
  obtain ⟨v3, e3, -, w3⟩ := DataW.trod_int hI3 q3
  obtain ⟨v4, e4, -, w4⟩ := DataW.trod_int hI4 q4
  obtain ⟨u0, u1, u2, u3, u4, rfl⟩ := five (hcz.trans hC)
  simp [Value.cells] at e0 e1 e2 e3 e4
  subst e0 e1 e2 e3 e4
  exact ⟨(l, m, k, v3, v4), kD_of (x := (l, m, k, v3, v4)) ⟨hh, hh2, hh3⟩, ⟨hz, hz2, hz3, w3, w4⟩, hln, hln2, hln3⟩
end Go.Proofs.Ytnblopilgfdjkaa.Row
/- Contracts of the model's functions on data packets: copy, validity, freshness, equality. No conditions but that lengths fit. -/
namespace Go.Proofs.Ytnblopilgfdjkaa.Row
open Go.ChangeShapes Go.WideShapes Go.ChangeAt Go.RowKit Go.Instr
set_option linter.unusedVariables false
set_option maxRecDepth 100000

/-- A result that is a packet of the call's own. -/
def GivesD (w : World) (x : Dt) (e : Ending) (w' : World) : Prop := ∃ a b c, e = .returned (.agg (dc a b c x.2.2.2.1 x.2.2.2.2)) ∧ DOwn w.heap.size w' a b c x ∧ Below w.heap.size w w'
def GivesDB (w : World) (x : Dt) (z : Bool) (e : Ending) (w' : World) : Prop := ∃ a b c, e = .returned (.tuple #[.agg (dc a b c x.2.2.2.1 x.2.2.2.2), .bool z]) ∧ DOwn w.heap.size w' a b c x ∧ Below w.heap.size w w'

set_option maxHeartbeats 4000000 in
theorem l8Copy (a b c : Value) (x : Dt) (w : World) (h : DHold w a b c x) (h1 : x.1.length ≤ 9000000) (h2 : x.2.1.length ≤ 9000000) (h3 : x.2.2.1.length ≤ 9000000) :
    Calls Try.prog 81 #[.agg (dc a b c x.2.2.2.1 x.2.2.2.2)] w (GivesD w x) := by
  obtain ⟨l, m, k, f, s⟩ := x
  unfold GivesD
  simp only at h1 h2 h3 ⊢
  obtain ⟨xa, na, ca, xb, nb, cb, xc, nc, cc, rfl, rfl, rfl⟩ := h.shape
  have hb0 := (Below.refl w.heap.size w).alloc (Nat.le_refl _) (.cells (dc (.slice xa na ca) (.slice xb nb cb) (.slice xc nc cc) f s) 40)
  have hb1 := hb0.alloc (by simp) (.cells (dc nil nil nil 0 0) 40)
  have hb2 := hb1.alloc (by simp; omega) (.cells (dc (.slice xa na ca) (.slice xb nb cb) (.slice xc nc cc) f s) 40)
  have HB := Lib.hid hb2
  have H0 := Lib.hid h
  have HX := Lib.hid (((Ret.Blk.new w (dc (.slice xa na ca) (.slice xb nb cb) (.slice xc nc cc) f s) 40).on ((Below.refl _ _).alloc (Nat.le_refl _) (.cells (dc nil nil nil 0 0) 40))).on ((Below.refl _ _).alloc (Nat.le_refl _) (.cells (dc (.slice xa na ca) (.slice xb nb cb) (.slice xc nc cc) f s) 40)))
  have HR := Lib.hid ((Ret.Blk.new' (w := (w.alloc (.cells (dc (.slice xa na ca) (.slice xb nb cb) (.slice xc nc cc) f s) 40))) (n := w.heap.size + 1) (dc nil nil nil 0 0) 40 (by simp)).on ((Below.refl _ _).alloc (Nat.le_refl _) (.cells (dc (.slice xa na ca) (.slice xb nb cb) (.slice xc nc cc) f s) 40)))
  have HL := Lib.hid (Ret.Blk.new' (w := (w.alloc (.cells (dc (.slice xa na ca) (.slice xb nb cb) (.slice xc nc cc) f s) 40)).alloc (.cells (dc nil nil nil 0 0) 40)) (n := w.heap.size + 1 + 1) (dc (.slice xa na ca) (.slice xb nb cb) (.slice xc nc cc) f s) 40 (by simp))
  have hz0 : (((w.alloc (.cells (dc (.slice xa na ca) (.slice xb nb cb) (.slice xc nc cc) f s) 40)).alloc (.cells (dc nil nil nil 0 0) 40)).alloc (.cells (dc (.slice xa na ca) (.slice xb nb cb) (.slice xc nc cc) f s) 40)).heap.size = w.heap.size + 3 := by simp
  have hml : m.length * 1 ≤ 9000000 := by omega
  clear h hb0 hb1 hb2
  go_enter Try.func81, Try.ntmps81
  go_wp2_with fail
  refine (l4Copy _ l _ (H0.out.on HB.out).1 (by omega)).mono ?_
  rintro e w1 ⟨a1, rfl, ho1, hb1⟩
  obtain ⟨ya, ma, da, rfl, -, -, ho1⟩ := ho1.shapeN
  have hs1 := hb1.size
  rw [hz0] at ho1 hs1
  replace HX := Lib.hid (HX.out.on hb1); replace HR := Lib.hid (HR.out.on hb1); replace HL := Lib.hid (HL.out.on hb1)
  replace HB := Lib.hid (HB.out.trans (hb1.mono HB.out.size))
  have HO1 := Lib.hid ho1
  have HLA := Lib.hid (fun g hg => (ho1.lt g hg).2)
  clear ho1 hb1 hz0
  have q0 : w1.cell? ⟨w.heap.size, 0, none⟩ = some (.slice xa na ca) := HX.out.cell 0
  have q1 : w1.cell? ⟨w.heap.size, 1, none⟩ = some (.slice xb nb cb) := HX.out.cell 1
  have q2 : w1.cell? ⟨w.heap.size, 2, none⟩ = some (.slice xc nc cc) := HX.out.cell 2
  have q3 : w1.cell? ⟨w.heap.size, 3, none⟩ = some (.int .i64 f) := HX.out.cell 3
  have q4 : w1.cell? ⟨w.heap.size, 4, none⟩ = some (.int .i64 s) := HX.out.cell 4
  have p0 : w1.cell? ⟨w.heap.size + 1 + 1, 0, none⟩ = some (.slice xa na ca) := HL.out.cell 0
  have p1 : w1.cell? ⟨w.heap.size + 1 + 1, 1, none⟩ = some (.slice xb nb cb) := HL.out.cell 1
  have p2 : w1.cell? ⟨w.heap.size + 1 + 1, 2, none⟩ = some (.slice xc nc cc) := HL.out.cell 2
  have p3 : w1.cell? ⟨w.heap.size + 1 + 1, 3, none⟩ = some (.int .i64 f) := HL.out.cell 3
  have p4 : w1.cell? ⟨w.heap.size + 1 + 1, 4, none⟩ = some (.int .i64 s) := HL.out.cell 4
  have t0 := HL.out.frozen 0; have t1 := HL.out.frozen 1; have t2 := HL.out.frozen 2; have t3 := HL.out.frozen 3; have t4 := HL.out.frozen 4
  go_upto_region 3 with fail
  clear q0 q1 q2 q3 q4 p0 p1 p2 p3 p4 t0 t1 t2 t3 t4
  replace HX := Lib.hid (HX.out.other (a := ⟨w.heap.size + 1 + 1, 0, none⟩) (by show w.heap.size + 1 + 1 ≠ w.heap.size; omega) (.slice ya ma da))
  replace HR := Lib.hid (HR.out.other (a := ⟨w.heap.size + 1 + 1, 0, none⟩) (by show w.heap.size + 1 + 1 ≠ w.heap.size + 1; omega) (.slice ya ma da))
  replace HL := Lib.hid (HL.out.set 0 (.slice ya ma da))
  replace HB := Lib.hid (HB.out.setCell (p := ⟨w.heap.size + 1 + 1, 0, none⟩) (by show w.heap.size ≤ w.heap.size + 1 + 1; omega) (.slice ya ma da))
  replace HO1 := Lib.hid (own_set (g := w.heap.size + 1 + 1) (i := 0) (u := .slice ya ma da) HO1.out (by omega))
  have hzs : (w1.setCell ⟨w.heap.size + 1 + 1, 0, none⟩ (.slice ya ma da)).heap.size = w1.heap.size := by simp [World.setCell]
  rw [← hzs] at HLA hs1
  clear hzs
  generalize w1.setCell ⟨w.heap.size + 1 + 1, 0, none⟩ (.slice ya ma da) = W at *
  have hal : Below W.heap.size W (W.alloc (.cells #[] 5)) := (Below.refl _ _).alloc (Nat.le_refl _) _
  have HOE := Lib.hid (Sl.own_empty .u8 5 W)
  have HHE := Lib.hid ((H0.out.on HB.out).2.1.on hal)
  have q0 : W.cell? ⟨w.heap.size, 0, none⟩ = some (.slice xa na ca) := HX.out.cell 0
  have q1 : W.cell? ⟨w.heap.size, 1, none⟩ = some (.slice xb nb cb) := HX.out.cell 1
  have q2 : W.cell? ⟨w.heap.size, 2, none⟩ = some (.slice xc nc cc) := HX.out.cell 2
  have q3 : W.cell? ⟨w.heap.size, 3, none⟩ = some (.int .i64 f) := HX.out.cell 3
  have q4 : W.cell? ⟨w.heap.size, 4, none⟩ = some (.int .i64 s) := HX.out.cell 4
  have p0 : W.cell? ⟨w.heap.size + 1 + 1, 0, none⟩ = some (.slice ya ma da) := HL.out.cell 0
  have p1 : W.cell? ⟨w.heap.size + 1 + 1, 1, none⟩ = some (.slice xb nb cb) := HL.out.cell 1
  have p2 : W.cell? ⟨w.heap.size + 1 + 1, 2, none⟩ = some (.slice xc nc cc) := HL.out.cell 2
  have p3 : W.cell? ⟨w.heap.size + 1 + 1, 3, none⟩ = some (.int .i64 f) := HL.out.cell 3
  have p4 : W.cell? ⟨w.heap.size + 1 + 1, 4, none⟩ = some (.int .i64 s) := HL.out.cell 4
  have t0 := HL.out.frozen 0; have t1 := HL.out.frozen 1; have t2 := HL.out.frozen 2; have t3 := HL.out.frozen 3; have t4 := HL.out.frozen 4
  have q1a := kc q1 hal
  go_wp2_with (at_builtin; refine Sl.wpList_app (k := .u8) (B := W.heap.size) (l := []) (m := m) rfl _ _ rfl Try.underlying38 Sl.elemBYTE rfl rfl rfl HOE.out HHE.out ?_ (by decide) ?_ ?_)
  all_goals first | (intro v2 w2 ho2 hg2; skip) | omega | (simp; omega) | simp
  obtain ⟨yb, mb, db, rfl, -, -, ho2⟩ := Own.shapeN (enc := Value.int .u8) ho2
  replace ho2 : Sl.Own 5 .u8 W.heap.size w2 (.slice yb mb db) m := ho2
  have hs2 : W.heap.size ≤ w2.heap.size := Nat.le_trans hal.size hg2.size
  have HLB := Lib.hid (fun g hg => (ho2.lt g hg).2)
  have hrow : ∀ q, q < W.heap.size → some q ≠ (Value.slice (some ⟨W.heap.size, 0, none⟩) 0 0).ownBlock := fun q hq e => by have h5 : q = W.heap.size := Option.some.inj e; omega
  replace HX := Lib.hid ((HX.out.on hal).grown hg2 (hrow _ (by omega))); replace HR := Lib.hid ((HR.out.on hal).grown hg2 (hrow _ (by omega))); replace HL := Lib.hid ((HL.out.on hal).grown hg2 (hrow _ (by omega)))
  replace HO1 := Lib.hid ((HO1.out.on hal).grown hg2 (by
    cases hv : (Value.slice ya ma da).ownBlock with
    | none => exact Or.inl rfl
    | some q => exact Or.inr (hrow q (HLA.out q hv))))
  replace HB := Lib.hid ((HB.out.trans (hal.mono HB.out.size)).grown hg2 (Nat.le_trans HB.out.size hal.size) (fun g e => by have h5 : W.heap.size = g := Option.some.inj e; have h6 := HB.out.size; omega))
  have HO2 := Lib.hid ho2
  clear ho2 hg2 hal hrow HOE HHE q1a q0 q1 q2 q3 q4 p0 p1 p2 p3 p4 t0 t1 t2 t3 t4
  have q0 : w2.cell? ⟨w.heap.size, 0, none⟩ = some (.slice xa na ca) := HX.out.cell 0
  have q1 : w2.cell? ⟨w.heap.size, 1, none⟩ = some (.slice xb nb cb) := HX.out.cell 1
  have q2 : w2.cell? ⟨w.heap.size, 2, none⟩ = some (.slice xc nc cc) := HX.out.cell 2
  have q3 : w2.cell? ⟨w.heap.size, 3, none⟩ = some (.int .i64 f) := HX.out.cell 3
  have q4 : w2.cell? ⟨w.heap.size, 4, none⟩ = some (.int .i64 s) := HX.out.cell 4
  have p0 : w2.cell? ⟨w.heap.size + 1 + 1, 0, none⟩ = some (.slice ya ma da) := HL.out.cell 0
  have p1 : w2.cell? ⟨w.heap.size + 1 + 1, 1, none⟩ = some (.slice xb nb cb) := HL.out.cell 1
  have p2 : w2.cell? ⟨w.heap.size + 1 + 1, 2, none⟩ = some (.slice xc nc cc) := HL.out.cell 2
  have p3 : w2.cell? ⟨w.heap.size + 1 + 1, 3, none⟩ = some (.int .i64 f) := HL.out.cell 3
  have p4 : w2.cell? ⟨w.heap.size + 1 + 1, 4, none⟩ = some (.int .i64 s) := HL.out.cell 4
  have t0 := HL.out.frozen 0; have t1 := HL.out.frozen 1; have t2 := HL.out.frozen 2; have t3 := HL.out.frozen 3; have t4 := HL.out.frozen 4
  go_wp2_with fail
  clear q0 q1 q2 q3 q4 p0 p1 p2 p3 p4 t0 t1 t2 t3 t4
  replace HX := Lib.hid (HX.out.other (a := ⟨w.heap.size + 1 + 1, 1, none⟩) (by show w.heap.size + 1 + 1 ≠ w.heap.size; omega) (.slice yb mb db))
  replace HR := Lib.hid (HR.out.other (a := ⟨w.heap.size + 1 + 1, 1, none⟩) (by show w.heap.size + 1 + 1 ≠ w.heap.size + 1; omega) (.slice yb mb db))
  replace HL := Lib.hid (HL.out.set 1 (.slice yb mb db))
  replace HB := Lib.hid (HB.out.setCell (p := ⟨w.heap.size + 1 + 1, 1, none⟩) (by show w.heap.size ≤ w.heap.size + 1 + 1; omega) (.slice yb mb db))
  replace HO1 := Lib.hid (own_set (g := w.heap.size + 1 + 1) (i := 1) (u := .slice yb mb db) HO1.out (by omega))
  replace HO2 := Lib.hid (sl_own_set (g := w.heap.size + 1 + 1) (i := 1) (u := .slice yb mb db) HO2.out (by omega))
  refine (l4Copy _ k _ (H0.out.on HB.out).2.2 (by omega)).mono ?_
  rintro e w3 ⟨c1, rfl, ho3, hb3⟩
  obtain ⟨yc, mc, dc_, rfl, -, -, ho3⟩ := ho3.shapeN
  have hs3 := hb3.size
  simp only [World.size_setCell] at hs3 ho3
  replace HX := Lib.hid (HX.out.on hb3); replace HR := Lib.hid (HR.out.on hb3); replace HL := Lib.hid (HL.out.on hb3)
  replace HO1 := Lib.hid (HO1.out.on hb3); replace HO2 := Lib.hid (HO2.out.on hb3)
  replace HB := Lib.hid (HB.out.trans (hb3.mono HB.out.size))
  have HO3 := Lib.hid ho3
  clear ho3 hb3
  have q0 : w3.cell? ⟨w.heap.size, 0, none⟩ = some (.slice xa na ca) := HX.out.cell 0
  have q1 : w3.cell? ⟨w.heap.size, 1, none⟩ = some (.slice xb nb cb) := HX.out.cell 1
  have q2 : w3.cell? ⟨w.heap.size, 2, none⟩ = some (.slice xc nc cc) := HX.out.cell 2
  have q3 : w3.cell? ⟨w.heap.size, 3, none⟩ = some (.int .i64 f) := HX.out.cell 3
  have q4 : w3.cell? ⟨w.heap.size, 4, none⟩ = some (.int .i64 s) := HX.out.cell 4
  have p0 : w3.cell? ⟨w.heap.size + 1 + 1, 0, none⟩ = some (.slice ya ma da) := HL.out.cell 0
  have p1 : w3.cell? ⟨w.heap.size + 1 + 1, 1, none⟩ = some (.slice yb mb db) := HL.out.cell 1
  have p2 : w3.cell? ⟨w.heap.size + 1 + 1, 2, none⟩ = some (.slice xc nc cc) := HL.out.cell 2
  have p3 : w3.cell? ⟨w.heap.size + 1 + 1, 3, none⟩ = some (.int .i64 f) := HL.out.cell 3
  have p4 : w3.cell? ⟨w.heap.size + 1 + 1, 4, none⟩ = some (.int .i64 s) := HL.out.cell 4
  have t0 := HL.out.frozen 0; have t1 := HL.out.frozen 1; have t2 := HL.out.frozen 2; have t3 := HL.out.frozen 3; have t4 := HL.out.frozen 4
  have r0 : w3.cell? ⟨w.heap.size + 1, 0, none⟩ = some (.slice none 0 0) := HR.out.cell 0
  have r1 : w3.cell? ⟨w.heap.size + 1, 1, none⟩ = some (.slice none 0 0) := HR.out.cell 1
  have r2 : w3.cell? ⟨w.heap.size + 1, 2, none⟩ = some (.slice none 0 0) := HR.out.cell 2
  have r3 : w3.cell? ⟨w.heap.size + 1, 3, none⟩ = some (.int .i64 0) := HR.out.cell 3
  have r4 : w3.cell? ⟨w.heap.size + 1, 4, none⟩ = some (.int .i64 0) := HR.out.cell 4
  have u0 := HR.out.frozen 0; have u1 := HR.out.frozen 1; have u2 := HR.out.frozen 2; have u3 := HR.out.frozen 3; have u4 := HR.out.frozen 4
  have Z1 := Lib.hid ((((((HR.out.other (a := ⟨w.heap.size + 1 + 1, 2, none⟩) (by show w.heap.size + 1 + 1 ≠ w.heap.size + 1; omega) (.slice yc mc dc_)).set 0 (.slice ya ma da)).set 1 (.slice yb mb db)).set 2 (.slice yc mc dc_)).set 3 (.int .i64 f)).set 4 (.int .i64 s))
  have Z2 := Lib.hid (own_set (g := w.heap.size + 1) (i := 4) (u := .int .i64 s) (own_set (g := w.heap.size + 1) (i := 3) (u := .int .i64 f) (own_set (g := w.heap.size + 1) (i := 2) (u := .slice yc mc dc_) (own_set (g := w.heap.size + 1) (i := 1) (u := .slice yb mb db) (own_set (g := w.heap.size + 1) (i := 0) (u := .slice ya ma da) (own_set (g := w.heap.size + 1 + 1) (i := 2) (u := .slice yc mc dc_) HO1.out (by omega)) (by omega)) (by omega)) (by omega)) (by omega)) (by omega))
  have Z3 := Lib.hid (sl_own_set (g := w.heap.size + 1) (i := 4) (u := .int .i64 s) (sl_own_set (g := w.heap.size + 1) (i := 3) (u := .int .i64 f) (sl_own_set (g := w.heap.size + 1) (i := 2) (u := .slice yc mc dc_) (sl_own_set (g := w.heap.size + 1) (i := 1) (u := .slice yb mb db) (sl_own_set (g := w.heap.size + 1) (i := 0) (u := .slice ya ma da) (sl_own_set (g := w.heap.size + 1 + 1) (i := 2) (u := .slice yc mc dc_) HO2.out (by omega)) (by omega)) (by omega)) (by omega)) (by omega)) (by omega))
  have Z4 := Lib.hid (own_set (g := w.heap.size + 1) (i := 4) (u := .int .i64 s) (own_set (g := w.heap.size + 1) (i := 3) (u := .int .i64 f) (own_set (g := w.heap.size + 1) (i := 2) (u := .slice yc mc dc_) (own_set (g := w.heap.size + 1) (i := 1) (u := .slice yb mb db) (own_set (g := w.heap.size + 1) (i := 0) (u := .slice ya ma da) (own_set (g := w.heap.size + 1 + 1) (i := 2) (u := .slice yc mc dc_) HO3.out (by omega)) (by omega)) (by omega)) (by omega)) (by omega)) (by omega))
  have Z5 := Lib.hid ((((((HB.out.setCell (p := ⟨w.heap.size + 1 + 1, 2, none⟩) (by show w.heap.size ≤ w.heap.size + 1 + 1; omega) (.slice yc mc dc_)).setCell (p := ⟨w.heap.size + 1, 0, none⟩) (by show w.heap.size ≤ w.heap.size + 1; omega) (.slice ya ma da)).setCell (p := ⟨w.heap.size + 1, 1, none⟩) (by show w.heap.size ≤ w.heap.size + 1; omega) (.slice yb mb db)).setCell (p := ⟨w.heap.size + 1, 2, none⟩) (by show w.heap.size ≤ w.heap.size + 1; omega) (.slice yc mc dc_)).setCell (p := ⟨w.heap.size + 1, 3, none⟩) (by show w.heap.size ≤ w.heap.size + 1; omega) (.int .i64 f)).setCell (p := ⟨w.heap.size + 1, 4, none⟩) (by show w.heap.size ≤ w.heap.size + 1; omega) (.int .i64 s))
  go_wp2_with fail
  refine bodyPost_ret (Ret.results_c rfl _ _ (w.heap.size + 1) (dc (.slice ya ma da) (.slice yb mb db) (.slice yc mc dc_) f s).toList rfl aggD Z1.out.cells) rfl ?_
  have hlb := fun g hg => (Sl.Own.lt Z3.out g hg).1
  have hlc := fun g hg => (Own.lt Z4.out g hg).1
  exact ⟨_, _, _, rfl, ⟨Z2.out.mono (by omega), Sl.Own.mono Z3.out (by omega), Z4.out.mono (by omega), fun g e1 e2 => by have h5 := HLA.out g e1; have h6 := hlb g e2; omega, fun g e1 e2 => by have h5 := HLA.out g e1; have h6 := hlc g e2; omega, fun g e1 e2 => by have h5 := HLB.out g e1; have h6 := hlc g e2; omega⟩, Z5.out⟩

def validD (x : Dt) : Bool := validN x.1 && decide (0 < x.1.length) && decide (x.2.1.length ≤ 60) && validN x.2.2.1 && decide (0 ≤ x.2.2.2.1 ∧ x.2.2.2.1 ≤ 100000) && decide (0 ≤ x.2.2.2.2 ∧ x.2.2.2.2 ≤ 2147483646)
theorem validD_iff {x : Dt} : validD x = true ↔ validN x.1 = true ∧ 0 < x.1.length ∧ x.2.1.length ≤ 60 ∧ validN x.2.2.1 = true ∧ (0 ≤ x.2.2.2.1 ∧ x.2.2.2.1 ≤ 100000) ∧ (0 ≤ x.2.2.2.2 ∧ x.2.2.2.2 ≤ 2147483646) := by
  unfold validD
  simp only [Bool.and_eq_true, decide_eq_true_eq, and_assoc]
theorem validD_no {x : Dt} (h : ¬ (validN x.1 = true ∧ 0 < x.1.length ∧ x.2.1.length ≤ 60 ∧ validN x.2.2.1 = true ∧ (0 ≤ x.2.2.2.1 ∧ x.2.2.2.1 ≤ 100000) ∧ (0 ≤ x.2.2.2.2 ∧ x.2.2.2.2 ≤ 2147483646))) : validD x = false := by
  cases e : validD x with
  | false => rfl
  | true => exact absurd (validD_iff.1 e) h

set_option maxHeartbeats 4000000 in
theorem specValidData (a b c : Value) (x : Dt) (w : World) (h : DHold w a b c x) (h1 : bulk x.1 ≤ 9000000) (h3 : bulk x.2.2.1 ≤ 9000000) :
    Calls Try.prog 58 #[.agg (dc a b c x.2.2.2.1 x.2.2.2.2)] w fun e w' => e = .returned (.bool (validD x)) ∧ Below w.heap.size w w' := by
  obtain ⟨l, m, k, f, s⟩ := x
  simp only at h1 h3 ⊢
  obtain ⟨xa, na, ca, xb, nb, cb, xc, nc, cc, rfl, rfl, rfl⟩ := h.shape
  have HA := Lib.hid (show na = l.length from Holds.lenEq h.1); have HM := Lib.hid (show nb = m.length from Sl.Holds.lenEq h.2.1)
  have HB := Lib.hid ((Below.refl w.heap.size w).alloc (Nat.le_refl _) (.cells (dc (.slice xa na ca) (.slice xb nb cb) (.slice xc nc cc) f s) 40))
  have H0 := Lib.hid h
  have HX := Lib.hid (Ret.Blk.new w (dc (.slice xa na ca) (.slice xb nb cb) (.slice xc nc cc) f s) 40)
  clear h
  obtain ⟨v1, hv1⟩ : ∃ z, validN l = z := ⟨_, rfl⟩
  obtain ⟨v2, hv2⟩ : ∃ z, validN k = z := ⟨_, rfl⟩
  have HV1 := Lib.hid hv1; have HV2 := Lib.hid hv2
  clear hv1 hv2
  go_enter Try.func58, Try.ntmps58
  go_wp2_with fail
  refine (specValidName _ l _ (H0.out.on HB.out).1 (by omega)).mono ?_
  rintro e w1 ⟨rfl, hb⟩
  rw [HV1.out]
  replace HX := Lib.hid (HX.out.on hb)
  replace HB := Lib.hid (HB.out.trans (hb.mono HB.out.size)); clear hb
  have q0 : w1.cell? ⟨w.heap.size, 0, none⟩ = some (.slice xa na ca) := HX.out.cell 0
  have q1 : w1.cell? ⟨w.heap.size, 1, none⟩ = some (.slice xb nb cb) := HX.out.cell 1
  have q2 : w1.cell? ⟨w.heap.size, 2, none⟩ = some (.slice xc nc cc) := HX.out.cell 2
  have q3 : w1.cell? ⟨w.heap.size, 3, none⟩ = some (.int .i64 f) := HX.out.cell 3
  have q4 : w1.cell? ⟨w.heap.size, 4, none⟩ = some (.int .i64 s) := HX.out.cell 4
  cases v1 with
  | false =>
    have HV := Lib.hid (validD_no (x := (l, m, k, f, s)) (fun e => by have h9 := e.1; rw [show validN l = false from HV1.out] at h9; cases h9))
    go_wp2_with fail
    go_ret
    exact ⟨ret_bool HV.out.symm, HB.out⟩
  | true =>
    by_cases hn : 0 < na
    · have t2 : decide ((0 : Int) < (na : Int)) = true := by simp; omega
      by_cases hm : nb ≤ 60
      · have t3 : decide ((nb : Int) ≤ 60) = true := by simp; omega
        go_wp2_with fail
        clear q0 q1 q2 q3 q4
        refine (specValidName _ k _ (H0.out.on HB.out).2.2 (by omega)).mono ?_
        rintro e w2 ⟨rfl, hb⟩
        rw [HV2.out]
        replace HX := Lib.hid (HX.out.on hb)
        replace HB := Lib.hid (HB.out.trans (hb.mono HB.out.size)); clear hb
        have q0 : w2.cell? ⟨w.heap.size, 0, none⟩ = some (.slice xa na ca) := HX.out.cell 0
        have q1 : w2.cell? ⟨w.heap.size, 1, none⟩ = some (.slice xb nb cb) := HX.out.cell 1
        have q2 : w2.cell? ⟨w.heap.size, 2, none⟩ = some (.slice xc nc cc) := HX.out.cell 2
        have q3 : w2.cell? ⟨w.heap.size, 3, none⟩ = some (.int .i64 f) := HX.out.cell 3
        have q4 : w2.cell? ⟨w.heap.size, 4, none⟩ = some (.int .i64 s) := HX.out.cell 4
        cases v2 with
        | false =>
          have HV := Lib.hid (validD_no (x := (l, m, k, f, s)) (fun e => by have h9 := e.2.2.2.1; rw [show validN k = false from HV2.out] at h9; cases h9))
          go_wp2_with fail
          go_ret
          exact ⟨ret_bool HV.out.symm, HB.out⟩
        | true =>
          by_cases hf : 0 ≤ f ∧ f ≤ 100000
          · have HI := Lib.hid (fun wx => Num.specIn_true hf.1 hf.2 wx)
            have H_hf := Lib.hid hf
            clear hf
            go_wp2_with fail
            refine (HI.out _).mono ?_
            rintro e w' ⟨rfl, rfl⟩
            clear HI
            by_cases hs : 0 ≤ s ∧ s ≤ 2147483646
            · have HI := Lib.hid (fun wx => Num.specIn_true hs.1 hs.2 wx)
              have H_hs := Lib.hid hs
              clear hs
              go_wp2_with fail
              refine (HI.out _).mono ?_
              rintro e w' ⟨rfl, rfl⟩
              clear HI
              have HV := Lib.hid ((validD_iff (x := (l, m, k, f, s))).2 (show validN l = true ∧ 0 < l.length ∧ m.length ≤ 60 ∧ validN k = true ∧ (0 ≤ f ∧ f ≤ 100000) ∧ (0 ≤ s ∧ s ≤ 2147483646) from ⟨HV1.out, by rw [← HA.out]; exact hn, by rw [← HM.out]; exact hm, HV2.out, H_hf.out, H_hs.out⟩))
              go_wp2_with fail
              go_ret
              exact ⟨ret_bool HV.out.symm, HB.out⟩
            · have HI := Lib.hid (fun wx => Num.specIn_false hs wx)
              have HV := Lib.hid (validD_no (x := (l, m, k, f, s)) (fun e => hs e.2.2.2.2.2))
              clear hs
              go_wp2_with fail
              refine (HI.out _).mono ?_
              rintro e w' ⟨rfl, rfl⟩
              go_wp2_with fail
              go_ret
              exact ⟨ret_bool HV.out.symm, HB.out⟩
          · have HI := Lib.hid (fun wx => Num.specIn_false hf wx)
            have HV := Lib.hid (validD_no (x := (l, m, k, f, s)) (fun e => hf e.2.2.2.2.1))
            clear hf
            go_wp2_with fail
            refine (HI.out _).mono ?_
            rintro e w' ⟨rfl, rfl⟩
            go_wp2_with fail
            go_ret
            exact ⟨ret_bool HV.out.symm, HB.out⟩
      · have t3 : decide ((nb : Int) ≤ 60) = false := by simp; omega
        have HV := Lib.hid (validD_no (x := (l, m, k, f, s)) (fun e => hm (by rw [HM.out]; exact e.2.2.1)))
        go_wp2_with fail
        go_ret
        exact ⟨ret_bool HV.out.symm, HB.out⟩
    · have t2 : decide ((0 : Int) < (na : Int)) = false := by simp; omega
      have HV := Lib.hid (validD_no (x := (l, m, k, f, s)) (fun e => hn (by rw [HA.out]; exact e.2.1)))
      go_wp2_with fail
      go_ret
      exact ⟨ret_bool HV.out.symm, HB.out⟩

end Go.Proofs.Ytnblopilgfdjkaa.Row
/- What chapter 3 computes, on lists of numbers: digest, MAC, the bytes of a slice as numbers, enciphered and deciphered bytes. No conditions. -/
namespace Go.Proofs.Ytnblopilgfdjkaa.Seal
open Sl (nth nth_eq)

def dstep (d x : Int) : Int := (d * 1000003 + x % 2147483647 + 13) % 2147483647
def digest (l : List Int) : Int := l.foldl dstep 11
def mac (s : Int) (l : List Int) : Int := digest ([s] ++ l ++ [s])
def b2i (l : List Int) : List Int := (l.length : Int) :: l
def derive (s : Int) (l : List Int) : Int := if mac s (b2i l) = 0 then 1 else mac s (b2i l)
def chg (f : Nat → Int → Int) (l : List Int) : List Int := l.mapIdx f
def encF (s : Int) (i : Nat) (x : Int) : Int := (x + mac s [(i : Int)]) % 256
def decF (s : Int) (i : Nat) (x : Int) : Int := (x - mac s [(i : Int)]) % 256
def enc (s : Int) (l : List Int) : List Int := chg (encF s) l
def dec (s : Int) (l : List Int) : List Int := chg (decF s) l

theorem digest_zero (l : List Int) : digest (l.take 0) = 11 := by simp [digest]
theorem digest_step {l : List Int} {k : Nat} (h : k < l.length) : digest (l.take (k + 1)) = dstep (digest (l.take k)) (nth l k) := by
  unfold digest
  rw [List.take_succ_eq_append_getElem h, List.foldl_append, nth_eq h]; rfl
theorem b2i_length (l : List Int) : (b2i l).length = l.length + 1 := rfl
theorem b2i_step {l : List Int} {k : Nat} (h : k < l.length) : (l.length : Int) :: l.take (k + 1) = ((l.length : Int) :: l.take k) ++ [nth l k] := by
  rw [List.take_succ_eq_append_getElem h, nth_eq h]; rfl
end Go.Proofs.Ytnblopilgfdjkaa.Seal
/- Contracts of the library's slices.Grow at the nil slice, slices.Concat and slices.Equal at slices of integers. No conditions but that lengths fit. -/
namespace Go.Proofs.Ytnblopilgfdjkaa.Sl
open Go.ChangeShapes Go.WideShapes Go.ChangeAt Go.RowKit Go.Instr
set_option linter.unusedVariables false
set_option maxRecDepth 100000

theorem own_one (k : IntKind) (e : TypeId) (w : World) (x : Int) : Own e k w.heap.size (w.alloc (.cells #[.int k x] e)) (.slice (some ⟨w.heap.size, 0, none⟩) 1 1) [x] :=
  World.ownsRow_lit w #[.int k x] 1 (Nat.le_refl _) (by unfold maxLen; omega) rfl

set_option maxHeartbeats 1000000 in
theorem growNil (n : Nat) (w : World) (hn : n ≤ 100000000) :
    Calls Try.prog 117 #[.slice none 0 0, .int .i64 n] w (GivesI w []) := by
  by_cases h0 : 0 < n
  · obtain ⟨i0, hi, hz0, hz1, hz2⟩ := info_parts elemINT
    have hrz : ∀ ty, (Builtin.append_ #[57, 3] ty #[.slice none 0 0, .int .i64 (n : Int)]).run Try.prog w =
        .ok (.slice (some ⟨w.heap.size, 0, none⟩) (0 + n) (grownCap w (0 + n) 0 3)) (w.drew.alloc (.cells (([] : List Value).toArray ++ Builtin.zeroCells (Value.int .i64 0).cells n ++ Builtin.zeroCells (Value.int .i64 0).cells (grownCap w (0 + n) 0 3 - (0 + n))) 3)) := fun ty => by
      have hfit := growslice_fits (need := 0 + n) (old := 0) (bytes := i0.bytes) (by omega) (by rw [hz2]; omega)
      exact Lib.run_append_grow_zeros w 57 3 ty 3 i0 (.int .i64 0) .i64 .i64 Try.underlying57 Try.underlying3 hi hz0 none 0 0 [] (by rw [hz1]; exact run_firstCells_none w.drew 1 0 0 0) n h0 (by rw [hz1]; decide) (by omega) (by omega) (by rw [hz2]; omega) hfit
    have hGn : 0 + n ≤ grownCap w (0 + n) 0 3 := grownCap_ge w _ _ _
    have hG63 := grownCap_le_maxLen w (0 + n) 0 3 (by unfold maxLen; omega)
    obtain ⟨G, hG⟩ : ∃ G, G = grownCap w (0 + n) 0 3 := ⟨_, rfl⟩
    rw [← hG] at hrz hGn hG63
    have hown : Own 3 .i64 w.heap.size ((w.alloc (.cells (Builtin.zeroCells #[.int .i64 0] n ++ Builtin.zeroCells #[.int .i64 0] (G - n)) 3)).drew) (.slice (some ⟨w.heap.size, 0, none⟩) 0 G) [] := by
      refine ⟨rfl, .inr ⟨w.heap.size, G, _, rfl, Nat.le_refl _, heap_alloc_new w _, Nat.zero_le _, hG63, ?_, by simp⟩⟩
      simp only [Array.size_append, size_zeroCells]
      simp; omega
    have HOWN := Lib.hid hown; have HR := Lib.hid hrz
    unfold maxLen at hG63
    clear hi hz0 hz1 hz2 hG hown hrz
    go_enter Try.func117, Try.ntmps117
    go_wp2_with (at_builtin; refine Lib.wpList_append_run _ rfl _ _ _ _ rfl _ _ rfl rfl _ _ (HR.out _) ?_)
    all_goals (go_ret; exact ⟨.slice (some ⟨w.heap.size, 0, none⟩) 0 G, rfl, HOWN.out, ((Below.refl _ _).alloc (Nat.le_refl _) _).drew⟩)
  · obtain rfl : n = 0 := by omega
    go_enter Try.func117, Try.ntmps117
    go_wp2_with fail
    go_ret
    exact ⟨_, rfl, Own.nil _ _ _ _, Below.refl _ _⟩

/-- The first k lists, one behind the other. -/
def cat (ls : Nat → List Int) : Nat → List Int
  | 0 => []
  | k + 1 => cat ls k ++ ls k
theorem cat_mono (ls : Nat → List Int) {k n : Nat} (h : k ≤ n) : (cat ls k).length ≤ (cat ls n).length := by
  induction n with
  | zero => obtain rfl : k = 0 := by omega
            exact Nat.le_refl _
  | succ n ih =>
    by_cases e : k = n + 1
    · subst e; exact Nat.le_refl _
    · have := ih (by omega)
      simp only [cat, List.length_append]; omega

set_option maxHeartbeats 2000000 in
theorem concat (b : Nat) (vs : Nat → Value) (ls : Nat → List Int) (n : Nat) (w : World) (hn : n ≤ 1000) (hc : ∀ j, j < n → w.cell? ⟨b, j, none⟩ = some (vs j)) (hh : ∀ j, j < n → Holds .i64 w (vs j) (ls j)) (hlen : (cat ls n).length ≤ 10000000) :
    Calls Try.prog 111 #[.slice (some ⟨b, 0, none⟩) n n] w (GivesI w (cat ls n)) := by
  have HC := Lib.hid hc; have HH := Lib.hid hh
  clear hc hh
  go_enter Try.func111, Try.ntmps111
  go_wp2_with fail
  go_loop [3, 11] (fun sv iv => ∃ k : Nat, k ≤ n ∧ iv = .int .i64 k ∧ sv = .int .i64 ((cat ls k).length : Nat)) (fun _ iv => n - (intOf iv).toNat)
  case atStart => exact ⟨0, Nat.zero_le _, rfl, rfl⟩
  case round =>
    obtain ⟨k, hk, rfl, rfl⟩ := hrel
    by_cases hlt : k < n
    · have hcell := HC.out k hlt
      obtain ⟨x, cap, hv, hcap, -⟩ := (HH.out k hlt).shape
      rw [hv] at hcell
      have hm := cat_mono ls (k := k + 1) (n := n) (by omega)
      have HS := Lib.hid (show (cat ls (k + 1)).length = (cat ls k).length + (ls k).length by simp [cat])
      have hm2 : (cat ls k).length + (ls k).length ≤ 10000000 := by rw [← HS.out]; omega
      obtain ⟨c, hcc⟩ : ∃ c, c = (cat ls k).length := ⟨_, rfl⟩
      obtain ⟨d, hdd⟩ : ∃ d, d = (ls k).length := ⟨_, rfl⟩
      rw [← hcc, ← hdd] at HS hm2
      rw [← hcc]
      rw [← hdd] at hcell hcap
      clear hv hm hcc hdd
      go_wp2_with fail
      go_round
      case rel => exact ⟨k + 1, by omega, by go_num, by rw [HS.out]; go_num⟩
      case measure => simp [intOf]; omega
    · obtain rfl : k = n := by omega
      clear hlt
      have HG := Lib.hid (growNil (cat ls k).length w (by omega))
      obtain ⟨c, hcc⟩ : ∃ c, c = (cat ls k).length := ⟨_, rfl⟩
      have HL := Lib.hid hlen
      rw [← hcc] at HG ⊢
      clear hcc hlen
      go_wp2_with fail
      refine HG.out.mono ?_
      rintro e w1 ⟨v1, rfl, ho, hb⟩
      have HO := Lib.hid ho; have HB := Lib.hid hb
      clear ho hb
      go_wp2_with fail
      go_loopw [6, 27] (fun rv iv wr => ∃ j : Nat, j ≤ k ∧ iv = .int .i64 j ∧ Hid (Own 3 .i64 w.heap.size wr rv (cat ls j)) ∧ Hid (Below w.heap.size w wr)) (fun _ iv _ => k - (intOf iv).toNat)
      case atStart => exact ⟨0, Nat.zero_le _, rfl, HO, HB⟩
      case round =>
        obtain ⟨j, hj, rfl, hr, hbr⟩ := hrel
        by_cases hlt : j < k
        · have hcell := hbr.out.cell (cell_lt (HC.out j hlt))
          rw [HC.out j hlt] at hcell
          have HHJ := (HH.out j hlt).on hbr.out
          have hmono := cat_mono ls (k := j + 1) (n := k) (by omega)
          have hsum : (cat ls j).length + (ls j).length ≤ 10000000 := by
            have := HL.out
            simp only [cat, List.length_append] at hmono; omega
          obtain ⟨x, cap, hv, hcap, hh⟩ := HHJ.shape
          rw [hv] at hcell
          have HHH := Lib.hid hh
          clear hv hmono HHJ hh
          go_wp2_with (at_builtin; refine wpList_app (k := .i64) (B := w.heap.size) (l := cat ls j) (m := ls j) rfl _ _ rfl Try.underlying57 elemINT rfl rfl rfl hr.out HHH.out ?_ (by decide) hbr.out.size ?_)
          · omega
          intro v2 w2 ho hg
          have HO2 := Lib.hid ho; have HB2 := Lib.hid (hbr.out.grown hg hbr.out.size (fun g hh => (hr.out.lt g hh).1))
          clear ho hg
          go_wp2_with fail
          go_roundw
          case rel => exact ⟨j + 1, by omega, by go_num, HO2, HB2⟩
          case measure => simp [intOf]; omega
        · obtain rfl : j = k := by omega
          clear hlt
          go_wp2_with fail
          go_ret
          exact ⟨_, rfl, hr.out, hbr.out⟩

end Go.Proofs.Ytnblopilgfdjkaa.Sl
/- Contracts of the laws' own comparisons of slices of numbers: whether they hold equal lists. Nothing in memory turns but the count of draws. No conditions but that lengths fit. -/
namespace Go.Proofs.Ytnblopilgfdjkaa.Sl
open Go.ChangeShapes Go.WideShapes Go.ChangeAt Go.RowKit Go.Instr
set_option linter.unusedVariables false
set_option maxRecDepth 100000

theorem Holds.upto {k : IntKind} {w : World} {x : Option Addr} {n cap : Nat} {l : List Int} (h : Holds k w (.slice x n cap) l) {j : Nat} (hj : j ≤ n) : Holds k w (.slice x j cap) (l.take j) := by
  obtain ⟨x', cap', hv, hc, hh⟩ := h
  cases hv
  have hl : (l.take j).length = j := by simp; omega
  refine ⟨x, cap, by rw [hl], by omega, ?_⟩
  rcases hh with rfl | ⟨b, off, hx, hh⟩
  · left; simp
  · right
    refine ⟨b, off, hx, fun i hi => ?_⟩
    rw [hl] at hi
    rw [hh i (by omega)]
    simp only [nth, List.getD, List.getElem?_take, if_pos hi]
end Go.Proofs.Ytnblopilgfdjkaa.Sl
/- Contracts of chapter 3's digests and MACs, the reference model's and the program's: Digest, ComputeMAC, ValidSecret, BytesToInts, DeriveSecret, EqualInts. What was in memory stays as it was. No conditions but that lengths fit. -/
namespace Go.Proofs.Ytnblopilgfdjkaa.Sl
open Go.ChangeShapes Go.WideShapes Go.ChangeAt Go.RowKit Go.Instr
open Seal (digest mac b2i derive dstep)
set_option linter.unusedVariables false
set_option maxRecDepth 100000

theorem implModP (n : Int) (w : World) : Calls Try.prog 116 #[.int .i64 n, .int .i64 2147483647] w fun e w' => (∃ r : Int, e = .returned (.int .i64 r) ∧ r = n % 2147483647 ∧ 0 ≤ r ∧ r < 2147483647) ∧ w = w' := by
  refine (Num.implMod n 2147483647 w).mono ?_
  rintro e w' ⟨rfl, rfl⟩
  exact ⟨⟨_, rfl, by simp [Num.modI], Num.modI_nonneg _ (by decide), Num.modI_lt _ (by decide)⟩, rfl⟩
theorem specModP (n : Int) (w : World) : Calls Try.prog 107 #[.int .i64 n, .int .i64 2147483647] w fun e w' => (∃ r : Int, e = .returned (.int .i64 r) ∧ r = n % 2147483647 ∧ 0 ≤ r ∧ r < 2147483647) ∧ w = w' := by
  refine (Num.specMod n 2147483647 w).mono ?_
  rintro e w' ⟨rfl, rfl⟩
  exact ⟨⟨_, rfl, by simp [Num.modI], Num.modI_nonneg _ (by decide), Num.modI_lt _ (by decide)⟩, rfl⟩

set_option maxHeartbeats 1000000 in
theorem implDigest (v : Value) (l : List Int) (w : World) (h : Holds .i64 w v l) (hl : l.length ≤ 100000000) :
    Calls Try.prog 110 #[v] w fun e w' => e = .returned (.int .i64 (digest l)) ∧ w = w' := by
  obtain ⟨x, cap, rfl, hcap, hh⟩ := h.shape
  obtain ⟨n, hn⟩ : ∃ n, n = l.length := ⟨_, rfl⟩
  rw [← hn] at hcap hh hl ⊢
  have HN := Lib.hid hn; have HH := Lib.hid hh
  clear hn h hh
  go_enter Try.func110, Try.ntmps110
  go_wp2_with fail
  go_loop [3, 8] (fun dv iv => ∃ (k : Nat) (d : Int), k ≤ n ∧ iv = .int .i64 k ∧ dv = .int .i64 d ∧ 0 ≤ d ∧ d < 2147483647 ∧ Hid (d = digest (l.take k))) (fun _ iv => n - (intOf iv).toNat)
  case atStart => exact ⟨0, 11, Nat.zero_le _, rfl, rfl, by decide, by decide, Lib.hid (Seal.digest_zero l).symm⟩
  case round =>
    obtain ⟨k, d, hk, rfl, rfl, d0, d1, hd⟩ := hrel
    by_cases hlt : k < n
    · have hlen := HN.out
      obtain ⟨b, off, rfl, hc⟩ := HH.out.at (j := k) (by omega)
      have HS := Lib.hid (Seal.digest_step (l := l) (k := k) (by omega))
      clear hlen
      go_wp2_with fail
      refine (implModP _ _).mono ?_
      rintro e w' ⟨⟨r, rfl, hr, r0, r1⟩, rfl⟩
      have HR := Lib.hid hr; clear hr
      go_wp2_with fail
      refine (implModP _ _).mono ?_
      rintro e w' ⟨⟨q, rfl, hq, q0, q1⟩, rfl⟩
      have HQ := Lib.hid hq; clear hq
      go_wp2_with fail
      go_round
      case rel => exact ⟨k + 1, q, by omega, by go_num, rfl, q0, q1, Lib.hid (by rw [HS.out, ← hd.out, HQ.out, HR.out]; rfl)⟩
      case measure => simp [intOf]; omega
    · obtain rfl : k = n := by omega
      have HD := Lib.hid (show d = digest l by rw [hd.out, HN.out, List.take_length])
      clear hlt
      go_wp2
      go_ret
      exact ⟨ret_int HD.out, rfl⟩

set_option maxHeartbeats 1000000 in
theorem specDigest (v : Value) (l : List Int) (w : World) (h : Holds .i64 w v l) (hl : l.length ≤ 100000000) :
    Calls Try.prog 96 #[v] w fun e w' => e = .returned (.int .i64 (digest l)) ∧ w = w' := by
  obtain ⟨x, cap, rfl, hcap, hh⟩ := h.shape
  obtain ⟨n, hn⟩ : ∃ n, n = l.length := ⟨_, rfl⟩
  rw [← hn] at hcap hh hl ⊢
  have HN := Lib.hid hn; have HH := Lib.hid hh
  clear hn h hh
  go_enter Try.func96, Try.ntmps96
  go_wp2_with fail
  go_loop [3, 4] (fun dv iv => ∃ (k : Nat) (d : Int), k ≤ n ∧ iv = .int .i64 k ∧ dv = .int .i64 d ∧ 0 ≤ d ∧ d < 2147483647 ∧ Hid (d = digest (l.take k))) (fun _ iv => n - (intOf iv).toNat)
  case atStart => exact ⟨0, 11, Nat.zero_le _, rfl, rfl, by decide, by decide, Lib.hid (Seal.digest_zero l).symm⟩
  case round =>
    obtain ⟨k, d, hk, rfl, rfl, d0, d1, hd⟩ := hrel
    by_cases hlt : k < n
    · have hlen := HN.out
      obtain ⟨b, off, rfl, hc⟩ := HH.out.at (j := k) (by omega)
      have HS := Lib.hid (Seal.digest_step (l := l) (k := k) (by omega))
      clear hlen
      go_wp2_with fail
      refine (specModP _ _).mono ?_
      rintro e w' ⟨⟨r, rfl, hr, r0, r1⟩, rfl⟩
      have HR := Lib.hid hr; clear hr
      obtain ⟨q, hq⟩ : ∃ q, q = (d * 1000003 + r + 13) % 2147483647 := ⟨_, rfl⟩
      have HQ := Lib.hid hq; clear hq
      go_wp2_with fail
      go_round
      case rel => exact ⟨k + 1, q, by omega, by go_num, by rw [HQ.out], by have := HQ.out; omega, by have := HQ.out; omega, Lib.hid (by rw [HS.out, ← hd.out, HQ.out, HR.out]; rfl)⟩
      case measure => simp [intOf]; omega
    · obtain rfl : k = n := by omega
      have HD := Lib.hid (show d = digest l by rw [hd.out, HN.out, List.take_length])
      clear hlt
      go_wp2
      go_ret
      exact ⟨ret_int HD.out, rfl⟩

def GivesN (w : World) (n : Int) (e : Ending) (w' : World) : Prop := e = .returned (.int .i64 n) ∧ Below w.heap.size w w'

set_option maxHeartbeats 1000000 in
theorem specComputeMAC (s : Int) (v : Value) (l : List Int) (w : World) (h : Holds .i64 w v l) (hl : l.length ≤ 10000000) :
    Calls Try.prog 82 #[.int .i64 s, v] w (GivesN w (mac s l)) := by
  obtain ⟨x, cap, rfl, hcap, hh⟩ := h.shape
  have HH := Lib.hid hh
  have O0 := Lib.hid (own_one .i64 3 w s)
  have HB0 := Lib.hid ((Below.refl w.heap.size w).alloc (Nat.le_refl _) (.cells #[.int .i64 s] 3))
  clear h hh
  go_enter Try.func82, Try.ntmps82
  go_wp2_with (at_builtin; refine wpList_app (k := .i64) (B := w.heap.size) (l := [s]) (m := l) rfl _ _ rfl Try.underlying57 elemINT rfl rfl rfl O0.out (HH.out.on HB0.out) ?_ (by decide) HB0.out.size ?_)
  · simp; omega
  intro v1 w1 ho hg
  have HO1 := Lib.hid ho; have HB1 := Lib.hid (HB0.out.grown hg HB0.out.size (fun g hh => (O0.out.lt g hh).1))
  clear ho hg
  have HO1' := Lib.hid (HO1.out.on ((Below.refl w1.heap.size w1).alloc (Nat.le_refl _) (.cells #[.int .i64 s] 3)))
  have HB1' := Lib.hid (HB1.out.alloc HB1.out.size (.cells #[.int .i64 s] 3))
  go_wp2_with (at_builtin; refine wpList_app (k := .i64) (B := w.heap.size) (l := [s] ++ l) (m := [s]) rfl _ _ rfl Try.underlying57 elemINT rfl rfl rfl HO1'.out (holds_one .i64 _ _ _) ?_ (by decide) HB1'.out.size ?_)
  · simp; omega
  intro v2 w2 ho hg
  have HO2 := Lib.hid ho; have HB2 := Lib.hid (HB1'.out.grown hg HB1'.out.size (fun g hh => (HO1'.out.lt g hh).1))
  clear ho hg
  go_wp2_with fail
  refine (specDigest _ ([s] ++ l ++ [s]) _ HO2.out.holds (by simp; omega)).mono ?_
  rintro e w3 ⟨rfl, rfl⟩
  go_wp2_with fail
  go_ret
  exact ⟨rfl, HB2.out⟩

set_option maxHeartbeats 1000000 in
theorem implComputeMAC (s : Int) (v : Value) (l : List Int) (w : World) (h : Holds .i64 w v l) (hl : l.length ≤ 9000000) :
    Calls Try.prog 100 #[.int .i64 s, v] w (GivesN w (mac s l)) := by
  obtain ⟨x, cap, rfl, hcap, hh⟩ := h.shape
  obtain ⟨n, hn⟩ : ∃ n, n = l.length := ⟨_, rfl⟩
  rw [← hn] at h hh hcap ⊢
  obtain ⟨wz, hwz⟩ : ∃ wz, wz = ((w.alloc (.cells #[.int .i64 s] 3)).alloc (.cells #[.int .i64 s] 3)).alloc (.cells #[.slice (some ⟨w.heap.size, 0, none⟩) 1 1, .slice x n cap, .slice (some ⟨w.heap.size + 1, 0, none⟩) 1 1] 57) := ⟨_, rfl⟩
  have hb0 := (Below.refl w.heap.size w).alloc (Nat.le_refl _) (.cells #[.int .i64 s] 3)
  have hb1 := hb0.alloc hb0.size (.cells #[.int .i64 s] 3)
  have hbz := hb1.alloc hb1.size (.cells #[.slice (some ⟨w.heap.size, 0, none⟩) 1 1, .slice x n cap, .slice (some ⟨w.heap.size + 1, 0, none⟩) 1 1] 57)
  rw [← hwz] at hbz
  have c0 : ∀ j, j < 3 → wz.cell? ⟨w.heap.size + 2, j, none⟩ = some (if j = 0 then .slice (some ⟨w.heap.size, 0, none⟩) 1 1 else if j = 1 then .slice x n cap else .slice (some ⟨w.heap.size + 1, 0, none⟩) 1 1) := by
    intro j hj
    obtain rfl | rfl | rfl : j = 0 ∨ j = 1 ∨ j = 2 := by omega
    all_goals (rw [hwz]; go_simp)
  have h0 : ∀ j, j < 3 → Holds .i64 wz (if j = 0 then .slice (some ⟨w.heap.size, 0, none⟩) 1 1 else if j = 1 then .slice x n cap else .slice (some ⟨w.heap.size + 1, 0, none⟩) 1 1) (if j = 0 then [s] else if j = 1 then l else [s]) := by
    intro j hj
    obtain rfl | rfl | rfl : j = 0 ∨ j = 1 ∨ j = 2 := by omega
    · refine ⟨_, 1, rfl, by simp, Or.inr ⟨_, _, rfl, fun i hi => ?_⟩⟩
      obtain rfl : i = 0 := by simpa using hi
      rw [hwz]; go_simp; rfl
    · exact h.on hbz
    · refine ⟨_, 1, rfl, by simp, Or.inr ⟨_, _, rfl, fun i hi => ?_⟩⟩
      obtain rfl : i = 0 := by simpa using hi
      rw [hwz]; go_simp; rfl
  have hcat : cat (fun j => if j = 0 then [s] else if j = 1 then l else [s]) 3 = [s] ++ l ++ [s] := by simp [cat]
  have HC := Lib.hid (concat (w.heap.size + 2) _ (fun j => if j = 0 then [s] else if j = 1 then l else [s]) 3 wz (by decide) c0 h0 (by rw [hcat]; simp; omega))
  rw [hcat] at HC
  have HBZ := Lib.hid hbz
  rw [hwz] at HC HBZ
  have HN := Lib.hid hn
  clear hn hwz hb0 hb1 hbz c0 h0 hcat h hh
  go_enter Try.func100, Try.ntmps100
  go_wp2_with fail
  refine HC.out.mono ?_
  rintro e w1 ⟨v1, rfl, ho, hb⟩
  have HO := Lib.hid ho; have HB := Lib.hid (HBZ.out.trans (hb.mono HBZ.out.size))
  clear ho hb
  go_wp2_with fail
  refine (implDigest _ ([s] ++ l ++ [s]) _ HO.out.holds (by simp; omega)).mono ?_
  rintro e w3 ⟨rfl, rfl⟩
  go_wp2_with fail
  go_ret
  exact ⟨rfl, HB.out⟩

theorem implValidSecret (s : Int) (w : World) :
    Calls Try.prog 79 #[.int .i64 s] w fun e w' => e = .returned (.bool (Num.inB s 1 2147483646)) ∧ w = w' := by
  go_enter Try.func79, Try.ntmps79
  go_wp2_with fail
  refine (Num.implInRange _ _ _ _).mono ?_
  rintro e w' ⟨rfl, rfl⟩
  go_wp2_with fail
  go_ret
  exact ⟨rfl, rfl⟩
theorem specValidSecret (s : Int) (w : World) :
    Calls Try.prog 49 #[.int .i64 s] w fun e w' => e = .returned (.bool (Num.inB s 1 2147483646)) ∧ w = w' := by
  go_enter Try.func49, Try.ntmps49
  go_wp2_with fail
  refine (Num.specIn _ _ _ _).mono ?_
  rintro e w' ⟨rfl, rfl⟩
  go_wp2_with fail
  go_ret
  exact ⟨rfl, rfl⟩

end Go.Proofs.Ytnblopilgfdjkaa.Sl
/- Contracts of chapter 3's BytesToInts, DeriveSecret, Encrypt and Decrypt, the reference model's and the program's: what they give lies in memory of the call's own; what was in memory stays as it was. No conditions but that lengths fit and that the elements are bytes. -/
namespace Go.Proofs.Ytnblopilgfdjkaa.Sl
open Go.ChangeShapes Go.WideShapes Go.ChangeAt Go.RowKit Go.Instr
open Seal (digest mac b2i derive dstep chg encF decF enc dec)
set_option linter.unusedVariables false
set_option maxRecDepth 100000

set_option maxHeartbeats 1000000 in
theorem specBytesToInts (v : Value) (l : List Int) (w : World) (h : Holds .u8 w v l) (hB : Byt l) (hl : l.length ≤ 8000000) :
    Calls Try.prog 97 #[v] w (GivesI w (b2i l)) := by
  obtain ⟨x, cap, rfl, hcap, hh⟩ := h.shape
  obtain ⟨n, hn⟩ : ∃ n, n = l.length := ⟨_, rfl⟩
  rw [← hn] at hcap hh hl ⊢
  have HN := Lib.hid hn; have HH := Lib.hid hh; have HBY := Lib.hid hB
  have H0 := Lib.hid (own_one .i64 3 w n)
  have B0 := Lib.hid ((Below.refl w.heap.size w).alloc (Nat.le_refl _) (.cells #[.int .i64 n] 3))
  clear hn h hh hB
  go_enter Try.func97, Try.ntmps97
  go_wp2_with fail
  go_loopw [3, 4] (fun rv iv wr => ∃ k : Nat, k ≤ n ∧ iv = .int .i64 k ∧ Hid (Own 3 .i64 w.heap.size wr rv ((n : Int) :: l.take k)) ∧ Hid (Below w.heap.size w wr)) (fun _ iv _ => n - (intOf iv).toNat)
  case atStart => exact ⟨0, Nat.zero_le _, rfl, H0, B0⟩
  case round =>
    obtain ⟨k, hk, rfl, ho, hb⟩ := hrel
    by_cases hlt : k < n
    · have hlen := HN.out
      obtain ⟨b, off, rfl, hc⟩ := (HH.out.on hb.out).at (j := k) (by omega)
      obtain ⟨y0, y1⟩ := HBY.out.at (j := k) (by omega)
      have HS := Lib.hid (Seal.b2i_step (l := l) (k := k) (by omega))
      rw [← hlen] at HS
      clear hlen
      go_wp2_with (at_builtin; refine wpList_app (k := .i64) (B := w.heap.size) (l := (n : Int) :: l.take k) (m := [nth l k]) rfl _ _ rfl Try.underlying57 elemINT rfl rfl rfl (ho.out.on ((Below.refl _ _).alloc (Nat.le_refl _) _)) (holds_one .i64 _ _ _) ?_ (by decide) ?_ ?_)
      · rw [List.length_cons, List.length_take, List.length_singleton]; omega
      · have := hb.out.size; simp; omega
      intro v2 w2 ho2 hg
      have HO2 := Lib.hid ho2; have HB2 := Lib.hid ((hb.out.alloc hb.out.size _).grown hg (by have := hb.out.size; simp; omega) (fun g hh => (ho.out.lt g hh).1))
      clear ho2 hg
      go_wp2_with fail
      go_roundw
      case rel => exact ⟨k + 1, by omega, by go_num, by rw [HS.out]; exact HO2, HB2⟩
      case measure => simp [intOf]; omega
    · obtain rfl : k = n := by omega
      clear hlt
      go_wp2_with fail
      go_ret
      refine ⟨_, rfl, ?_, hb.out⟩
      have := ho.out
      rw [HN.out, List.take_length] at this
      exact this

set_option maxHeartbeats 1000000 in
theorem implBytesToInts (v : Value) (l : List Int) (w : World) (h : Holds .u8 w v l) (hB : Byt l) (hl : l.length ≤ 8000000) :
    Calls Try.prog 112 #[v] w (GivesI w (b2i l)) := by
  obtain ⟨x, cap, rfl, hcap, hh⟩ := h.shape
  obtain ⟨i0, hi, hz0, hz1, hz2⟩ := info_parts elemINT
  obtain ⟨n, hn⟩ : ∃ n, n = l.length := ⟨_, rfl⟩
  rw [← hn] at hcap hh hl ⊢
  have HN := Lib.hid hn; have HH := Lib.hid hh; have HBY := Lib.hid hB
  have HI := Lib.hid hi; have HZ0 := Lib.hid hz0; have HZ1 := Lib.hid hz1; have HZ2 := Lib.hid hz2
  clear hn h hh hB hi hz0 hz1 hz2
  go_enter Try.func112, Try.ntmps112
  go_wp2_with (at_make; refine wpList_make_own _ rfl _ _ 57 rfl w.heap.size 3 i0 (.int .i64 0) 1 Try.underlying57 HI.out HZ0.out HZ1.out _ _ _ (n + 1) rfl rfl ?_ (by rw [HZ2.out]; omega) (by unfold maxLen; omega) (Nat.le_refl _) ?_)
  · rfl
  intro w1 hown hgrow
  have HO1 := Lib.hid (show Own 3 .i64 w.heap.size w1 (.slice (some ⟨w.heap.size, 0, none⟩) 0 (n + 1)) [] from hown)
  have HB1 := Lib.hid ((Below.refl w.heap.size w).grown hgrow (Nat.le_refl _) (fun k hk => by cases hk))
  clear hown hgrow
  go_wp2_with (at_builtin; refine wpList_app (k := .i64) (B := w.heap.size) (l := []) (m := [(n : Int)]) rfl _ _ rfl Try.underlying57 elemINT rfl rfl rfl (HO1.out.on ((Below.refl _ _).alloc (Nat.le_refl _) _)) (holds_one .i64 _ _ _) ?_ (by decide) ?_ ?_)
  · simp
  · have := HB1.out.size; simp; omega
  intro v2 w2 ho2 hg
  have HO2 := Lib.hid ho2; have HB2 := Lib.hid ((HB1.out.alloc HB1.out.size _).grown hg (by have := HB1.out.size; simp; omega) (fun g hh => (HO1.out.lt g hh).1))
  clear ho2 hg
  go_wp2_with fail
  go_loopw [3, 17] (fun rv iv wr => ∃ k : Nat, k ≤ n ∧ iv = .int .i64 k ∧ Hid (Own 3 .i64 w.heap.size wr rv ((n : Int) :: l.take k)) ∧ Hid (Below w.heap.size w wr)) (fun _ iv _ => n - (intOf iv).toNat)
  case atStart => exact ⟨0, Nat.zero_le _, rfl, HO2, HB2⟩
  case round =>
    obtain ⟨k, hk, rfl, ho, hb⟩ := hrel
    by_cases hlt : k < n
    · have hlen := HN.out
      obtain ⟨b, off, rfl, hc⟩ := (HH.out.on hb.out).at (j := k) (by omega)
      obtain ⟨y0, y1⟩ := HBY.out.at (j := k) (by omega)
      have HS := Lib.hid (Seal.b2i_step (l := l) (k := k) (by omega))
      rw [← hlen] at HS
      clear hlen
      go_wp2_with (at_builtin; refine wpList_app (k := .i64) (B := w.heap.size) (l := (n : Int) :: l.take k) (m := [nth l k]) rfl _ _ rfl Try.underlying57 elemINT rfl rfl rfl (ho.out.on ((Below.refl _ _).alloc (Nat.le_refl _) _)) (holds_one .i64 _ _ _) ?_ (by decide) ?_ ?_)
      · rw [List.length_cons, List.length_take, List.length_singleton]; omega
      · have := hb.out.size; simp; omega
      intro v2 w2 ho2 hg
      have HO2 := Lib.hid ho2; have HB2 := Lib.hid ((hb.out.alloc hb.out.size _).grown hg (by have := hb.out.size; simp; omega) (fun g hh => (ho.out.lt g hh).1))
      clear ho2 hg
      go_wp2_with fail
      go_roundw
      case rel => exact ⟨k + 1, by omega, by go_num, by rw [HS.out]; exact HO2, HB2⟩
      case measure => simp [intOf]; omega
    · obtain rfl : k = n := by omega
      clear hlt
      go_wp2_with fail
      go_ret
      refine ⟨_, rfl, ?_, hb.out⟩
      have := ho.out
      rw [HN.out, List.take_length] at this
      exact this

/-- A MAC over one number. -/
def GivesM (w : World) (s i : Int) (e : Ending) (w' : World) : Prop := ∃ m : Int, e = .returned (.int .i64 m) ∧ m = mac s [i] ∧ 0 ≤ m ∧ m < 2147483647 ∧ Below w.heap.size w w'
def GivesU (w : World) (n : Int) (e : Ending) (w' : World) : Prop := ∃ m : Int, e = .returned (.int .u8 m) ∧ m = n ∧ 0 ≤ m ∧ m ≤ 255 ∧ Below w.heap.size w w'

end Go.Proofs.Ytnblopilgfdjkaa.Sl
