/- Contracts of the helpers by which the laws measure, copy, compare, mark and look at slices of bindings (two strings each). No conditions but that lengths fit. -/
import Derived.Test.YtoibmgnmnmeklaaMany
import Derived.Test.YtoibmgnmnmeklaaName
namespace Go.Proofs.Ytoibmgnmnmeklaa.Row
open Go.ChangeShapes Go.WideShapes Go.ChangeAt Go.RowKit Go.Instr
set_option linter.unusedVariables false
set_option maxRecDepth 100000

/-- A binding: its letter and its value. -/
def encBd (x : ByteArray × ByteArray) : List Value := [.string x.1, .string x.2]
theorem szBd : Sz encBd 2 := fun _ => rfl
theorem kindBd : Kind Try.prog 80 encBd (.agg #[.string ByteArray.empty, .string ByteArray.empty]) 2 32 where
  elem := by unfold ElemK; kernel_rfl
  zs := rfl
  pos := by decide
  size := szBd
  one := by intro x u hu; simp [encBd] at hu; rcases hu with rfl | rfl <;> rfl
theorem bdAt {w : World} {x : Option Addr} {n cap : Nat} {l : List (ByteArray × ByteArray)} (h : HoldsK encBd 2 w (.slice x n cap) l) {k : Nat} (hk : k < l.length) :
    ∃ b off, x = some ⟨b, off, none⟩ ∧ w.cell? ⟨b, off + k * 2, none⟩ = some (.string (nth l k).1) ∧ w.cell? ⟨b, off + k * 2 + 1, none⟩ = some (.string (nth l k).2) := by
  obtain ⟨b, off, hx, hc⟩ := h.at szBd hk
  exact ⟨b, off, hx, by have := hc 0 (by decide); simpa [encBd] using this, by have := hc 1 (by decide); simpa [encBd, Nat.add_assoc] using this⟩

theorem bdCell {e : TypeId} {B : Nat} {w : World} {g n cap : Nat} {l : List (ByteArray × ByteArray)} (h : OwnK e encBd 2 B w (.slice (some ⟨g, 0, none⟩) n cap) l) (hn : n = l.length) {k : Nat} (hk : k < l.length) :
    (w.cell? ⟨g, k * 2, none⟩ = some (.string (nth l k).1) ∧ w.frozen? ⟨g, k * 2, none⟩ = false) ∧ (w.cell? ⟨g, k * 2 + 1, none⟩ = some (.string (nth l k).2) ∧ w.frozen? ⟨g, k * 2 + 1, none⟩ = false) :=
  ⟨by simpa [encBd] using ownK_cell szBd h hn hk (i := 0) (by decide), by simpa [encBd] using ownK_cell szBd h hn hk (i := 1) (by decide)⟩
theorem nth_set {α : Type} [Inhabited α] {l : List α} {k : Nat} (h : k < l.length) (x : α) : nth (l.set k x) k = x := by simp [nth, List.getD, h]
theorem bdStore0 {e : TypeId} {B : Nat} {w : World} {g n cap : Nat} {l : List (ByteArray × ByteArray)} (h : OwnK e encBd 2 B w (.slice (some ⟨g, 0, none⟩) n cap) l) (hn : n = l.length) {k : Nat} (hk : k < l.length) (a : ByteArray) :
    OwnK e encBd 2 B (w.setCell ⟨g, k * 2, none⟩ (.string a)) (.slice (some ⟨g, 0, none⟩) n cap) (l.set k (a, (nth l k).2)) ∧ w.grownBy (w.setCell ⟨g, k * 2, none⟩ (.string a)) (some g) := by
  simpa using ownK_store szBd h hn hk (i := 0) (by decide) (y := (a, (nth l k).2)) (u := .string a) rfl
theorem bdStore1 {e : TypeId} {B : Nat} {w : World} {g n cap : Nat} {l : List (ByteArray × ByteArray)} (h : OwnK e encBd 2 B w (.slice (some ⟨g, 0, none⟩) n cap) l) (hn : n = l.length) {k : Nat} (hk : k < l.length) (b : ByteArray) :
    OwnK e encBd 2 B (w.setCell ⟨g, k * 2 + 1, none⟩ (.string b)) (.slice (some ⟨g, 0, none⟩) n cap) (l.set k ((nth l k).1, b)) ∧ w.grownBy (w.setCell ⟨g, k * 2 + 1, none⟩ (.string b)) (some g) :=
  ownK_store szBd h hn hk (i := 1) (by decide) (y := ((nth l k).1, b)) (u := .string b) rfl
theorem bdStore {e : TypeId} {B : Nat} {w : World} {g n cap : Nat} {l : List (ByteArray × ByteArray)} (h : OwnK e encBd 2 B w (.slice (some ⟨g, 0, none⟩) n cap) l) (hn : n = l.length) {k : Nat} (hk : k < l.length) (x : ByteArray × ByteArray) :
    OwnK e encBd 2 B ((w.setCell ⟨g, k * 2, none⟩ (.string x.1)).setCell ⟨g, k * 2 + 1, none⟩ (.string x.2)) (.slice (some ⟨g, 0, none⟩) n cap) (l.set k x) ∧ w.grownBy ((w.setCell ⟨g, k * 2, none⟩ (.string x.1)).setCell ⟨g, k * 2 + 1, none⟩ (.string x.2)) (some g) := by
  obtain ⟨a1, a2⟩ := bdStore0 h hn hk x.1
  obtain ⟨b1, b2⟩ := bdStore1 a1 (by simpa using hn) (k := k) (by simpa using hk) x.2
  rw [nth_set hk, List.set_set] at b1
  exact ⟨b1, Go.World.grownBy.trans a2 b2⟩

/-- Length and sizes of a list of bindings together, up to place k. -/
def bulk2To (l : List (ByteArray × ByteArray)) (k : Nat) : Nat := l.length + ((l.take k).map (fun x => x.1.size + x.2.size)).sum
def bulk2 (l : List (ByteArray × ByteArray)) : Nat := bulk2To l l.length
theorem bulk2To_zero (l : List (ByteArray × ByteArray)) : bulk2To l 0 = l.length := by simp [bulk2To]
theorem bulk2To_succ (l : List (ByteArray × ByteArray)) {k : Nat} (h : k < l.length) : bulk2To l (k + 1) = bulk2To l k + ((nth l k).1.size + (nth l k).2.size) := by
  unfold bulk2To
  rw [List.take_succ_eq_append_getElem h, nth_eq h, List.map_append, List.sum_append]
  simp only [List.map_cons, List.map_nil, List.sum_cons, List.sum_nil]
  omega
theorem bulk2To_le (l : List (ByteArray × ByteArray)) (k : Nat) : bulk2To l k ≤ bulk2 l := by
  unfold bulk2 bulk2To
  have := sum_take_le (l.map (fun x => x.1.size + x.2.size)) k
  rw [List.take_length, List.map_take]; omega
theorem bulk2_len (l : List (ByteArray × ByteArray)) : l.length ≤ bulk2 l := by unfold bulk2 bulk2To; omega
def szL2 (l : List (ByteArray × ByteArray)) (left : Int) : Int := if (bulk2 l : Int) ≤ left then left - bulk2 l else -1
theorem szL2_fit {l : List (ByteArray × ByteArray)} {left : Int} (h : (bulk2 l : Int) ≤ left) : szL2 l left = left - bulk2 l := if_pos h
theorem szL2_not {l : List (ByteArray × ByteArray)} {left : Int} (h : left < (bulk2 l : Int)) : szL2 l left = -1 := if_neg (by omega)

/-- The list behind the first k stores of a copy. -/
def filledK {α : Type} [Inhabited α] (l : List α) (k : Nat) : List α := l.take k ++ List.replicate (l.length - k) default
section
variable {α : Type} [Inhabited α]
theorem filledK_length (l : List α) {k : Nat} (h : k ≤ l.length) : (filledK l k).length = l.length := by simp [filledK]; omega
theorem filledK_zero (l : List α) : filledK l 0 = List.replicate l.length default := by simp [filledK]
theorem filledK_all (l : List α) : filledK l l.length = l := by simp [filledK]
theorem filledK_step (l : List α) {k : Nat} (h : k < l.length) : (filledK l k).set k (nth l k) = filledK l (k + 1) := by
  have hl : (l.take k).length = k := by simp; omega
  unfold filledK
  rw [List.set_append_right _ _ (by omega), hl, Nat.sub_self, show l.length - k = (l.length - (k + 1)) + 1 by omega, List.replicate_succ, List.set_cons_zero, nth_eq h]
  have := List.take_succ_eq_append_getElem h
  rw [this, List.append_assoc]; rfl
end

set_option maxHeartbeats 1000000 in
theorem szBinding (a b : ByteArray) (w : World) (left : Int) (ha : a.size ≤ 9223372036854775807) (hb : b.size ≤ 9223372036854775807) (h0 : 0 ≤ left) (h1 : left ≤ 1048576) :
    Calls Try.prog 71 #[.agg #[.string a, .string b], .int .i64 left] w fun e w' => e = .returned (.int .i64 (if left - a.size < 0 then -1 else if left - a.size - b.size < 0 then -1 else left - a.size - b.size)) ∧ Below w.heap.size w w' := by
  by_cases c1 : left - (a.size : Int) < 0
  · rw [if_pos c1]
    go_enter Try.func71, Try.ntmps71
    go_wp2
    go_ret
    exact ⟨rfl, (Below.refl _ _).alloc (Nat.le_refl _) _⟩
  · by_cases c2 : left - (a.size : Int) - (b.size : Int) < 0
    · rw [if_neg c1, if_pos c2]
      go_enter Try.func71, Try.ntmps71
      go_wp2
      go_ret
      exact ⟨rfl, (Below.refl _ _).alloc (Nat.le_refl _) _⟩
    · rw [if_neg c1, if_neg c2]
      go_enter Try.func71, Try.ntmps71
      go_wp2
      go_ret
      exact ⟨rfl, (Below.refl _ _).alloc (Nat.le_refl _) _⟩

set_option maxHeartbeats 1000000 in
theorem szBindingS (v : Value) (l : List (ByteArray × ByteArray)) (w : World) (left : Int) (h : HoldsK encBd 2 w v l) (hl : l.length ≤ 9223372036854775807) (hs : ∀ x ∈ l, x.1.size ≤ maxLen ∧ x.2.size ≤ maxLen) (h0 : 0 ≤ left) (h1 : left ≤ 1048576) :
    Calls Try.prog 38 #[v, .int .i64 left] w fun e w' => e = .returned (.int .i64 (szL2 l left)) ∧ Below w.heap.size w w' := by
  obtain ⟨x, cap, rfl, hcap, hh⟩ := h.shape
  have hle := bulk2To_le l
  obtain ⟨n, hn⟩ : ∃ n, n = l.length := ⟨_, rfl⟩
  have hb0 := bulk2To_zero l
  rw [← hn] at hcap hh hl hb0 ⊢
  by_cases hbig : left < (n : Int)
  · have hS : szL2 l left = -1 := szL2_not (by have := bulk2_len l; omega)
    rw [hS]
    clear hh h hs hle hn hb0 hS
    go_enter Try.func38, Try.ntmps38
    go_wp2
    go_ret
    exact ⟨rfl, Below.refl _ _⟩
  have HN := Lib.hid hn
  have HH := Lib.hid hh
  have HS := Lib.hid hs
  have HLE := Lib.hid hle
  have HB0 := Lib.hid hb0
  clear hn h hh hs hle hb0
  go_enter Try.func38, Try.ntmps38
  go_wp2
  go_loopw [1, 5] (fun lv i wr => ∃ k : Nat, k ≤ n ∧ i = .int .i64 k ∧ ∃ u : Int, lv = .int .i64 u ∧ u = left - bulk2To l k ∧ 0 ≤ u ∧ Hid (Below w.heap.size w wr)) (fun _ i _ => n - (intOf i).toNat)
  case atStart => exact ⟨0, Nat.zero_le _, rfl, _, rfl, by rw [HB0.out], by omega, Lib.hid (Below.refl _ _)⟩
  case round =>
    obtain ⟨k, hk, rfl, u, rfl, hu, h0u, hb⟩ := hrel
    have hub : u ≤ left := by omega
    have HU := Lib.hid hu
    clear hu
    by_cases hlt : k < n
    · have hlen := HN.out
      obtain ⟨b, off, rfl, hc1, hc2⟩ := bdAt (HH.out.on hb.out) (k := k) (by omega)
      have hsz := HS.out (nth l k) (by rw [nth_eq (by omega)]; exact List.getElem_mem _)
      have hm : maxLen = 9223372036854775807 := rfl
      rw [hm] at hsz
      have HSZ := Lib.hid hsz
      have hstep := Lib.hid (bulk2To_succ l (k := k) (by omega))
      have hall := HLE.out (k + 1)
      have HALL := Lib.hid hall
      clear hlen hm hall hsz
      go_wp2_with fail
      refine (szBinding _ _ wr u HSZ.out.1 HSZ.out.2 h0u (by omega)).mono ?_
      rintro e w1 ⟨rfl, hb1⟩
      have HB1 := Lib.hid (hb.out.trans (hb1.mono hb.out.size))
      clear hb1 hc1 hc2
      by_cases c1 : u - ((nth l k).1.size : Int) < 0
      · rw [if_pos c1]
        have HZ : Hid (szL2 l left = -1) := by
          have e1 := HALL.out; have e2 := HU.out; have e3 := hstep.out
          exact szL2_not (by omega)
        clear c1
        go_wp2
        go_ret
        exact ⟨ret_int HZ.out.symm, HB1.out⟩
      · rw [if_neg c1]
        by_cases c2 : u - ((nth l k).1.size : Int) - ((nth l k).2.size : Int) < 0
        · rw [if_pos c2]
          have HZ : Hid (szL2 l left = -1) := by
            have e1 := HALL.out; have e2 := HU.out; have e3 := hstep.out
            exact szL2_not (by omega)
          clear c1 c2
          go_wp2
          go_ret
          exact ⟨ret_int HZ.out.symm, HB1.out⟩
        · rw [if_neg c2]
          go_wp2
          go_roundw
          case rel => exact ⟨k + 1, by omega, by go_num, _, rfl, by rw [hstep.out, HU.out]; omega, by omega, HB1⟩
          case measure => simp [intOf]; omega
    · obtain rfl : k = n := by omega
      clear hlt
      go_wp2
      go_ret
      refine ⟨ret_int ?_, hb.out⟩
      have := HU.out
      rw [HN.out] at this
      rw [szL2_fit (by unfold bulk2; omega)]
      exact this

set_option maxHeartbeats 1000000 in
theorem toBinding (a b : ByteArray) (w : World) :
    Calls Try.prog 72 #[.agg #[.string a, .string b]] w fun e w' => e = .returned (.agg #[.string a, .string b]) ∧ Below w.heap.size w w' := by
  go_enter Try.func72, Try.ntmps72
  go_wp2_with fail
  refine bodyPost_ret (Ret.results_c rfl _ _ (w.heap.size + 1) [.string a, .string b] rfl (by unfold Ret.AggOf; exact ⟨by kernel_rfl, by kernel_rfl⟩) (Ret.two ?_ ?_)) rfl ?_
  · rw [World.cell?_alloc_past _ _ _ (by simp), World.cell?_alloc_at _ _ _ _ (by simp)]; rfl
  · rw [World.cell?_alloc_past _ _ _ (by simp), World.cell?_alloc_at _ _ _ _ (by simp)]; rfl
  · exact ⟨rfl, (((Below.refl _ _).alloc (Nat.le_refl _) _).alloc (by simp) _).alloc (by simp; omega) _⟩
set_option maxHeartbeats 1000000 in
theorem toBindingS (v : Value) (l : List (ByteArray × ByteArray)) (w : World) (h : HoldsK encBd 2 w v l) (hl : l.length ≤ 100000000) :
    Calls Try.prog 40 #[v] w fun e w' => ∃ v', e = .returned v' ∧ OwnK 80 encBd 2 w.heap.size w' v' l ∧ Below w.heap.size w w' := by
  obtain ⟨x, cap, rfl, hcap, hh⟩ := h.shape
  obtain ⟨i0, hi, hz0, hz1, hz2⟩ := info_parts kindBd.elem
  obtain ⟨n, hn⟩ : ∃ n, n = l.length := ⟨_, rfl⟩
  rw [← hn] at hcap hh hl ⊢
  have HN := Lib.hid hn
  have HH := Lib.hid hh
  have HI := Lib.hid hi; have HZ0 := Lib.hid hz0; have HZ1 := Lib.hid hz1; have HZ2 := Lib.hid hz2
  clear hn h hh hi hz0 hz1 hz2
  go_enter Try.func40, Try.ntmps40
  go_wp2_with (at_make; refine wpList_make_full _ rfl _ _ 28 rfl w.heap.size 80 i0 (.agg #[.string ByteArray.empty, .string ByteArray.empty]) 2 Try.underlying28 HI.out HZ0.out HZ1.out _ _ _ _ n rfl rfl rfl rfl (by rw [HZ2.out]; omega) (by unfold maxLen; omega) (Nat.le_refl _) ?_)
  intro w1 hown hgrow
  have ho : OwnK 80 encBd 2 w.heap.size w1 (.slice (some ⟨w.heap.size, 0, none⟩) n n) (filledK l 0) := by
    unfold OwnK
    rw [filledK_zero, List.length_replicate, ← HN.out]
    exact (madeK szBd (by decide) (z := .agg #[.string ByteArray.empty, .string ByteArray.empty]) rfl n) ▸ hown
  have hb : Below w.heap.size w w1 := (Below.refl _ _).grown hgrow (Nat.le_refl _) (fun k hk => by cases hk)
  have HO := Lib.hid ho; have HB := Lib.hid hb
  clear hown hgrow ho hb
  go_wp2_with fail
  go_loopw [4] (fun i wr => ∃ k : Nat, k ≤ n ∧ i = .int .i64 k ∧ Hid (OwnK 80 encBd 2 w.heap.size wr (.slice (some ⟨w.heap.size, 0, none⟩) n n) (filledK l k)) ∧ Hid (Below w.heap.size w wr)) (fun i _ => n - (intOf i).toNat)
  case atStart => exact ⟨0, Nat.zero_le _, rfl, HO, HB⟩
  case round =>
    obtain ⟨k, hk, rfl, ho, hb⟩ := hrel
    by_cases hlt : k < n
    · have hlen := HN.out
      obtain ⟨b, off, rfl, hc1, hc2⟩ := bdAt ((HH.out).on hb.out) (k := k) (by omega)
      clear hlen
      go_wp2_with fail
      refine (toBinding _ _ wr).mono ?_
      rintro e w2 ⟨rfl, hb2⟩
      have HO2 := Lib.hid (ho.out.on hb2)
      have HB2 := Lib.hid (hb.out.trans (hb2.mono hb.out.size))
      clear hb2 hc1 hc2
      have hlen := HN.out
      obtain ⟨⟨hd1, hf1⟩, hd2, hf2⟩ := bdCell HO2.out (by rw [filledK_length l (by omega)]; exact hlen) (k := k) (by rw [filledK_length l (by omega)]; omega)
      obtain ⟨hs1, hs2⟩ := bdStore HO2.out (by rw [filledK_length l (by omega)]; exact hlen) (k := k) (by rw [filledK_length l (by omega)]; omega) (nth l k)
      rw [filledK_step l (by omega)] at hs1
      have HS1 := Lib.hid hs1; have HS2 := Lib.hid hs2
      clear hs1 hs2 hlen
      go_wp2_with fail
      go_roundw
      case rel => exact ⟨k + 1, by omega, by go_num, HS1, Lib.hid (HB2.out.grown HS2.out HB2.out.size (fun g hg => by cases hg; exact Nat.le_refl _))⟩
      case measure => simp [intOf]; omega
    · obtain rfl : k = n := by omega
      clear hlt
      go_wp2
      go_ret
      refine ⟨_, rfl, ?_, hb.out⟩
      have := ho.out
      rw [HN.out, filledK_all] at this
      rw [HN.out]
      exact this

/-! ### comparing -/
def eqBd (l m : List (ByteArray × ByteArray)) : Bool := decide (l = m)
theorem eqBd_self (l : List (ByteArray × ByteArray)) : eqBd l l = true := by simp [eqBd]
theorem eqBd_true {l m : List (ByteArray × ByteArray)} (h : l = m) : eqBd l m = true := by simp [eqBd, h]
theorem eqBd_false {l m : List (ByteArray × ByteArray)} (h : l ≠ m) : eqBd l m = false := by simp [eqBd, h]
theorem tl_dec (a b : ByteArray) : (!(a.toList == b.toList)) = !(decide (a = b)) := by
  by_cases h : a = b
  · rw [tl_eq h]; simp [h]
  · rw [tl_ne h]; simp [h]

set_option maxHeartbeats 1000000 in
theorem eqBinding (a b c d : ByteArray) (w : World) :
    Calls Try.prog 73 #[.agg #[.string a, .string b], .agg #[.string c, .string d]] w fun e w' => e = .returned (.bool (decide (a = c) && decide (b = d))) ∧ Below w.heap.size w w' := by
  by_cases h1 : a = c
  · have t1 := tl_eq h1
    by_cases h2 : b = d
    · have t2 := tl_eq h2
      have hr : (decide (a = c) && decide (b = d)) = true := by simp [h1, h2]
      rw [hr]; clear hr h1 h2
      go_enter Try.func73, Try.ntmps73
      go_wp2
      go_ret
      exact ⟨rfl, ((Below.refl _ _).alloc (Nat.le_refl _) _).alloc (by simp) _⟩
    · have t2 := tl_ne h2
      have hr : (decide (a = c) && decide (b = d)) = false := by simp [h2]
      rw [hr]; clear hr h1 h2
      go_enter Try.func73, Try.ntmps73
      go_wp2
      go_ret
      exact ⟨rfl, ((Below.refl _ _).alloc (Nat.le_refl _) _).alloc (by simp) _⟩
  · have t1 := tl_ne h1
    have hr : (decide (a = c) && decide (b = d)) = false := by simp [h1]
    rw [hr]; clear hr h1
    go_enter Try.func73, Try.ntmps73
    go_wp2
    go_ret
    exact ⟨rfl, ((Below.refl _ _).alloc (Nat.le_refl _) _).alloc (by simp) _⟩

theorem keep4 {w w' : World} {a1 a2 a3 a4 : Addr} {v1 v2 v3 v4 : Value} (h1 : w.cell? a1 = some v1) (h2 : w.cell? a2 = some v2) (h3 : w.cell? a3 = some v3) (h4 : w.cell? a4 = some v4) {W : World} (hbW : Below W.heap.size W w) (hb : Below w.heap.size w w') :
    w'.cell? a1 = some v1 ∧ w'.cell? a2 = some v2 ∧ w'.cell? a3 = some v3 ∧ w'.cell? a4 = some v4 ∧ Below W.heap.size W w' :=
  ⟨by rw [hb.cell (cell_lt h1)]; exact h1, by rw [hb.cell (cell_lt h2)]; exact h2, by rw [hb.cell (cell_lt h3)]; exact h3, by rw [hb.cell (cell_lt h4)]; exact h4, hbW.trans (hb.mono hbW.size)⟩
theorem eqBinding_is (x y : ByteArray × ByteArray) (w : World) (q : Bool) (hq : decide (x = y) = q) :
    Calls Try.prog 73 #[.agg #[.string x.1, .string x.2], .agg #[.string y.1, .string y.2]] w fun e w' => e = .returned (.bool q) ∧ Below w.heap.size w w' := by
  have h1 : (decide (x.1 = y.1) && decide (x.2 = y.2)) = q := by
    rw [← hq]
    by_cases h : x = y
    · subst h; simp
    · rw [decide_eq_false h]
      cases h1 : (decide (x.1 = y.1) && decide (x.2 = y.2)) with
      | false => rfl
      | true => simp at h1; exact absurd (Prod.ext h1.1 h1.2) h
  have := eqBinding x.1 x.2 y.1 y.2 w
  rwa [h1] at this
theorem eqBindingS_len (x y : Option Addr) (n m cx cy : Nat) (w : World) (h : (((n : Nat) : Int) != ((m : Nat) : Int)) = true) :
    Calls Try.prog 41 #[.slice x n cx, .slice y m cy] w fun e w' => e = .returned (.bool false) ∧ w = w' := by
  go_enter Try.func41, Try.ntmps41
  go_wp2
  go_ret
  exact ⟨rfl, rfl⟩

set_option maxHeartbeats 1000000 in
theorem eqBindingS (v u : Value) (l m : List (ByteArray × ByteArray)) (w : World) (h : HoldsK encBd 2 w v l) (g : HoldsK encBd 2 w u m) (hl : l.length ≤ 140737488351232) (hm : m.length ≤ 140737488351232) :
    Calls Try.prog 41 #[v, u] w fun e w' => e = .returned (.bool (eqBd l m)) ∧ Below w.heap.size w w' := by
  obtain ⟨x, cx, rfl, hcx, hh⟩ := h.shape
  obtain ⟨y, cy, rfl, hcy, hg⟩ := g.shape
  by_cases he : l.length = m.length
  · obtain ⟨n, hn⟩ : ∃ n, n = l.length := ⟨_, rfl⟩
    rw [← he] at hg hm hcy ⊢
    rw [← hn] at hcx hh hl hg hm hcy ⊢
    have HE := Lib.hid he
    have HN := Lib.hid hn
    have HH := Lib.hid hh
    have HG := Lib.hid hg
    have htest : (((n : Nat) : Int) != ((n : Nat) : Int)) = false := by simp
    clear hn h hh g hg he
    go_enter Try.func41, Try.ntmps41
    go_wp2
    go_loopw [5] (fun i wr => ∃ k : Nat, k ≤ n ∧ i = .int .i64 k ∧ Hid (agree l m k) ∧ Hid (Below w.heap.size w wr)) (fun i _ => n - (intOf i).toNat)
    case atStart => exact ⟨0, Nat.zero_le _, rfl, Lib.hid (agree_zero _ _), Lib.hid (Below.refl _ _)⟩
    case round =>
      obtain ⟨k, hk, rfl, ha, hb⟩ := hrel
      by_cases hlt : k < n
      · have hlen := HN.out
        have hlen2 := HE.out
        obtain ⟨b, off, rfl, hc, hd⟩ := bdAt (HH.out.on hb.out) (k := k) (by omega)
        obtain ⟨b', off', rfl, hc', hd'⟩ := bdAt (HG.out.on hb.out) (k := k) (by omega)
        clear hlen hlen2
        have HC := Lib.hid hc; have HD := Lib.hid hd; have HC' := Lib.hid hc'; have HD' := Lib.hid hd'
        clear hc hd hc' hd'
        go_wp2_with fail
        by_cases hd : nth l k = nth m k
        · have HE1 : Hid (decide (nth l k = nth m k) = true) := Lib.hid (decide_eq_true hd)
          have HA := Lib.hid (agree_succ ha.out hd); clear hd
          go_region_held3 (fun w' => w'.cell? ⟨b, off + k * 2, none⟩ = some (.string (nth l k).1) ∧ w'.cell? ⟨b, off + k * 2 + 1, none⟩ = some (.string (nth l k).2) ∧ w'.cell? ⟨b', off' + k * 2, none⟩ = some (.string (nth m k).1) ∧ w'.cell? ⟨b', off' + k * 2 + 1, none⟩ = some (.string (nth m k).2) ∧ Below w.heap.size w w') (first | exact keep4 HC.out HD.out HC'.out HD'.out hb.out (Below.refl _ _).drew | exact keep4 HC.out HD.out HC'.out HD'.out hb.out (hb1.mono (Nat.le_refl _)) | exact keep4 HC.out HD.out HC'.out HD'.out hb.out ((Below.refl _ _).drew.trans (hb1.mono (Nat.le_refl _)))) ((go_at_call 73; refine (eqBinding_is _ _ _ _ HE1.out).mono ?_; rintro e w1 ⟨rfl, hb1⟩))
          all_goals
            have HB2 := Lib.hid (hb.out.drew.trans (hb1.mono hb.out.size))
            clear hb1
            go_wp2_with fail
            go_roundw
            case rel => exact ⟨k + 1, by omega, by go_num, HA, HB2⟩
            case measure => simp [intOf]; omega
        · have HE1 : Hid (decide (nth l k = nth m k) = false) := Lib.hid (decide_eq_false hd)
          have HA := Lib.hid (eqBd_false (differ_at hd)); clear hd
          go_region_held3 (fun w' => w'.cell? ⟨b, off + k * 2, none⟩ = some (.string (nth l k).1) ∧ w'.cell? ⟨b, off + k * 2 + 1, none⟩ = some (.string (nth l k).2) ∧ w'.cell? ⟨b', off' + k * 2, none⟩ = some (.string (nth m k).1) ∧ w'.cell? ⟨b', off' + k * 2 + 1, none⟩ = some (.string (nth m k).2) ∧ Below w.heap.size w w') (first | exact keep4 HC.out HD.out HC'.out HD'.out hb.out (Below.refl _ _).drew | exact keep4 HC.out HD.out HC'.out HD'.out hb.out (hb1.mono (Nat.le_refl _)) | exact keep4 HC.out HD.out HC'.out HD'.out hb.out ((Below.refl _ _).drew.trans (hb1.mono (Nat.le_refl _)))) ((go_at_call 73; refine (eqBinding_is _ _ _ _ HE1.out).mono ?_; rintro e w1 ⟨rfl, hb1⟩))
          all_goals
            have HB2 := Lib.hid (hb.out.drew.trans (hb1.mono hb.out.size))
            clear hb1
            go_wp2_with fail
            go_ret
            exact ⟨ret_bool HA.out.symm, HB2.out⟩
      · obtain rfl : k = n := by omega
        have HD := Lib.hid (eqBd_true (agree_all HE.out (HN.out ▸ ha.out)))
        clear hlt
        go_wp2
        go_ret
        exact ⟨ret_bool HD.out.symm, hb.out⟩
  · have htest : (((l.length : Nat) : Int) != ((m.length : Nat) : Int)) = true := by
      rw [bne_iff_ne]; omega
    rw [eqBd_false (fun e => he (by rw [e]))]
    exact (eqBindingS_len x y _ _ cx cy w htest).mono fun e w' ⟨h1, h2⟩ => ⟨h1, by subst h2; exact Below.refl _ _⟩

/-! ### marking -/
/-- The elements that a marking writes: from k on, two numbers an element. -/
def mark2 (k : Int) : Nat → List (ByteArray × ByteArray)
  | 0 => []
  | n + 1 => mark2 k n ++ [(markT (k + 2 * n), markT (k + 2 * n + 1))]
theorem mark2_length (k : Int) : ∀ n, (mark2 k n).length = n
  | 0 => rfl
  | n + 1 => by simp [mark2, mark2_length k n]
theorem mark2_at (k : Int) : ∀ n j, j < n → nth (mark2 k n) j = (markT (k + 2 * j), markT (k + 2 * j + 1))
  | n + 1, j, h => by
    simp only [mark2]
    by_cases hj : j < n
    · have := mark2_at k n j hj
      simp only [nth, List.getD, List.getElem?_append, mark2_length] at *
      rw [if_pos hj]; exact this
    · obtain rfl : j = n := by omega
      simp [nth, List.getD, mark2_length]
def marked2 (k : Int) (l : List (ByteArray × ByteArray)) (j : Nat) : List (ByteArray × ByteArray) := mark2 k j ++ l.drop j
theorem marked2_length (k : Int) (l : List (ByteArray × ByteArray)) {j : Nat} (h : j ≤ l.length) : (marked2 k l j).length = l.length := by simp [marked2, mark2_length]; omega
theorem marked2_zero (k : Int) (l : List (ByteArray × ByteArray)) : marked2 k l 0 = l := by simp [marked2, mark2]
theorem marked2_all (k : Int) (l : List (ByteArray × ByteArray)) : marked2 k l l.length = mark2 k l.length := by simp [marked2]
theorem marked2_step (k : Int) (l : List (ByteArray × ByteArray)) {j : Nat} (h : j < l.length) : (marked2 k l j).set j (markT (k + 2 * j), markT (k + 2 * j + 1)) = marked2 k l (j + 1) := by
  simp only [marked2, mark2]
  rw [List.set_append_right _ _ (by rw [mark2_length]; omega), mark2_length, Nat.sub_self, List.append_assoc]
  congr 1
  cases hd : l.drop j with
  | nil => have := congrArg List.length hd; simp at this; omega
  | cons x r =>
    have : l.drop (j + 1) = r := by rw [← List.drop_drop, hd]; rfl
    simp [this]

set_option maxHeartbeats 2000000 in
/-- Marking: every element of a slice of the call's own is written. -/
theorem markBindingS (B : Nat) (v : Value) (l : List (ByteArray × ByteArray)) (w : World) (k : Int) (h : OwnK 80 encBd 2 B w v l) (hl : l.length ≤ 100000000) (h0 : 0 ≤ k) (h1 : k ≤ 100000000000) :
    Calls Try.prog 45 #[v, .int .i64 k] w fun e w' => e = .returned (.int .i64 (k + 2 * l.length)) ∧ OwnK 80 encBd 2 B w' v (mark2 k l.length) ∧ w.grownBy w' v.ownBlock := by
  rcases h.form with ⟨rfl, rfl⟩ | ⟨g, cap, rfl, g1, g2, g3, g4⟩
  · have H := Lib.hid h; clear h
    go_enter Try.func45, Try.ntmps45
    go_wp2
    refine wp_loop_rounds 1 ?_
    rw [rounds_succ]
    go_wp2
    go_ret
    exact ⟨ret_int (by simp), H.out, World.grownBy.refl _ _⟩
  · obtain ⟨n, hn⟩ : ∃ n, n = l.length := ⟨_, rfl⟩
    rw [← hn] at h hl g3 ⊢
    have HN := Lib.hid hn
    have H := Lib.hid h
    clear hn h
    have HB : Hid (OwnK 80 encBd 2 B w (.slice (some ⟨g, 0, none⟩) n cap) (marked2 k l 0)) := by rw [marked2_zero]; exact H.out
    go_enter Try.func45, Try.ntmps45
    go_wp2
    go_loopw [1, 5] (fun kv i wr => ∃ j : Nat, j ≤ n ∧ i = .int .i64 j ∧ kv = .int .i64 (k + 2 * j) ∧ Hid (OwnK 80 encBd 2 B wr (.slice (some ⟨g, 0, none⟩) n cap) (marked2 k l j)) ∧ Hid (w.grownBy wr (some g))) (fun _ i _ => n - (intOf i).toNat)
    case atStart => exact ⟨0, Nat.zero_le _, rfl, by simp, HB, Lib.hid (World.grownBy.refl _ _)⟩
    case round =>
      obtain ⟨j, hj, rfl, rfl, ho, hg⟩ := hrel
      by_cases hlt : j < n
      · go_wp2_with fail
        refine (markText (k + 2 * j) wr (by omega) (by omega)).mono ?_
        rintro e w1 ⟨rfl, hb1⟩
        have HO1 := Lib.hid (ho.out.on hb1)
        have HG1 := Lib.hid (Go.World.grownBy.trans hg.out (grown_of_below hb1 (some g)))
        have hlen : n = (marked2 k l j).length := by rw [marked2_length k l (by have := HN.out; omega)]; exact HN.out
        have hlt2 : j < (marked2 k l j).length := by omega
        obtain ⟨⟨hc1, hf1⟩, -⟩ := bdCell HO1.out hlen hlt2
        obtain ⟨hs1, hs2⟩ := bdStore0 HO1.out hlen hlt2 (markT (k + 2 * j))
        have HLEN := Lib.hid hlen; have HLT2 := Lib.hid hlt2
        have HS1 := Lib.hid hs1; have HS2 := Lib.hid (Go.World.grownBy.trans HG1.out hs2)
        clear hs1 hs2 hlen hlt2 hb1
        go_wp2_with fail
        refine (markText (k + 2 * j + 1) _ (by omega) (by omega)).mono ?_
        rintro e w2 ⟨rfl, hb2⟩
        have HO2 := Lib.hid (HS1.out.on hb2)
        have HG2 := Lib.hid (Go.World.grownBy.trans HS2.out (grown_of_below hb2 (some g)))
        clear hc1 hf1 hb2
        obtain ⟨-, hc2, hf2⟩ := bdCell HO2.out (by rw [List.length_set]; exact HLEN.out) (k := j) (by rw [List.length_set]; exact HLT2.out)
        obtain ⟨hs1, hs2⟩ := bdStore1 HO2.out (by rw [List.length_set]; exact HLEN.out) (k := j) (by rw [List.length_set]; exact HLT2.out) (markT (k + 2 * j + 1))
        rw [nth_set HLT2.out, List.set_set, marked2_step k l (by have := HN.out; omega)] at hs1
        have HS3 := Lib.hid hs1; have HS4 := Lib.hid (Go.World.grownBy.trans HG2.out hs2)
        clear hs1 hs2
        go_wp2_with fail
        go_roundw
        case rel => exact ⟨j + 1, by omega, by go_num, by go_num, HS3, HS4⟩
        case measure => simp [intOf]; omega
      · obtain rfl : j = n := by omega
        clear hlt
        go_wp2
        go_ret
        refine ⟨rfl, ?_, hg.out⟩
        have := ho.out
        rw [HN.out, marked2_all] at this
        rw [HN.out]
        exact this

set_option maxHeartbeats 2000000 in
theorem heldBindingS (v : Value) (w : World) (k : Int) (n : Nat) (h : HoldsK encBd 2 w v (mark2 k n)) (hl : n ≤ 100000000) (h0 : 0 ≤ k) (h1 : k ≤ 100000000000) :
    Calls Try.prog 46 #[v, .int .i64 k] w fun e w' => e = .returned (.int .i64 (k + 2 * n)) ∧ Below w.heap.size w w' := by
  obtain ⟨x, cap, rfl, hcap, hh⟩ := h.shape
  rw [mark2_length] at hcap hh ⊢
  have HH := Lib.hid hh; clear hh h
  go_enter Try.func46, Try.ntmps46
  go_wp2
  go_loopw [1, 5] (fun kv i wr => ∃ j : Nat, j ≤ n ∧ i = .int .i64 j ∧ kv = .int .i64 (k + 2 * j) ∧ Hid (Below w.heap.size w wr)) (fun _ i _ => n - (intOf i).toNat)
  case atStart => exact ⟨0, Nat.zero_le _, rfl, by simp, Lib.hid (Below.refl _ _)⟩
  case round =>
    obtain ⟨j, hj, rfl, rfl, hb⟩ := hrel
    by_cases hlt : j < n
    · obtain ⟨b, off, rfl, hc, -⟩ := bdAt (HH.out.on hb.out) (k := j) (by rw [mark2_length]; exact hlt)
      rw [mark2_at _ n j hlt] at hc
      have hne := tl_eq (rfl : markT (k + 2 * j) = markT (k + 2 * j))
      go_wp2_with fail
      have HC := Lib.hid hc
      clear hc
      go_region_held3 (fun w' => w'.cell? ⟨b, off + j * 2, none⟩ = some (.string (markT (k + 2 * j))) ∧ Below w.heap.size w w') (first | exact keepS HC.out hb.out (Below.refl _ _).drew | exact keepS HC.out hb.out (hb1.mono (Nat.le_refl _)) | exact keepS HC.out hb.out ((Below.refl _ _).drew.trans (hb1.mono (Nat.le_refl _)))) ((go_at_call 75; refine (markText (k + 2 * j) _ (by omega) (by omega)).mono ?_; rintro e w1 ⟨rfl, hb1⟩))
      all_goals
        have HB2 := Lib.hid (hb.out.drew.trans (hb1.mono hb.out.size))
        clear hb1 HC hne
        obtain ⟨b', off', hxx, -, hc⟩ := bdAt (HH.out.on HB2.out) (k := j) (by rw [mark2_length]; exact hlt)
        cases hxx
        rw [mark2_at _ n j hlt] at hc
        have hne := tl_eq (rfl : markT (k + 2 * j + 1) = markT (k + 2 * j + 1))
        have HC := Lib.hid hc
        clear hc
        go_wp2_with fail
        go_region_held3 (fun w' => w'.cell? ⟨b, off + j * 2 + 1, none⟩ = some (.string (markT (k + 2 * j + 1))) ∧ Below w.heap.size w w') (first | exact keepS HC.out HB2.out (Below.refl _ _).drew | exact keepS HC.out HB2.out (hb1.mono (Nat.le_refl _)) | exact keepS HC.out HB2.out ((Below.refl _ _).drew.trans (hb1.mono (Nat.le_refl _)))) ((go_at_call 75; refine (markText (k + 2 * j + 1) _ (by omega) (by omega)).mono ?_; rintro e w2 ⟨rfl, hb1⟩))
        all_goals
          have HB3 := Lib.hid (HB2.out.drew.trans (hb1.mono HB2.out.size))
          clear hb1
          go_wp2_with fail
          go_roundw
          case rel => exact ⟨j + 1, by omega, by go_num, by go_num, HB3⟩
          case measure => simp [intOf]; omega
    · obtain rfl : j = n := by omega
      clear hlt
      go_wp2
      go_ret
      exact ⟨rfl, hb.out⟩
end Go.Proofs.Ytoibmgnmnmeklaa.Row
