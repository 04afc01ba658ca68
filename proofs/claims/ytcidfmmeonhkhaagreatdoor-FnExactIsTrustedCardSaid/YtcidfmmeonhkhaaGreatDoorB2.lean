/- Contracts and mathematics, joined: Cmp, Num, Trunc, Pref, NameLaw, Many, Keep, Tab. No conditions but those that each states. -/
import Derived.Test.YtcidfmmeonhkhaaGreatDoorB1
import Derived.Test.YtcidfmmeonhkhaaGreatDoorRows
import Derived.WalkKit
import Derived.ProofKit
import Derived.WalkLawsBesides
import Derived.Lib.Hide
import Derived.LoopTactic
import Derived.Lib.SmallJoins
import Derived.Deep.Strs
import Derived.SizedLaws
import Derived.ChangeSlices
import Derived.ChangeSame
/- Contracts of CompareNames and EqualNames, the program's and the reference model's, and of the library's Compare and Equal on slices of strings: parts are compared one by one, byte by byte, then the lengths. No conditions but that lengths fit. -/
namespace Go.Proofs.YtcidfmmeonhkhaaGreatDoor.Row
open Go.ChangeShapes Go.WideShapes Go.ChangeAt Go.RowKit Go.Instr
set_option linter.unusedVariables false
set_option maxRecDepth 100000

def cmpS (a b : ByteArray) : Int := if Op.bytesLess a.toList b.toList = true then -1 else if a.toList = b.toList then 0 else 1
theorem cmpS_lt {a b : ByteArray} (h : Op.bytesLess a.toList b.toList = true) : cmpS a b = -1 := by simp [cmpS, h]
theorem cmpS_eq {a b : ByteArray} (h : Op.bytesLess a.toList b.toList = false) (he : (a.toList == b.toList) = true) : cmpS a b = 0 := by
  have : a.toList = b.toList := by simpa using he
  rw [cmpS, h, this]; simp
theorem cmpS_gt {a b : ByteArray} (h : Op.bytesLess a.toList b.toList = false) (he : (a.toList == b.toList) = false) : cmpS a b = 1 := by
  have : a.toList ≠ b.toList := by simpa using he
  simp [cmpS, h, this]
theorem cmpS_in (a b : ByteArray) : -1 ≤ cmpS a b ∧ cmpS a b ≤ 1 := by
  unfold cmpS; split
  · omega
  · split <;> omega
def cmpL : List ByteArray → List ByteArray → Int
  | [], [] => 0
  | [], _ :: _ => -1
  | _ :: _, [] => 1
  | a :: x, b :: y => if cmpS a b = 0 then cmpL x y else cmpS a b
theorem drop_nth {α : Type} [Inhabited α] {l : List α} {k : Nat} (h : k < l.length) : l.drop k = nth l k :: l.drop (k + 1) := by
  rw [nth_eq h]; exact List.drop_eq_getElem_cons h
theorem cmpL_same {a b : List ByteArray} {k : Nat} (h : k < a.length) (g : k < b.length) (hc : cmpS (nth a k) (nth b k) = 0) : cmpL (a.drop k) (b.drop k) = cmpL (a.drop (k + 1)) (b.drop (k + 1)) := by
  rw [drop_nth h, drop_nth g]; simp [cmpL, hc]
theorem cmpL_diff {a b : List ByteArray} {k : Nat} (h : k < a.length) (g : k < b.length) (hc : cmpS (nth a k) (nth b k) ≠ 0) : cmpL (a.drop k) (b.drop k) = cmpS (nth a k) (nth b k) := by
  rw [drop_nth h, drop_nth g]; simp [cmpL, hc]
theorem cmpL_long {a b : List ByteArray} {k : Nat} (h : k < a.length) (g : k = b.length) : cmpL (a.drop k) (b.drop k) = 1 := by
  rw [drop_nth h, g, List.drop_length]; rfl
theorem cmpL_short {a b : List ByteArray} {k : Nat} (h : k = a.length) (g : k < b.length) : cmpL (a.drop k) (b.drop k) = -1 := by
  rw [drop_nth g, h, List.drop_length]; rfl
theorem cmpL_both {a b : List ByteArray} {k : Nat} (h : k = a.length) (g : k = b.length) : cmpL (a.drop k) (b.drop k) = 0 := by
  rw [h, List.drop_length, ← h, g, List.drop_length]; rfl
set_option maxHeartbeats 1000000 in
theorem l4Cmp (a b : ByteArray) (w : World) : Calls Tryz.prog 191 #[.string a, .string b] w fun e w' => e = .returned (.int .i64 (cmpS a b)) ∧ w = w' := by
  cases h : Op.bytesLess a.toList b.toList with
  | true =>
    have HC := Lib.hid (cmpS_lt h)
    go_enter Tryz.func191, Tryz.ntmps191
    go_wp2
    go_ret
    exact ⟨ret_int HC.out.symm, rfl⟩
  | false =>
    cases he : (a.toList == b.toList) with
    | true =>
      have HC := Lib.hid (cmpS_eq h he)
      go_enter Tryz.func191, Tryz.ntmps191
      go_wp2
      go_ret
      exact ⟨ret_int HC.out.symm, rfl⟩
    | false =>
      have HC := Lib.hid (cmpS_gt h he)
      go_enter Tryz.func191, Tryz.ntmps191
      go_wp2
      go_ret
      exact ⟨ret_int HC.out.symm, rfl⟩

theorem quiet_add_left {P : Program} {f : FuncId} {args : Array Value} {w : World} {a n : Nat} {v : Value}
    (h : Calls P f args (w.drewN (a + n)) fun e w' => e = .returned v ∧ w.drewN (a + n) = w') :
    Calls P f args (w.drewN (a + n)) fun e w'' => e = .returned v ∧ ∃ m, w'' = w.drewN (a + m) :=
  h.mono fun _ _ ⟨he, hm⟩ => ⟨he, n, hm.symm⟩
theorem quiet_left {P : Program} {f : FuncId} {args : Array Value} {w : World} {n : Nat} {v : Value}
    (h : Calls P f args (w.drewN n) fun e w' => e = .returned v ∧ w.drewN n = w') : Calls P f args (w.drewN n) fun e w'' => e = .returned v ∧ ∃ m, w'' = w.drewN m :=
  h.mono fun _ _ ⟨he, hm⟩ => ⟨he, n, hm.symm⟩
theorem l4CmpV (a b : ByteArray) (c : Int) (w : World) (h : cmpS a b = c) : Calls Tryz.prog 191 #[.string a, .string b] w fun e w' => e = .returned (.int .i64 c) ∧ w = w' := h ▸ l4Cmp a b w

set_option maxHeartbeats 1000000 in
theorem specCompareNames (v u : Value) (l m : List ByteArray) (w : World) (h : Holds Value.string w v l) (g : Holds Value.string w u m) (hl : l.length ≤ 140737488351232) (hm : m.length ≤ 140737488351232) :
    Calls Tryz.prog 139 #[.agg #[v], .agg #[u]] w fun e w' => e = .returned (.int .i64 (cmpL l m)) ∧ Below w.heap.size w w' := by
  obtain ⟨x, cx, rfl, hcx, hh⟩ := h.shape
  obtain ⟨y, cy, rfl, hcy, hg⟩ := g.shape
  obtain ⟨n, hn⟩ : ∃ n, n = l.length := ⟨_, rfl⟩
  obtain ⟨q, hq⟩ : ∃ q, q = m.length := ⟨_, rfl⟩
  rw [← hn] at hcx hh hl ⊢
  rw [← hq] at hcy hg hm ⊢
  have HB := Lib.hid (((Below.refl w.heap.size w).alloc (Nat.le_refl _) (.cells #[.slice x n cx] 32)).alloc (Nat.le_trans (Nat.le_refl _) (by simp)) (.cells #[.slice y q cy] 32))
  have HN := Lib.hid hn; have HQ := Lib.hid hq; have HH := Lib.hid (hh.on HB.out); have HG := Lib.hid (hg.on HB.out)
  clear hn hq h hh g hg
  go_enter Tryz.func139, Tryz.ntmps139
  go_wp2_with fail
  go_loopw [5] (fun i wr => ∃ k nq : Nat, k ≤ n ∧ k ≤ q ∧ i = .int .i64 k ∧ wr = ((w.alloc (.cells #[.slice x n cx] 32)).alloc (.cells #[.slice y q cy] 32)).drewN nq ∧ Hid (cmpL l m = cmpL (l.drop k) (m.drop k))) (fun i _ => n - (intOf i).toNat)
  case atStart => exact ⟨0, 0, Nat.zero_le _, Nat.zero_le _, rfl, rfl, Lib.hid (by simp)⟩
  case round =>
    obtain ⟨k, nq, hk, hkq, rfl, rfl, hc⟩ := hrel
    by_cases hlt : k < n
    · have hlen := HN.out
      by_cases hlq : k < q
      · have hlen2 := HQ.out
        obtain ⟨b, off, rfl, hcx1⟩ := HH.out.at (j := k) (by omega)
        obtain ⟨b', off', rfl, hcy1⟩ := HG.out.at (j := k) (by omega)
        by_cases hd : cmpS (nth l k) (nth m k) = 0
        · have HC := Lib.hid (hc.out.trans (cmpL_same (by omega) (by omega) hd))
          have HD := Lib.hid hd
          clear hlen hlen2 hd
          go_wp2_with fail
          go_quiet ((go_at_call 191; first | exact quiet_add_left (l4CmpV _ _ 0 _ HD.out) | exact quiet_left (l4CmpV _ _ 0 _ HD.out)))
          go_wp2_with fail
          go_roundw
          case rel => exact ⟨k + 1, _, by omega, by omega, by go_num, rfl, HC⟩
          case measure => simp [intOf]; omega
        · have HC := Lib.hid (hc.out.trans (cmpL_diff (by omega) (by omega) hd))
          obtain ⟨c, hce⟩ : ∃ c, c = cmpS (nth l k) (nth m k) := ⟨_, rfl⟩
          have HE := Lib.hid hce
          rw [← hce] at hd
          have hd2 : (c != 0) = true := by simpa using hd
          have hcin := cmpS_in (nth l k) (nth m k)
          rw [← hce] at hcin
          obtain ⟨hc1, hc2⟩ := hcin
          clear hlen hlen2 hd hce
          go_wp2_with fail
          go_quiet ((go_at_call 191; first | exact quiet_add_left (l4CmpV _ _ c _ HE.out.symm) | exact quiet_left (l4CmpV _ _ c _ HE.out.symm)))
          go_wp2_with fail
          go_ret
          exact ⟨ret_int (HE.out.trans HC.out.symm), below_drewN HB.out _⟩
      · obtain rfl : k = q := by omega
        have HC := Lib.hid (hc.out.trans (cmpL_long (by omega) HQ.out))
        clear hlen
        go_wp2
        go_ret
        exact ⟨ret_int HC.out.symm, below_drewN HB.out _⟩
    · obtain rfl : k = n := by omega
      by_cases hlq : k < q
      · have HC := Lib.hid (hc.out.trans (cmpL_short HN.out (by have := HQ.out; omega)))
        go_wp2
        go_ret
        exact ⟨ret_int HC.out.symm, below_drewN HB.out _⟩
      · obtain rfl : k = q := by omega
        have HC := Lib.hid (hc.out.trans (cmpL_both HN.out HQ.out))
        go_wp2
        go_ret
        exact ⟨ret_int HC.out.symm, below_drewN HB.out _⟩

end Go.Proofs.YtcidfmmeonhkhaaGreatDoor.Row
/- Contracts of the integer functions of chapter 1 (without the texts): each returns the plain integer that its definition below says. The functions that only compute leave the world alone; Min and Max make one new block. No conditions but that the arguments fit their kind where sums are formed. -/
namespace Go.Proofs.YtcidfmmeonhkhaaGreatDoor.Num
open Go.ChangeShapes Go.WideShapes Go.ChangeAt Go.RowKit
set_option linter.unusedVariables false
set_option maxRecDepth 100000

def inB (n a b : Int) : Bool := decide (a ≤ n ∧ n ≤ b)

theorem inB_true {n a b : Int} (h1 : a ≤ n) (h2 : n ≤ b) : inB n a b = true := by simp [inB, h1, h2]
theorem inB_false1 {n a b : Int} (h1 : ¬ a ≤ n) : inB n a b = false := by simp [inB, h1]
theorem inB_false2 {n a b : Int} (h2 : ¬ n ≤ b) : inB n a b = false := by simp [inB, h2]

theorem implInRange (n a b : Int) (w : World) :
    Calls Tryz.prog 134 #[.int .i64 n, .int .i64 a, .int .i64 b] w fun e w' => e = .returned (.bool (inB n a b)) ∧ w = w' := by
  by_cases h1 : a ≤ n
  · by_cases h2 : n ≤ b
    · rw [inB_true h1 h2]
      go_enter Tryz.func134, Tryz.ntmps134
      go_wp2
      go_ret
      exact ⟨rfl, rfl⟩
    · rw [inB_false2 h2]
      go_enter Tryz.func134, Tryz.ntmps134
      go_wp2
      go_ret
      exact ⟨rfl, rfl⟩
  · rw [inB_false1 h1]
    go_enter Tryz.func134, Tryz.ntmps134
    go_wp2
    go_ret
    exact ⟨rfl, rfl⟩

theorem specIn (n a b : Int) (w : World) :
    Calls Tryz.prog 136 #[.int .i64 n, .int .i64 a, .int .i64 b] w fun e w' => e = .returned (.bool (inB n a b)) ∧ w = w' := by
  by_cases h1 : a ≤ n
  · by_cases h2 : n ≤ b
    · rw [inB_true h1 h2]
      go_enter Tryz.func136, Tryz.ntmps136
      go_wp2
      go_ret
      exact ⟨rfl, rfl⟩
    · rw [inB_false2 h2]
      go_enter Tryz.func136, Tryz.ntmps136
      go_wp2
      go_ret
      exact ⟨rfl, rfl⟩
  · rw [inB_false1 h1]
    go_enter Tryz.func136, Tryz.ntmps136
    go_wp2
    go_ret
    exact ⟨rfl, rfl⟩

theorem specIn_true {n a b : Int} (h1 : a ≤ n) (h2 : n ≤ b) (w : World) :
    Calls Tryz.prog 136 #[.int .i64 n, .int .i64 a, .int .i64 b] w fun e w' => e = .returned (.bool true) ∧ w = w' := by
  have := specIn n a b w
  rwa [inB_true h1 h2] at this
theorem specIn_false {n a b : Int} (h : ¬ (a ≤ n ∧ n ≤ b)) (w : World) :
    Calls Tryz.prog 136 #[.int .i64 n, .int .i64 a, .int .i64 b] w fun e w' => e = .returned (.bool false) ∧ w = w' := by
  have := specIn n a b w
  have e : inB n a b = false := by simpa [inB] using h
  rwa [e] at this
theorem implIn_true {n a b : Int} (h1 : a ≤ n) (h2 : n ≤ b) (w : World) :
    Calls Tryz.prog 134 #[.int .i64 n, .int .i64 a, .int .i64 b] w fun e w' => e = .returned (.bool true) ∧ w = w' := by
  have := implInRange n a b w
  rwa [inB_true h1 h2] at this
theorem implIn_false {n a b : Int} (h : ¬ (a ≤ n ∧ n ≤ b)) (w : World) :
    Calls Tryz.prog 134 #[.int .i64 n, .int .i64 a, .int .i64 b] w fun e w' => e = .returned (.bool false) ∧ w = w' := by
  have := implInRange n a b w
  have e : inB n a b = false := by simpa [inB] using h
  rwa [e] at this

def minI (a b : Int) : Int := if b < a then b else a
def maxI (a b : Int) : Int := if a < b then b else a

def ceilI (a b : Int) : Int := if 0 ≤ a ∧ a ≤ 1000000000000 ∧ 1 ≤ b ∧ b ≤ 1000000000000 then (a + b - 1) / b else 0
def modI (n m : Int) : Int := if 1 ≤ m ∧ m ≤ 1000000000000 then n % m else 0
theorem modI_out {n m : Int} (h : ¬ (1 ≤ m ∧ m ≤ 1000000000000)) : modI n m = 0 := by
  unfold modI; rw [if_neg h]
theorem tmod_hi (n m : Int) (h : 1 ≤ m) : n.tmod m < m := Int.tmod_lt_of_pos n (by omega)
theorem tmod_lo (n m : Int) (h : 1 ≤ m) : -m < n.tmod m := by
  have := Int.lt_tmod_of_pos n (b := m) (by omega)
  omega
theorem modI_pos {n m : Int} (h1 : 1 ≤ m) (h2 : m ≤ 1000000000000) (h : ¬ n.tmod m < 0) : modI n m = n.tmod m := by
  unfold modI; rw [if_pos ⟨h1, h2⟩]
  have e := Int.tmod_add_mul_tdiv n m
  have hh := tmod_hi n m h1
  have : n.tmod m = n % m := by
    rw [← Int.emod_eq_of_lt (a := n.tmod m) (b := m) (by omega) hh]
    have e2 : n = n.tmod m + m * n.tdiv m := e.symm
    conv => rhs; rw [e2]
    rw [Int.add_mul_emod_self_left]
  omega
theorem modI_neg {n m : Int} (h1 : 1 ≤ m) (h2 : m ≤ 1000000000000) (h : n.tmod m < 0) : modI n m = n.tmod m + m := by
  unfold modI; rw [if_pos ⟨h1, h2⟩]
  have e := Int.tmod_add_mul_tdiv n m
  have hl := tmod_lo n m h1
  have : n.tmod m + m = n % m := by
    rw [← Int.emod_eq_of_lt (a := n.tmod m + m) (b := m) (by omega) (by omega)]
    have e2 : n = n.tmod m + m * n.tdiv m := e.symm
    conv => rhs; rw [e2]
    rw [Int.add_mul_emod_self_left, Int.add_emod_right]
  omega
theorem modI_spec {n m : Int} (h1 : 1 ≤ m) (h2 : m ≤ 1000000000000) : modI n m = (n.tmod m + m) % m := by
  rw [Int.add_emod_right]
  unfold modI; rw [if_pos ⟨h1, h2⟩]
  have e := Int.tmod_add_mul_tdiv n m
  have e2 : n = n.tmod m + m * n.tdiv m := e.symm
  conv => lhs; rw [e2]
  rw [Int.add_mul_emod_self_left]

theorem modI_nonneg (p : Int) {q : Int} (h : 1 ≤ q) : 0 ≤ modI p q := by
  unfold modI; split
  · exact Int.emod_nonneg _ (by omega)
  · omega
theorem modI_lt (p : Int) {q : Int} (h : 1 ≤ q) : modI p q < q := by
  unfold modI; split
  · exact Int.emod_lt_of_pos _ (by omega)
  · omega

theorem implMod (n m : Int) (w : World) :
    Calls Tryz.prog 151 #[.int .i64 n, .int .i64 m] w fun e w' => e = .returned (.int .i64 (modI n m)) ∧ w = w' := by
  by_cases h1 : 1 ≤ m
  · by_cases h2 : m ≤ 1000000000000
    · have hl := tmod_lo n m h1
      have hh := tmod_hi n m h1
      by_cases h3 : n.tmod m < 0
      · rw [modI_neg h1 h2 h3]
        go_enter Tryz.func151, Tryz.ntmps151
        go_wp2
        go_ret
        exact ⟨rfl, rfl⟩
      · rw [modI_pos h1 h2 h3]
        go_enter Tryz.func151, Tryz.ntmps151
        go_wp2
        go_ret
        exact ⟨rfl, rfl⟩
    · rw [modI_out (fun h => h2 h.2)]
      go_enter Tryz.func151, Tryz.ntmps151
      go_wp2
      go_ret
      exact ⟨rfl, rfl⟩
  · rw [modI_out (fun h => h1 h.1)]
    go_enter Tryz.func151, Tryz.ntmps151
    go_wp2
    go_ret
    exact ⟨rfl, rfl⟩

theorem specMod (n m : Int) (w : World) :
    Calls Tryz.prog 152 #[.int .i64 n, .int .i64 m] w fun e w' => e = .returned (.int .i64 (modI n m)) ∧ w = w' := by
  by_cases h1 : 1 ≤ m
  · by_cases h2 : m ≤ 1000000000000
    · have hl := tmod_lo n m h1
      have hh := tmod_hi n m h1
      rw [modI_spec h1 h2]
      go_enter Tryz.func152, Tryz.ntmps152
      go_wp2
      go_ret
      exact ⟨rfl, rfl⟩
    · rw [modI_out (fun h => h2 h.2)]
      go_enter Tryz.func152, Tryz.ntmps152
      go_wp2
      go_ret
      exact ⟨rfl, rfl⟩
  · rw [modI_out (fun h => h1 h.1)]
    go_enter Tryz.func152, Tryz.ntmps152
    go_wp2
    go_ret
    exact ⟨rfl, rfl⟩

end Go.Proofs.YtcidfmmeonhkhaaGreatDoor.Num
/- Contracts of Truncate, EqualNames and HasPrefix, the program's and the reference model's. No conditions but that lengths fit. -/
namespace Go.Proofs.YtcidfmmeonhkhaaGreatDoor.Row
open Go.ChangeShapes Go.WideShapes Go.ChangeAt Go.RowKit Go.Instr
set_option linter.unusedVariables false
set_option maxRecDepth 100000

section
variable {α : Type} [Inhabited α] {enc : α → Value} {w : World} {x : Option Addr} {n cap : Nat} {l : List α}
theorem Holds.take (h : Holds enc w (.slice x n cap) l) {j : Nat} (hj : j ≤ l.length) : Holds enc w (.slice x j cap) (l.take j) := by
  obtain ⟨x', cap', hv, hc, hh⟩ := h
  cases hv
  have hl : (l.take j).length = j := by simp; omega
  refine ⟨x, cap, by rw [hl], by omega, ?_⟩
  rcases hh with rfl | ⟨b, off, hx, hh⟩
  · left; simp
  · refine Or.inr ⟨b, off, hx, fun i hi => ?_⟩
    rw [hl] at hi
    rw [hh i (by omega), nth_eq (by omega), nth_eq (by omega)]
    simp
theorem Holds.drop {b off : Nat} (h : Holds enc w (.slice (some ⟨b, off, none⟩) n cap) l) {j : Nat} (hj : j ≤ l.length) : Holds enc w (.slice (some ⟨b, off + j, none⟩) (n - j) (cap - j)) (l.drop j) := by
  obtain ⟨x', cap', hv, hc, hh⟩ := h
  cases hv
  have hl : (l.drop j).length = l.length - j := by simp
  refine ⟨_, cap - j, by rw [hl], by omega, ?_⟩
  rcases hh with rfl | ⟨b', off', hx, hh⟩
  · left; simp
  · cases hx
    refine Or.inr ⟨b, off + j, rfl, fun i hi => ?_⟩
    rw [hl] at hi
    rw [Nat.add_assoc, hh (j + i) (by omega), nth_eq (by omega), nth_eq (by omega)]
    simp
end

/-- What a call that returns a name of its own leaves; a name and a bool; a name that lies somewhere. -/
def GivesN (w : World) (l : List ByteArray) (e : Ending) (w' : World) : Prop := ∃ v, e = .returned (.agg #[v]) ∧ Own 9 Value.string w.heap.size w' v l ∧ Below w.heap.size w w'
def GivesNB (w : World) (l : List ByteArray) (b : Bool) (e : Ending) (w' : World) : Prop := ∃ v, e = .returned (.tuple #[.agg #[v], .bool b]) ∧ Own 9 Value.string w.heap.size w' v l ∧ Below w.heap.size w w'
def GivesHB (w : World) (l : List ByteArray) (b : Bool) (e : Ending) (w' : World) : Prop := ∃ v, e = .returned (.tuple #[.agg #[v], .bool b]) ∧ Holds Value.string w' v l ∧ Below w.heap.size w w'

def trI (l : List ByteArray) (k : Int) : Nat := (Num.maxI 0 (Num.minI k l.length)).toNat
def trN (l : List ByteArray) (k : Int) : List ByteArray := l.take (trI l k)
theorem aggN : Ret.AggOf Tryz.prog 32 1 := by unfold Ret.AggOf; exact ⟨by kernel_rfl, by kernel_rfl⟩

/-- A name lies in its result cell: the last step of a function that returns a name. -/
theorem endN {w w1 : World} {g B : Nat} {v u : Value} {l : List ByteArray} (hw : w.heap.size ≤ g) (hgB : g < B) (ho : Own 9 Value.string B w1 v l) (hc : w1.cell? ⟨g, 0, none⟩ = some u) (hb : Below w.heap.size w w1) :
    (w1.setCell ⟨g, 0, none⟩ v).cell? ⟨g, 0, none⟩ = some v ∧ Own 9 Value.string w.heap.size (w1.setCell ⟨g, 0, none⟩ v) v l ∧ Below w.heap.size w (w1.setCell ⟨g, 0, none⟩ v) :=
  ⟨Ret.set_same hc, (ho.grown (Ret.grownBy_set w1 ⟨g, 0, none⟩ v) (nb ho hgB)).mono (by omega), hb.setCell hw _⟩

end Go.Proofs.YtcidfmmeonhkhaaGreatDoor.Row
/- Contracts of EqualNames and HasPrefix, the program's and the reference model's. No conditions but that lengths fit. -/
namespace Go.Proofs.YtcidfmmeonhkhaaGreatDoor.Row
open Go.ChangeShapes Go.WideShapes Go.ChangeAt Go.RowKit Go.Instr
set_option linter.unusedVariables false
set_option maxRecDepth 100000

theorem less_irrefl : ∀ l : List UInt8, Op.bytesLess l l = false
  | [] => rfl
  | a :: x => by
    rw [Op.bytesLess, less_irrefl x]
    have : decide (a < a) = false := by simp
    simp
theorem cmpS_zero {a b : ByteArray} : cmpS a b = 0 ↔ a = b := by
  constructor
  · intro h
    unfold cmpS at h
    split at h
    · omega
    · split at h
      · rename_i _ h2; exact toList_inj h2
      · omega
  · rintro rfl
    unfold cmpS
    rw [less_irrefl]; simp
theorem cmpL_zero : ∀ {l m : List ByteArray}, cmpL l m = 0 ↔ l = m
  | [], [] => by simp [cmpL]
  | [], _ :: _ => by simp [cmpL]
  | _ :: _, [] => by simp [cmpL]
  | a :: x, b :: y => by
    unfold cmpL
    by_cases h : cmpS a b = 0
    · rw [if_pos h, cmpL_zero, cmpS_zero.1 h]; simp
    · rw [if_neg h]
      have : a ≠ b := fun e => h (cmpS_zero.2 e)
      constructor
      · intro e; exact absurd e h
      · intro e; cases e; exact absurd rfl this
theorem eqB_cmp (l m : List ByteArray) : eqB l m = (cmpL l m == 0) := by
  unfold eqB
  by_cases h : l = m
  · have := cmpL_zero.2 h
    simp [h, cmpL_zero.2]
  · have h2 : cmpL l m ≠ 0 := fun e => h (cmpL_zero.1 e)
    simp [h, h2]

set_option maxHeartbeats 1000000 in
theorem implEqualNames (v u : Value) (l m : List ByteArray) (w : World) (h : Holds Value.string w v l) (g : Holds Value.string w u m) (hl : l.length ≤ 140737488351232) (hm : m.length ≤ 140737488351232) :
    Calls Tryz.prog 66 #[.agg #[v], .agg #[u]] w fun e w' => e = .returned (.bool (eqB l m)) ∧ Below w.heap.size w w' := by
  obtain ⟨x, cx, rfl, hcx, hh⟩ := h.shape
  obtain ⟨y, cy, rfl, hcy, hg⟩ := g.shape
  have HH := Lib.hid hh; have HG := Lib.hid hg
  clear hh h hg g
  go_enter Tryz.func66, Tryz.ntmps66
  go_wp2_with fail
  have HB := Lib.hid (((Below.refl w.heap.size w).alloc (Nat.le_refl _) (.cells #[.slice x l.length cx] 32)).alloc (Nat.le_trans (Nat.le_refl _) (by simp)) (.cells #[.slice y m.length cy] 32))
  have HA := Lib.hid (HH.out.on HB.out); have HC := Lib.hid (HG.out.on HB.out)
  refine (libEqS _ _ l m _ HA.out HC.out hl hm).mono ?_
  rintro e w' ⟨rfl, hb⟩
  have HB2 := Lib.hid (HB.out.trans (hb.mono (by simp; omega))); clear hb
  go_wp2
  go_ret
  exact ⟨rfl, HB2.out⟩

set_option maxHeartbeats 1000000 in
theorem specEqualNames (v u : Value) (l m : List ByteArray) (w : World) (h : Holds Value.string w v l) (g : Holds Value.string w u m) (hl : l.length ≤ 140737488351232) (hm : m.length ≤ 140737488351232) :
    Calls Tryz.prog 70 #[.agg #[v], .agg #[u]] w fun e w' => e = .returned (.bool (eqB l m)) ∧ Below w.heap.size w w' := by
  obtain ⟨x, cx, rfl, hcx, hh⟩ := h.shape
  obtain ⟨y, cy, rfl, hcy, hg⟩ := g.shape
  have HH := Lib.hid hh; have HG := Lib.hid hg
  have HE := Lib.hid (eqB_cmp l m)
  clear hh h hg g
  go_enter Tryz.func70, Tryz.ntmps70
  go_wp2_with fail
  have HB := Lib.hid (((Below.refl w.heap.size w).alloc (Nat.le_refl _) (.cells #[.slice x l.length cx] 32)).alloc (Nat.le_trans (Nat.le_refl _) (by simp)) (.cells #[.slice y m.length cy] 32))
  have HA := Lib.hid (HH.out.on HB.out); have HC := Lib.hid (HG.out.on HB.out)
  refine (specCompareNames _ _ l m _ HA.out HC.out hl hm).mono ?_
  rintro e w' ⟨rfl, hb⟩
  have HB2 := Lib.hid (HB.out.trans (hb.mono (by simp; omega))); clear hb
  go_wp2
  go_ret
  exact ⟨ret_bool HE.out.symm, HB2.out⟩

def hpB (l m : List ByteArray) : Bool := decide (m.length ≤ l.length ∧ l.take m.length = m)
end Go.Proofs.YtcidfmmeonhkhaaGreatDoor.Row
/- What the exact laws on names use besides the contracts: a name that came in as an argument; equal names compared; blocks that differ. No conditions. -/
namespace Go.Proofs.YtcidfmmeonhkhaaGreatDoor.Row
open Go.ChangeShapes Go.WideShapes Go.ChangeAt Go.RowKit Go.Instr
set_option linter.unusedVariables false
set_option maxRecDepth 100000

/-- Two slices never lie in one block. -/
def Apart (v u : Value) : Prop := ∀ g, v.ownBlock = some g → u.ownBlock ≠ some g
theorem Apart.symm {v u : Value} (h : Apart v u) : Apart u v := fun g h1 h2 => h g h2 h1
theorem apart_or {v u : Value} (h : Apart v u) : v.ownBlock = none ∨ v.ownBlock ≠ u.ownBlock := by
  cases hv : v.ownBlock with
  | none => exact Or.inl rfl
  | some g => exact Or.inr fun he => h g hv he.symm
/-- v lies below block B, if it holds anything. -/
def Far {α : Type} [Inhabited α] (enc : α → Value) (B : Nat) (w : World) (v : Value) (l : List α) : Prop :=
  ∃ x cap, v = .slice x l.length cap ∧ l.length ≤ cap ∧ (l = [] ∨ ∃ b off, x = some ⟨b, off, none⟩ ∧ b < B ∧ ∀ j, j < l.length → w.cell? ⟨b, off + j, none⟩ = some (enc (nth l j)))
section
variable {α : Type} [Inhabited α] {enc : α → Value} {B : Nat} {w w' : World} {v : Value} {l : List α}
theorem Holds.far (h : Holds enc w v l) : Far enc w.heap.size w v l := by
  obtain ⟨x, cap, hv, hc, hh⟩ := h
  refine ⟨x, cap, hv, hc, ?_⟩
  rcases hh with h1 | ⟨b, off, hx, h2⟩
  · exact Or.inl h1
  · by_cases hl : l = []
    · exact Or.inl hl
    · exact Or.inr ⟨b, off, hx, cell_lt (h2 0 (List.length_pos_iff.2 hl)), h2⟩
theorem Far.holds (h : Far enc B w v l) : Holds enc w v l := by
  obtain ⟨x, cap, hv, hc, hh⟩ := h
  refine ⟨x, cap, hv, hc, ?_⟩
  rcases hh with h1 | ⟨b, off, hx, _, h2⟩
  · exact Or.inl h1
  · exact Or.inr ⟨b, off, hx, h2⟩
theorem Far.on (h : Far enc B w v l) (hb : Below w.heap.size w w') : Far enc B w' v l := by
  obtain ⟨x, cap, hv, hc, hh⟩ := h
  refine ⟨x, cap, hv, hc, ?_⟩
  rcases hh with h1 | ⟨b, off, hx, hlt, h2⟩
  · exact Or.inl h1
  · exact Or.inr ⟨b, off, hx, hlt, fun j hj => by rw [hb.cell (cell_lt (h2 j hj))]; exact h2 j hj⟩
theorem Far.grown (h : Far enc B w v l) {row : Option Nat} (hg : w.grownBy w' row) (hr : ∀ g, row = some g → B ≤ g) : Far enc B w' v l := by
  obtain ⟨x, cap, hv, hc, hh⟩ := h
  refine ⟨x, cap, hv, hc, ?_⟩
  rcases hh with h1 | ⟨b, off, hx, hlt, h2⟩
  · exact Or.inl h1
  · exact Or.inr ⟨b, off, hx, hlt, fun j hj => hg.cell (h2 j hj) (fun e => by have := hr b e.symm; omega)⟩
/-- u's block, if it has one, is from B on. -/
def Over (B : Nat) (u : Value) : Prop := ∀ g, u.ownBlock = some g → B ≤ g
end

/-- A slice of strings as it is read. -/
theorem open_strs1 {H : Type} {enc : TypeId × Value → H} {P : Program} {w : World} {b2 n : Nat} {held : Bool} {e s : TypeId} {cs : List Value} {y0 : DataW H × List MemPlace} (he : P.underlying e = some (.slice s)) (hs : P.underlying s = some .string) (hcs : P.cellsOf s = 1)
    (h0 : DataW.trod enc P w b2 (fun _ => true) held n e cs = some y0) : ∃ (ad : Option Addr) (k c : Nat) (l : List ByteArray), cs = [.slice ad k c] ∧ Holds Value.string w (.slice ad k c) l ∧ (∀ x ∈ l, x.size ≤ maxLen) ∧ l.length ≤ 9223372036854775807 := by
  have hmx : maxLen = 9223372036854775807 := rfl
  rcases Deep.open_strs he hs hcs h0 with ⟨hc, hx⟩ | ⟨a, len, cap, m, Sx, hc, hb, hl, hm, hmm, hx, hi⟩
  · exact ⟨none, 0, 0, [], hc, Holds.nil _ _, by simp, by simp⟩
  · simp only [if_true] at hmm
    have hL : ((List.range len).map Sx).length = len := by simp
    refine ⟨some a, len, cap, (List.range len).map Sx, hc, ⟨some a, cap, by rw [hL], by rw [hL]; exact hl, ?_⟩, ?_, by rw [hL, ← hmx]; exact Nat.le_trans hl hm⟩
    · by_cases h0 : len = 0
      · left; subst h0; simp
      · right
        obtain ⟨b, off, spot⟩ := a
        have h1 := (hi 0 (by omega)).1
        have hs : spot = none := by simpa [Addr.add] using World.cell?_spot h1
        subst hs
        refine ⟨b, off, rfl, fun i hii => ?_⟩
        rw [hL] at hii
        have h2 := (hi i (by omega)).1
        rw [Go.WideShapes.add_plain] at h2
        rw [h2, nth_eq (by rw [hL]; exact hii)]
        simp
    · intro x hx
      obtain ⟨i, hi2, rfl⟩ := List.mem_map.1 hx
      exact (hi i (by have := List.mem_range.1 hi2; omega)).2

end Go.Proofs.YtcidfmmeonhkhaaGreatDoor.Row
/- Slices of elements of several cells (structs) in memory, for any program: a slice value that holds a list; a slice in blocks of the call's own that holds a list; what keeps both; appending, storing. No conditions but that lengths fit. -/
namespace Go.Proofs.YtcidfmmeonhkhaaGreatDoor.Row
open Go.ChangeShapes Go.WideShapes Go.ChangeAt Go.RowKit
set_option linter.unusedVariables false
set_option maxRecDepth 100000

/-- Every element is written in so many cells. -/
def Sz {α : Type} (enc : α → List Value) (sz : Nat) : Prop := ∀ x, (enc x).length = sz
def flat {α : Type} (enc : α → List Value) (l : List α) : List Value := l.flatMap enc

section
variable {α : Type} {enc : α → List Value} {sz : Nat}
theorem flat_length (hs : Sz enc sz) (l : List α) : (flat enc l).length = l.length * sz := by
  unfold flat
  induction l with
  | nil => simp
  | cons a r ih => rw [List.flatMap_cons, List.length_append, ih, hs a, List.length_cons, Nat.add_mul]; omega
theorem flat_append (l m : List α) : flat enc (l ++ m) = flat enc l ++ flat enc m := by simp [flat]
theorem flat_one (x : α) : flat enc [x] = enc x := by simp [flat]
theorem flat_at [Inhabited α] (hs : Sz enc sz) : ∀ (l : List α) (j i : Nat), j < l.length → i < sz → (flat enc l)[j * sz + i]? = (enc (nth l j))[i]?
  | a :: r, 0, i, _, hi => by
    unfold flat
    rw [List.flatMap_cons, List.getElem?_append_left (by rw [hs a]; omega)]
    simp [nth]
  | a :: r, j + 1, i, hj, hi => by
    have ih := flat_at hs r j i (by simpa using hj) hi
    unfold flat at *
    rw [List.flatMap_cons, List.getElem?_append_right (by rw [hs a, Nat.add_mul]; omega), hs a, show (j + 1) * sz + i - sz = j * sz + i by rw [Nat.add_mul]; omega, ih]
    simp [nth]
theorem flat_set [Inhabited α] (hs : Sz enc sz) {y : α} {u : Value} {i : Nat} (hi : i < sz) : ∀ (l : List α) (j : Nat), j < l.length → enc y = (enc (nth l j)).set i u → (flat enc l).set (j * sz + i) u = flat enc (l.set j y)
  | a :: r, 0, _, he => by
    have he : enc y = (enc a).set i u := by simpa [nth] using he
    unfold flat
    rw [List.flatMap_cons, List.set_cons_zero, List.flatMap_cons, List.set_append_left _ _ (by rw [hs a]; omega), he]
    simp
  | a :: r, j + 1, hj, he => by
    have ih := flat_set hs hi r j (by simpa using hj) (by simpa [nth] using he)
    unfold flat at *
    rw [List.flatMap_cons, List.set_cons_succ, List.flatMap_cons, List.set_append_right _ _ (by rw [hs a, Nat.add_mul]; omega), hs a, show (j + 1) * sz + i - sz = j * sz + i by rw [Nat.add_mul]; omega, ih]
theorem flat_one' (h1c : ∀ x, ∀ u ∈ enc x, u.oneCell' = true) (l : List α) : ∀ u ∈ flat enc l, u.oneCell' = true := by
  intro u hu
  unfold flat at hu
  obtain ⟨x, _, hx⟩ := List.mem_flatMap.1 hu
  exact h1c x u hx
end

/-- The slice value v holds the elements l, each written in sz cells by enc, in the world w. -/
def HoldsK {α : Type} (enc : α → List Value) (sz : Nat) (w : World) (v : Value) (l : List α) : Prop :=
  ∃ x cap, v = .slice x l.length cap ∧ l.length ≤ cap ∧ (l = [] ∨ ∃ b off, x = some ⟨b, off, none⟩ ∧ ∀ j, j < l.length * sz → ∃ u, (flat enc l)[j]? = some u ∧ w.cell? ⟨b, off + j, none⟩ = some u)
/-- The slice value v lies at the head of a row of its own, in a block from B on, and holds l. -/
def OwnK {α : Type} (e : TypeId) (enc : α → List Value) (sz : Nat) (B : Nat) (w : World) (v : Value) (l : List α) : Prop := w.ownsRow B e sz v l.length (flat enc l)

section
variable {α : Type} {enc : α → List Value} {sz : Nat} {e : TypeId} {B : Nat} {w w' : World} {v : Value} {l : List α}

theorem OwnK.form (h : OwnK e enc sz B w v l) : (v = .slice none 0 0 ∧ l = []) ∨ ∃ g cap, v = .slice (some ⟨g, 0, none⟩) l.length cap ∧ B ≤ g ∧ g < w.heap.size ∧ l.length ≤ cap ∧ cap ≤ maxLen := by
  rcases h.2 with ⟨hv, hn⟩ | ⟨g, cap, cur, hv, hg, hh, h1, h2, h3, h4⟩
  · exact Or.inl ⟨hv, List.eq_nil_of_length_eq_zero hn⟩
  · exact Or.inr ⟨g, cap, hv, hg, (Array.getElem?_eq_some_iff.1 hh).1, h1, h2⟩
theorem OwnK.holds (h : OwnK e enc sz B w v l) : HoldsK enc sz w v l := by
  rcases h.form with ⟨rfl, rfl⟩ | ⟨g, cap, rfl, h1, h2, h3, h4⟩
  · exact ⟨none, 0, rfl, by simp, Or.inl rfl⟩
  · refine ⟨_, cap, rfl, h3, ?_⟩
    by_cases hl : l = []
    · exact Or.inl hl
    · refine Or.inr ⟨g, 0, rfl, fun j hj => ?_⟩
      have h5 := World.ownsRow.cellAt h j hj
      have h6 : (flat enc l)[j]? = some ((flat enc l)[j]'(by rw [h.1]; exact hj)) := List.getElem?_eq_getElem _
      exact ⟨_, h6, by rw [Nat.zero_add, h5]; exact h6⟩
theorem OwnK.lt (h : OwnK e enc sz B w v l) : ∀ g, v.ownBlock = some g → B ≤ g ∧ g < w.heap.size := World.ownsRow.lt h
theorem OwnK.grown (h : OwnK e enc sz B w v l) {row : Option Nat} (hg : w.grownBy w' row) (hne : v.ownBlock = none ∨ v.ownBlock ≠ row) : OwnK e enc sz B w' v l := World.ownsRow.kept h hg hne
theorem OwnK.on (h : OwnK e enc sz B w v l) (hb : Below w.heap.size w w') : OwnK e enc sz B w' v l := by
  refine World.ownsRow.kept h (grown_of_below hb none) ?_
  cases hv : v.ownBlock <;> simp
theorem OwnK.mono (h : OwnK e enc sz B w v l) {B' : Nat} (hB : B' ≤ B) : OwnK e enc sz B' w v l := by
  refine ⟨h.1, ?_⟩
  rcases h.2 with h2 | ⟨g, cap, cur, hv, hg, r⟩
  · exact Or.inl h2
  · exact Or.inr ⟨g, cap, cur, hv, Nat.le_trans hB hg, r⟩
theorem OwnK.nil (e : TypeId) (enc : α → List Value) (sz B : Nat) (w : World) : OwnK e enc sz B w (.slice none 0 0) [] := World.ownsRow_nil w B e sz
theorem OwnK.len (h : OwnK e enc sz B w v l) : l.length ≤ maxLen := by
  rcases h.form with ⟨rfl, rfl⟩ | ⟨g, cap, rfl, h1, h2, h3, h4⟩
  · simp
  · omega
theorem HoldsK.on (h : HoldsK enc sz w v l) (hb : Below w.heap.size w w') : HoldsK enc sz w' v l := by
  obtain ⟨x, cap, hv, hc, h⟩ := h
  refine ⟨x, cap, hv, hc, ?_⟩
  rcases h with h | ⟨b, off, hx, h⟩
  · exact Or.inl h
  · refine Or.inr ⟨b, off, hx, fun j hj => ?_⟩
    obtain ⟨u, h1, h2⟩ := h j hj
    exact ⟨u, h1, by rw [hb.cell (cell_lt h2)]; exact h2⟩
theorem HoldsK.nil (enc : α → List Value) (sz : Nat) (w : World) : HoldsK enc sz w (.slice none 0 0) [] := ⟨none, 0, rfl, by simp, Or.inl rfl⟩
theorem HoldsK.shape (h : HoldsK enc sz w v l) : ∃ x cap, v = .slice x l.length cap ∧ l.length ≤ cap ∧ HoldsK enc sz w (.slice x l.length cap) l := by
  obtain ⟨x, cap, hv, hc, h⟩ := h
  exact ⟨x, cap, hv, hc, x, cap, rfl, hc, h⟩
theorem OwnK.shape (h : OwnK e enc sz B w v l) : ∃ x cap, v = .slice x l.length cap ∧ l.length ≤ cap ∧ OwnK e enc sz B w (.slice x l.length cap) l := by
  rcases h.form with ⟨rfl, rfl⟩ | ⟨g, cap, rfl, h1, h2, h3, h4⟩
  · exact ⟨none, 0, rfl, by simp, h⟩
  · exact ⟨_, cap, rfl, h3, h⟩
theorem OwnK.shapeN (h : OwnK e enc sz B w v l) : ∃ x n cap, v = .slice x n cap ∧ n = l.length ∧ n ≤ cap ∧ OwnK e enc sz B w (.slice x n cap) l := by
  obtain ⟨x, cap, rfl, hc, ho⟩ := h.shape
  exact ⟨x, _, cap, rfl, rfl, hc, ho⟩
theorem HoldsK.shapeN (h : HoldsK enc sz w v l) : ∃ x n cap, v = .slice x n cap ∧ n = l.length ∧ n ≤ cap ∧ HoldsK enc sz w (.slice x n cap) l := by
  obtain ⟨x, cap, rfl, hc, ho⟩ := h.shape
  exact ⟨x, _, cap, rfl, rfl, hc, ho⟩
theorem HoldsK.lenEq {x : Option Addr} {n cap : Nat} (h : HoldsK enc sz w (.slice x n cap) l) : n = l.length := by
  obtain ⟨x', cap', hv, hc, h⟩ := h
  cases hv; rfl
/-- The cells of element j: the address's block and offset, and what its cells hold. -/
theorem HoldsK.at [Inhabited α] (hs : Sz enc sz) {x : Option Addr} {n cap : Nat} (h : HoldsK enc sz w (.slice x n cap) l) {j : Nat} (hj : j < l.length) :
    ∃ b off, x = some ⟨b, off, none⟩ ∧ ∀ i, i < sz → w.cell? ⟨b, off + (j * sz + i), none⟩ = (enc (nth l j))[i]? := by
  obtain ⟨x', cap', hv, hc, h⟩ := h
  cases hv
  rcases h with rfl | ⟨b, off, hx, h⟩
  · simp at hj
  · refine ⟨b, off, hx, fun i hi => ?_⟩
    have hlt : j * sz + i < l.length * sz := by
      have : (j + 1) * sz ≤ l.length * sz := Nat.mul_le_mul_right _ hj
      rw [Nat.add_mul] at this; omega
    obtain ⟨u, h1, h2⟩ := h _ hlt
    rw [h2, ← flat_at hs l j i hj hi, h1]
theorem HoldsK.cells (hs : Sz enc sz) {ad : Addr} {n cap : Nat} (h : HoldsK enc sz w (.slice (some ad) n cap) l) : ∀ j u, (flat enc l)[j]? = some u → w.cell? (ad.add j) = some u := by
  intro j u hu
  have hj : j < l.length * sz := by have := (List.getElem?_eq_some_iff.1 hu).1; rwa [flat_length hs] at this
  obtain ⟨x', cap', hv, hc, h⟩ := h
  cases hv
  rcases h with rfl | ⟨b, off, hx, h⟩
  · simp [flat] at hu
  · cases hx
    obtain ⟨u', h1, h2⟩ := h j hj
    rw [Go.WideShapes.add_plain, h2, ← h1, hu]
theorem HoldsK.grown (h : HoldsK enc sz w v l) {row : Option Nat} (hg : w.grownBy w' row) (hne : ∀ g, v.ownBlock = some g → some g ≠ row) : HoldsK enc sz w' v l := by
  obtain ⟨x, cap, rfl, hc, h⟩ := h
  refine ⟨x, cap, rfl, hc, ?_⟩
  rcases h with h | ⟨b, off, rfl, h⟩
  · exact Or.inl h
  · refine Or.inr ⟨b, off, rfl, fun j hj => ?_⟩
    obtain ⟨u, h1, h2⟩ := h j hj
    exact ⟨u, h1, hg.cell h2 (hne b rfl)⟩
end

/-! ### append -/
def ElemK (P : Program) (e : TypeId) (z : Value) (sz bytes : Nat) : Prop := (P.info? e).map (fun i => (i.zero, i.size, i.bytes)) = some (some z, sz, bytes)
/-- What is asked of the kind of elements, once for all. -/
structure Kind {α : Type} (P : Program) (e : TypeId) (enc : α → List Value) (z : Value) (sz bytes : Nat) : Prop where
  elem : ElemK P e z sz bytes
  zs : z.cells.size = sz
  pos : 0 < sz
  size : Sz enc sz
  one : ∀ x, ∀ u ∈ enc x, u.oneCell' = true

section
variable {P : Program} {w : World} {ops : Array Oper} {rest : List Oper} {o : Oper} {a : Act} {Q : Exit → Act → World → Prop} {α : Type} {enc : α → List Value} {sz : Nat} {e t : TypeId} {bytes : Nat} {z : Value}

/-- append to a slice of the call's own, whatever is appended. -/
theorem wpList_appK_nn (K : Kind P e enc z sz bytes) (hgd : o.guard = none) (s x : Operand) (ho : o.op = .call { callee := .builtin .append, args := #[s, x], argTypes := #[t, t] }) (ht : P.underlying t = some (.slice e))
    {B : Nat} {v vx : Value} {l m : List α} (hs : a.eval s = v) (hx : a.eval x = vx) (hown : OwnK e enc sz B w v l) (hsrc : HoldsK enc sz w vx m) (hlen : (l.length + m.length) * bytes ≤ 140737488355328) (hmx : l.length + m.length ≤ maxLen) (hB : B ≤ w.heap.size)
    (h : ∀ v' w', OwnK e enc sz B w' v' (l ++ m) → w.grownBy w' v.ownBlock → (v ≠ .slice none 0 0 → v' ≠ .slice none 0 0) → wpList P ops Q rest (a.put o.dst v') w') : wpList P ops Q (o :: rest) a w := by
  obtain ⟨i, h1, h2, h3, h4⟩ := info_parts K.elem
  obtain ⟨ao, cap, rfl, hcap, hc⟩ := hsrc
  have hsrc : HoldsK enc sz w (.slice ao m.length cap) m := ⟨ao, cap, rfl, hcap, hc⟩
  have fin : ∀ v' w', w'.ownsRow B e sz v' (l.length + m.length) (flat enc l ++ flat enc m) → OwnK e enc sz B w' v' (l ++ m) := by
    intro v' w' hh
    unfold OwnK
    rw [List.length_append, flat_append]; exact hh
  cases ao with
  | some ad =>
    exact wpList_append_own w hgd s x t ho B e i z sz bytes ht h1 h2 h3 h4 K.zs K.pos v l.length _ hs hown ad m.length cap (flat enc m) hx (flat_length K.size m) (hsrc.cells K.size) (flat_one' K.one m) hmx hlen hB
      fun v' w' r1 r2 r3 => h v' w' (fin v' w' r1) r2 (fun hn he => hn (r3.1 he).1)
  | none =>
    rcases hc with rfl | ⟨b, off, hc, _⟩
    · refine wpList_plain hgd fun K hK => ?_
      have hrun : (Builtin.append_ #[t, t] o.type #[v, .slice none 0 cap]).run P w = .ok v w := by
        rcases hown.2 with ⟨rfl, hn⟩ | ⟨g, cap', cur, rfl, _, _, hnc, _⟩
        · simp [Builtin.append_, run_underlying ht, sizeOf, typeInfo, h1, Builtin.lenOf, Builtin.firstCells]
        · simp [Builtin.append_, run_underlying ht, sizeOf, typeInfo, h1, Builtin.lenOf, Builtin.firstCells, hnc, storeCells]
      have hx' : a.eval x = .slice none 0 cap := by simpa using hx
      unfold Oper.wp
      simp [execOp, ho, resolve, invoke, builtin, hs, hx', hrun, Result.andThen]
      exact hK _ _ (h v w (by simpa using hown) (World.grownBy.refl _ _) (fun hn => hn))
    · cases hc
theorem wpList_appK (K : Kind P e enc z sz bytes) (hgd : o.guard = none) (s x : Operand) (ho : o.op = .call { callee := .builtin .append, args := #[s, x], argTypes := #[t, t] }) (ht : P.underlying t = some (.slice e))
    {B : Nat} {v vx : Value} {l m : List α} (hs : a.eval s = v) (hx : a.eval x = vx) (hown : OwnK e enc sz B w v l) (hsrc : HoldsK enc sz w vx m) (hlen : (l.length + m.length) * bytes ≤ 140737488355328) (hmx : l.length + m.length ≤ maxLen) (hB : B ≤ w.heap.size)
    (h : ∀ v' w', OwnK e enc sz B w' v' (l ++ m) → w.grownBy w' v.ownBlock → wpList P ops Q rest (a.put o.dst v') w') : wpList P ops Q (o :: rest) a w :=
  wpList_appK_nn K hgd s x ho ht hs hx hown hsrc hlen hmx hB fun v' w' h1 h2 _ => h v' w' h1 h2
end

/-- A new block of one element; a new empty block. -/
theorem holdsK_one {α : Type} {enc : α → List Value} {sz : Nat} (hs : Sz enc sz) (e : TypeId) (w : World) (x : α) : HoldsK enc sz (w.alloc (.cells (enc x).toArray e)) (.slice (some ⟨w.heap.size, 0, none⟩) 1 1) [x] := by
  refine ⟨_, 1, rfl, by simp, Or.inr ⟨_, _, rfl, fun j hj => ?_⟩⟩
  have hj' : j < (enc x).length := by rw [hs x]; simpa using hj
  refine ⟨(enc x)[j], by rw [flat_one]; exact List.getElem?_eq_getElem hj', ?_⟩
  rw [Nat.zero_add, World.cell?_alloc_mark]
  simp [hj']
theorem ownK_empty {α : Type} (enc : α → List Value) (sz : Nat) (e : TypeId) (w : World) : OwnK e enc sz w.heap.size (w.alloc (.cells #[] e)) (.slice (some ⟨w.heap.size, 0, none⟩) 0 0) [] := World.ownsRow_lit w #[] 0 (Nat.le_refl _) (by unfold maxLen; omega) (by simp)

/-! ### make, stores -/
theorem madeK {α : Type} [Inhabited α] {enc : α → List Value} {sz : Nat} (hs : Sz enc sz) (hp : 0 < sz) {z : Value} (hz : z.cells.toList = enc default) (n : Nat) : (madeCells z.cells (n * sz)).toList = flat enc (List.replicate n default) := by
  have hzs : z.cells.size = sz := by rw [← Array.length_toList, hz, hs]
  apply List.ext_getElem?
  intro j
  by_cases hj : j < n * sz
  · have e1 : j = j / sz * sz + j % sz := by rw [Nat.mul_comm]; exact (Nat.div_add_mod j sz).symm
    have h1 : j / sz < n := (Nat.div_lt_iff_lt_mul hp).2 hj
    have h2 : j % sz < sz := Nat.mod_lt _ hp
    have hL : (madeCells z.cells (n * sz)).toList[j]? = some (z.cells[j % z.cells.size]!) := by simp [madeCells, hj]
    rw [hL]
    conv => rhs; rw [e1]
    rw [flat_at hs _ _ _ (by simpa using h1) h2]
    have : nth (List.replicate n (default : α)) (j / sz) = default := by simp [nth, List.getD, h1]
    rw [this, ← hz, hzs, getElem!_pos z.cells (j % sz) (by omega)]
    simp [Array.getElem?_toList, getElem?_pos z.cells (j % sz) (by omega)]
  · rw [List.getElem?_eq_none (by simp [madeCells]; omega), List.getElem?_eq_none (by rw [flat_length hs]; simp; omega)]

section
variable {α : Type} [Inhabited α] {enc : α → List Value} {sz : Nat}
theorem ownK_store (hs : Sz enc sz) {e : TypeId} {B : Nat} {w : World} {g n cap : Nat} {l : List α} (h : OwnK e enc sz B w (.slice (some ⟨g, 0, none⟩) n cap) l) (hn : n = l.length) {j i : Nat} (hj : j < l.length) (hi : i < sz) {y : α} {u : Value} (hy : enc y = (enc (nth l j)).set i u) :
    OwnK e enc sz B (w.setCell ⟨g, j * sz + i, none⟩ u) (.slice (some ⟨g, 0, none⟩) n cap) (l.set j y) ∧ w.grownBy (w.setCell ⟨g, j * sz + i, none⟩ u) (some g) := by
  subst hn
  have := World.ownsRow.stored h (j * sz + i) u
  refine ⟨?_, this.2⟩
  unfold OwnK
  rw [List.length_set, ← flat_set hs hi l j hj hy]
  exact this.1
theorem ownK_cell (hs : Sz enc sz) {e : TypeId} {B : Nat} {w : World} {g n cap : Nat} {l : List α} (h : OwnK e enc sz B w (.slice (some ⟨g, 0, none⟩) n cap) l) (hn : n = l.length) {j i : Nat} (hj : j < l.length) (hi : i < sz) :
    w.cell? ⟨g, j * sz + i, none⟩ = (enc (nth l j))[i]? ∧ w.frozen? ⟨g, j * sz + i, none⟩ = false := by
  subst hn
  have hlt : j * sz + i < l.length * sz := by
    have : (j + 1) * sz ≤ l.length * sz := Nat.mul_le_mul_right _ hj
    rw [Nat.add_mul] at this; omega
  exact ⟨by rw [World.ownsRow.cellAt h _ hlt, flat_at hs l j i hj hi], World.ownsRow.frozenAt h _⟩
end
theorem nth_set {α : Type} [Inhabited α] {l : List α} {k : Nat} (h : k < l.length) (x : α) : nth (l.set k x) k = x := by simp [nth, List.getD, h]
/-- The list behind the first k stores of a copy. -/
def filledK {α : Type} [Inhabited α] (l : List α) (k : Nat) : List α := l.take k ++ List.replicate (l.length - k) default
section
variable {α : Type} [Inhabited α]
end
end Go.Proofs.YtcidfmmeonhkhaaGreatDoor.Row
/- What laws over several values use: blocks that differ, loads' facts kept by calls. For any program. -/
namespace Go.Proofs.YtcidfmmeonhkhaaGreatDoor.Row
open Go.ChangeShapes Go.WideShapes Go.ChangeAt Go.RowKit Go.Instr
set_option linter.unusedVariables false
set_option maxRecDepth 100000

theorem keepN2 {W w1 w2 : World} {a1 a2 : Addr} {u1 u2 : Value} (h : w1.cell? a1 = some u1 ∧ w1.cell? a2 = some u2 ∧ Below W.heap.size W w1) (hb : Below w1.heap.size w1 w2) : w2.cell? a1 = some u1 ∧ w2.cell? a2 = some u2 ∧ Below W.heap.size W w2 :=
  ⟨by rw [hb.cell (cell_lt h.1)]; exact h.1, by rw [hb.cell (cell_lt h.2.1)]; exact h.2.1, h.2.2.trans (hb.mono h.2.2.size)⟩
end Go.Proofs.YtcidfmmeonhkhaaGreatDoor.Row
/- Tables (slices of a name and a number each) in memory: a slice that holds a list of entries, each of which holds its name; one whose blocks are all the call's own and all differ. No conditions. -/
namespace Go.Proofs.YtcidfmmeonhkhaaGreatDoor.Row
open Go.ChangeShapes Go.WideShapes Go.ChangeAt Go.RowKit Go.Instr
set_option linter.unusedVariables false
set_option maxRecDepth 100000

/-- An entry as it lies in memory: where its name's parts lie, what they are, and its number. -/
structure Ent where
  ad : Option Addr
  n : Nat
  cap : Nat
  ps : List ByteArray
  val : Int
instance : Inhabited Ent := ⟨⟨none, 0, 0, [], 0⟩⟩
def Ent.v (x : Ent) : Value := .slice x.ad x.n x.cap
/-- An entry as it is read. -/
def Ent.t (x : Ent) : List ByteArray × Int := (x.ps, x.val)
def Ent.whole (x : Ent) : Value := .agg #[x.v, .int .i64 x.val]
def strip (L : List Ent) : List (List ByteArray × Int) := L.map Ent.t
theorem strip_length (L : List Ent) : (strip L).length = L.length := by simp [strip]
theorem strip_nth {L : List Ent} {k : Nat} (h : k < L.length) : nth (strip L) k = (nth L k).t := by simp [strip, nth, List.getD, h]
theorem strip_take (L : List Ent) (k : Nat) : strip (L.take k) = (strip L).take k := by simp [strip, List.map_take]
theorem strip_mem {L : List Ent} {x : Ent} (h : x ∈ L) : x.t ∈ strip L := List.mem_map_of_mem h
theorem nth_mem {α : Type} [Inhabited α] {L : List α} {k : Nat} (h : k < L.length) : nth L k ∈ L := by rw [nth_eq h]; exact List.getElem_mem _
def encE (x : Ent) : List Value := [x.v, .int .i64 x.val]
theorem szE : Sz encE 2 := fun _ => rfl
/-- v is a slice of the entries L, whose names are there. -/
def TabH (w : World) (v : Value) (L : List Ent) : Prop := HoldsK encE 2 w v L ∧ ∀ x ∈ L, Holds Value.string w x.v x.ps
section
variable {B : Nat} {w w' : World} {v : Value} {L : List Ent}
theorem TabH.on (h : TabH w v L) (hb : Below w.heap.size w w') : TabH w' v L := ⟨h.1.on hb, fun x hx => (h.2 x hx).on hb⟩
theorem TabH.nil (w : World) : TabH w (.slice none 0 0) [] := ⟨HoldsK.nil _ _ _, by simp⟩
theorem TabH.shapeN (h : TabH w v L) : ∃ x n cap, v = .slice x n cap ∧ n = L.length ∧ n ≤ cap ∧ TabH w (.slice x n cap) L := by
  obtain ⟨x, n, cap, rfl, hn, hc, ho⟩ := h.1.shapeN
  exact ⟨x, n, cap, rfl, hn, hc, ho, h.2⟩
/-- Entry k's two cells, and its name. -/
theorem TabH.at {x : Option Addr} {n cap : Nat} (h : TabH w (.slice x n cap) L) {k : Nat} (hk : k < L.length) :
    ∃ b off, x = some ⟨b, off, none⟩ ∧ w.cell? ⟨b, off + k * 2, none⟩ = some (.slice (nth L k).ad (nth L k).n (nth L k).cap) ∧ w.cell? ⟨b, off + k * 2 + 1, none⟩ = some (.int .i64 (nth L k).val) ∧ Holds Value.string w (.slice (nth L k).ad (nth L k).n (nth L k).cap) (nth L k).ps := by
  obtain ⟨b, off, hx, hc⟩ := h.1.at szE hk
  exact ⟨b, off, hx, by have := hc 0 (by decide); simpa [encE, Ent.v] using this, by have := hc 1 (by decide); simpa [encE, Nat.add_assoc] using this, h.2 _ (nth_mem hk)⟩
end

/-! ### as they are read -/
def TabHolds (w : World) (v : Value) (T : List (List ByteArray × Int)) : Prop := ∃ L, strip L = T ∧ TabH w v L
/-- Only blocks from B on and below E are written, and new ones. -/
structure Wrote (B E : Nat) (w w' : World) : Prop where
  os : w'.os = w.os
  tape : w'.tape = w.tape
  output : w'.output = w.output
  size : w.heap.size ≤ w'.heap.size
  block : ∀ i, i < w.heap.size → ¬ (B ≤ i ∧ i < E) → w'.heap[i]? = w.heap[i]?
theorem Wrote.of {B E : Nat} {w w' : World} {row : Option Nat} (h : w.grownBy w' row) (hr : ∀ g, row = some g → B ≤ g ∧ g < E) : Wrote B E w w' := ⟨h.os, h.tape, h.output, h.size, fun i hi hn => h.block i hi (fun e => hn (hr i e.symm))⟩
theorem Wrote.refl (B E : Nat) (w : World) : Wrote B E w w := ⟨rfl, rfl, rfl, Nat.le_refl _, fun _ _ _ => rfl⟩
theorem Wrote.trans {B E : Nat} {w w1 w2 : World} (h : Wrote B E w w1) (g : Wrote B E w1 w2) : Wrote B E w w2 := ⟨g.os.trans h.os, g.tape.trans h.tape, g.output.trans h.output, Nat.le_trans h.size g.size, fun i hi hn => (g.block i (Nat.lt_of_lt_of_le hi h.size) hn).trans (h.block i hi hn)⟩
theorem Wrote.below {B E X : Nat} {w0 w w' : World} (hb : Below X w0 w) (h : Wrote B E w w') (hX : X ≤ w.heap.size) (hB : X ≤ B) : Below X w0 w' :=
  hb.trans ⟨h.os, h.tape, h.output, h.size, fun k hk => h.block k (by omega) (by omega)⟩
/-- What does not lie there is kept. -/
theorem Wrote.grown {B E : Nat} {w w' : World} (h : Wrote B E w w') {g : Nat} (hg : g < w.heap.size) (hn : g < B ∨ E ≤ g) : w'.heap[g]? = w.heap[g]? := h.block g hg (by omega)
theorem Wrote.row {e : TypeId} {sz n B0 B E : Nat} {w w' : World} {v : Value} {xs : List Value} (h : Wrote B E w w') (ho : w.ownsRow B0 e sz v n xs) (hn : ∀ g, v.ownBlock = some g → g < B ∨ E ≤ g) : w'.ownsRow B0 e sz v n xs := by
  refine ⟨ho.1, ?_⟩
  rcases ho.2 with h2 | ⟨g, cap, cur, hv, hB, hc, r⟩
  · exact Or.inl h2
  · refine Or.inr ⟨g, cap, cur, hv, hB, ?_, r⟩
    rw [h.grown (Array.getElem?_eq_some_iff.1 hc).1 (hn g (by rw [hv]; rfl))]
    exact hc
/-- A name, a table whose blocks lie from B on and below E. -/
def NameIn (B E : Nat) (w : World) (v : Value) (l : List ByteArray) : Prop := Own 9 Value.string B w v l ∧ ∀ g, v.ownBlock = some g → g < E
section
variable {B E B' E' : Nat} {w w' : World} {v : Value} {l : List ByteArray} {T : List (List ByteArray × Int)}
theorem NameIn.of (h : Own 9 Value.string B w v l) : NameIn B w.heap.size w v l := ⟨h, fun g hg => (h.lt g hg).2⟩
theorem NameIn.on (h : NameIn B E w v l) (hb : Below w.heap.size w w') : NameIn B E w' v l := ⟨h.1.on hb, h.2⟩
theorem NameIn.holds (h : NameIn B E w v l) : Holds Value.string w v l := h.1.holds
theorem TabHolds.on (h : TabHolds w v T) (hb : Below w.heap.size w w') : TabHolds w' v T := by
  obtain ⟨L, e, h⟩ := h
  exact ⟨L, e, h.on hb⟩
theorem TabHolds.shapeN (h : TabHolds w v T) : ∃ x n cap, v = .slice x n cap ∧ n = T.length ∧ n ≤ cap ∧ TabHolds w (.slice x n cap) T := by
  obtain ⟨L, e, h⟩ := h
  obtain ⟨x, n, cap, rfl, hn, hc, ho⟩ := h.shapeN
  exact ⟨x, n, cap, rfl, by rw [hn, ← e, strip_length], hc, L, e, ho⟩
end
end Go.Proofs.YtcidfmmeonhkhaaGreatDoor.Row
