/- Contracts and mathematics, joined: Cmp, Trunc, Pref, AppP, ParseN, PParse. No conditions but those that each states. -/
import Derived.Test.YtkojeajjappchaaGreatB1
import Derived.Test.YtkojeajjappchaaGreatB4
import Derived.Test.YtkojeajjappchaaGreatB2
import Derived.Test.YtkojeajjappchaaGreatB3
import Derived.Test.YtkojeajjappchaaGreatB5
/- Contracts of CompareNames and EqualNames, the program's and the reference model's, and of the library's Compare and Equal on slices of strings: parts are compared one by one, byte by byte, then the lengths. No conditions but that lengths fit. -/
namespace Go.Proofs.YtkojeajjappchaaGreat.Row
open Go.ChangeShapes Go.WideShapes Go.ChangeAt Go.RowKit Go.Instr
set_option linter.unusedVariables false
set_option maxRecDepth 100000

def cmpS (a b : ByteArray) : Int := if Op.bytesLess a.toList b.toList = true then -1 else if a.toList = b.toList then 0 else 1
theorem cmpS_lt {a b : ByteArray} (h : Op.bytesLess a.toList b.toList = true) : cmpS a b = -1 := by simp [cmpS, h]
theorem cmpS_eq {a b : ByteArray} (h : Op.bytesLess a.toList b.toList = false) (he : (a.toList == b.toList) = true) : cmpS a b = 0 := by
  have : a.toList = b.toList := by simpa using he
  rw [cmpS, h, this]; simp
theorem cmpS_gt {a b : ByteArray} (h : Op.bytesLess a.toList b.toList = false) (he : (a.toList == b.toList) = false) : cmpS a b = 1 := by
  have : a.toList ≠ b.toList := by simpa using he
  simp [cmpS, h, this]
theorem cmpS_in (a b : ByteArray) : -1 ≤ cmpS a b ∧ cmpS a b ≤ 1 := by
  unfold cmpS; split
  · omega
  · split <;> omega
def cmpL : List ByteArray → List ByteArray → Int
  | [], [] => 0
  | [], _ :: _ => -1
  | _ :: _, [] => 1
  | a :: x, b :: y => if cmpS a b = 0 then cmpL x y else cmpS a b
theorem cmpL_same {a b : List ByteArray} {k : Nat} (h : k < a.length) (g : k < b.length) (hc : cmpS (nth a k) (nth b k) = 0) : cmpL (a.drop k) (b.drop k) = cmpL (a.drop (k + 1)) (b.drop (k + 1)) := by
  rw [drop_nth h, drop_nth g]; simp [cmpL, hc]
theorem cmpL_diff {a b : List ByteArray} {k : Nat} (h : k < a.length) (g : k < b.length) (hc : cmpS (nth a k) (nth b k) ≠ 0) : cmpL (a.drop k) (b.drop k) = cmpS (nth a k) (nth b k) := by
  rw [drop_nth h, drop_nth g]; simp [cmpL, hc]
theorem cmpL_long {a b : List ByteArray} {k : Nat} (h : k < a.length) (g : k = b.length) : cmpL (a.drop k) (b.drop k) = 1 := by
  rw [drop_nth h, g, List.drop_length]; rfl
theorem cmpL_short {a b : List ByteArray} {k : Nat} (h : k = a.length) (g : k < b.length) : cmpL (a.drop k) (b.drop k) = -1 := by
  rw [drop_nth g, h, List.drop_length]; rfl
theorem cmpL_both {a b : List ByteArray} {k : Nat} (h : k = a.length) (g : k = b.length) : cmpL (a.drop k) (b.drop k) = 0 := by
  rw [h, List.drop_length, ← h, g, List.drop_length]; rfl
set_option maxHeartbeats 1000000 in
theorem l4Cmp (a b : ByteArray) (w : World) : Calls Tryz.prog 99 #[.string a, .string b] w fun e w' => e = .returned (.int .i64 (cmpS a b)) ∧ w = w' := by
  cases h : Op.bytesLess a.toList b.toList with
  | true =>
    have HC := Lib.hid (cmpS_lt h)
    go_enter Tryz.func99, Tryz.ntmps99
    go_wp2
    go_ret
    exact ⟨ret_int HC.out.symm, rfl⟩
  | false =>
    cases he : (a.toList == b.toList) with
    | true =>
      have HC := Lib.hid (cmpS_eq h he)
      go_enter Tryz.func99, Tryz.ntmps99
      go_wp2
      go_ret
      exact ⟨ret_int HC.out.symm, rfl⟩
    | false =>
      have HC := Lib.hid (cmpS_gt h he)
      go_enter Tryz.func99, Tryz.ntmps99
      go_wp2
      go_ret
      exact ⟨ret_int HC.out.symm, rfl⟩

theorem quiet_add_left {P : Program} {f : FuncId} {args : Array Value} {w : World} {a n : Nat} {v : Value}
    (h : Calls P f args (w.drewN (a + n)) fun e w' => e = .returned v ∧ w.drewN (a + n) = w') :
    Calls P f args (w.drewN (a + n)) fun e w'' => e = .returned v ∧ ∃ m, w'' = w.drewN (a + m) :=
  h.mono fun _ _ ⟨he, hm⟩ => ⟨he, n, hm.symm⟩
theorem quiet_left {P : Program} {f : FuncId} {args : Array Value} {w : World} {n : Nat} {v : Value}
    (h : Calls P f args (w.drewN n) fun e w' => e = .returned v ∧ w.drewN n = w') : Calls P f args (w.drewN n) fun e w'' => e = .returned v ∧ ∃ m, w'' = w.drewN m :=
  h.mono fun _ _ ⟨he, hm⟩ => ⟨he, n, hm.symm⟩
theorem l4CmpV (a b : ByteArray) (c : Int) (w : World) (h : cmpS a b = c) : Calls Tryz.prog 99 #[.string a, .string b] w fun e w' => e = .returned (.int .i64 c) ∧ w = w' := h ▸ l4Cmp a b w

set_option maxHeartbeats 1000000 in
theorem specCompareNames (v u : Value) (l m : List ByteArray) (w : World) (h : Holds Value.string w v l) (g : Holds Value.string w u m) (hl : l.length ≤ 140737488351232) (hm : m.length ≤ 140737488351232) :
    Calls Tryz.prog 85 #[.agg #[v], .agg #[u]] w fun e w' => e = .returned (.int .i64 (cmpL l m)) ∧ Below w.heap.size w w' := by
  obtain ⟨x, cx, rfl, hcx, hh⟩ := h.shape
  obtain ⟨y, cy, rfl, hcy, hg⟩ := g.shape
  obtain ⟨n, hn⟩ : ∃ n, n = l.length := ⟨_, rfl⟩
  obtain ⟨q, hq⟩ : ∃ q, q = m.length := ⟨_, rfl⟩
  rw [← hn] at hcx hh hl ⊢
  rw [← hq] at hcy hg hm ⊢
  have HB := Lib.hid (((Below.refl w.heap.size w).alloc (Nat.le_refl _) (.cells #[.slice x n cx] 29)).alloc (Nat.le_trans (Nat.le_refl _) (by simp)) (.cells #[.slice y q cy] 29))
  have HN := Lib.hid hn; have HQ := Lib.hid hq; have HH := Lib.hid (hh.on HB.out); have HG := Lib.hid (hg.on HB.out)
  clear hn hq h hh g hg
  go_enter Tryz.func85, Tryz.ntmps85
  go_wp2_with fail
  go_loopw [5] (fun i wr => ∃ k nq : Nat, k ≤ n ∧ k ≤ q ∧ i = .int .i64 k ∧ wr = ((w.alloc (.cells #[.slice x n cx] 29)).alloc (.cells #[.slice y q cy] 29)).drewN nq ∧ Hid (cmpL l m = cmpL (l.drop k) (m.drop k))) (fun i _ => n - (intOf i).toNat)
  case atStart => exact ⟨0, 0, Nat.zero_le _, Nat.zero_le _, rfl, rfl, Lib.hid (by simp)⟩
  case round =>
    obtain ⟨k, nq, hk, hkq, rfl, rfl, hc⟩ := hrel
    by_cases hlt : k < n
    · have hlen := HN.out
      by_cases hlq : k < q
      · have hlen2 := HQ.out
        obtain ⟨b, off, rfl, hcx1⟩ := HH.out.at (j := k) (by omega)
        obtain ⟨b', off', rfl, hcy1⟩ := HG.out.at (j := k) (by omega)
        by_cases hd : cmpS (nth l k) (nth m k) = 0
        · have HC := Lib.hid (hc.out.trans (cmpL_same (by omega) (by omega) hd))
          have HD := Lib.hid hd
          clear hlen hlen2 hd
          go_wp2_with fail
          go_quiet ((go_at_call 99; first | exact quiet_add_left (l4CmpV _ _ 0 _ HD.out) | exact quiet_left (l4CmpV _ _ 0 _ HD.out)))
          go_wp2_with fail
          go_roundw
          case rel => exact ⟨k + 1, _, by omega, by omega, by go_num, rfl, HC⟩
          case measure => simp [intOf]; omega
        · have HC := Lib.hid (hc.out.trans (cmpL_diff (by omega) (by omega) hd))
          obtain ⟨c, hce⟩ : ∃ c, c = cmpS (nth l k) (nth m k) := ⟨_, rfl⟩
          have HE := Lib.hid hce
          rw [← hce] at hd
          have hd2 : (c != 0) = true := by simpa using hd
          have hcin := cmpS_in (nth l k) (nth m k)
          rw [← hce] at hcin
          obtain ⟨hc1, hc2⟩ := hcin
          clear hlen hlen2 hd hce
          go_wp2_with fail
          go_quiet ((go_at_call 99; first | exact quiet_add_left (l4CmpV _ _ c _ HE.out.symm) | exact quiet_left (l4CmpV _ _ c _ HE.out.symm)))
          go_wp2_with fail
          go_ret
          exact ⟨ret_int (HE.out.trans HC.out.symm), below_drewN HB.out _⟩
      · obtain rfl : k = q := by omega
        have HC := Lib.hid (hc.out.trans (cmpL_long (by omega) HQ.out))
        clear hlen
        go_wp2
        go_ret
        exact ⟨ret_int HC.out.symm, below_drewN HB.out _⟩
    · obtain rfl : k = n := by omega
      by_cases hlq : k < q
      · have HC := Lib.hid (hc.out.trans (cmpL_short HN.out (by have := HQ.out; omega)))
        go_wp2
        go_ret
        exact ⟨ret_int HC.out.symm, below_drewN HB.out _⟩
      · obtain rfl : k = q := by omega
        have HC := Lib.hid (hc.out.trans (cmpL_both HN.out HQ.out))
        go_wp2
        go_ret
        exact ⟨ret_int HC.out.symm, below_drewN HB.out _⟩

end Go.Proofs.YtkojeajjappchaaGreat.Row
/- Contracts of Truncate, EqualNames and HasPrefix, the program's and the reference model's. No conditions but that lengths fit. -/
namespace Go.Proofs.YtkojeajjappchaaGreat.Row
open Go.ChangeShapes Go.WideShapes Go.ChangeAt Go.RowKit Go.Instr
set_option linter.unusedVariables false
set_option maxRecDepth 100000

section
variable {α : Type} [Inhabited α] {enc : α → Value} {w : World} {x : Option Addr} {n cap : Nat} {l : List α}
theorem Holds.take (h : Holds enc w (.slice x n cap) l) {j : Nat} (hj : j ≤ l.length) : Holds enc w (.slice x j cap) (l.take j) := by
  obtain ⟨x', cap', hv, hc, hh⟩ := h
  cases hv
  have hl : (l.take j).length = j := by simp; omega
  refine ⟨x, cap, by rw [hl], by omega, ?_⟩
  rcases hh with rfl | ⟨b, off, hx, hh⟩
  · left; simp
  · refine Or.inr ⟨b, off, hx, fun i hi => ?_⟩
    rw [hl] at hi
    rw [hh i (by omega), nth_eq (by omega), nth_eq (by omega)]
    simp
theorem Holds.drop {b off : Nat} (h : Holds enc w (.slice (some ⟨b, off, none⟩) n cap) l) {j : Nat} (hj : j ≤ l.length) : Holds enc w (.slice (some ⟨b, off + j, none⟩) (n - j) (cap - j)) (l.drop j) := by
  obtain ⟨x', cap', hv, hc, hh⟩ := h
  cases hv
  have hl : (l.drop j).length = l.length - j := by simp
  refine ⟨_, cap - j, by rw [hl], by omega, ?_⟩
  rcases hh with rfl | ⟨b', off', hx, hh⟩
  · left; simp
  · cases hx
    refine Or.inr ⟨b, off + j, rfl, fun i hi => ?_⟩
    rw [hl] at hi
    rw [Nat.add_assoc, hh (j + i) (by omega), nth_eq (by omega), nth_eq (by omega)]
    simp
end

/-- What a call that returns a name of its own leaves; a name and a bool; a name that lies somewhere. -/
def GivesN (w : World) (l : List ByteArray) (e : Ending) (w' : World) : Prop := ∃ v, e = .returned (.agg #[v]) ∧ Own 9 Value.string w.heap.size w' v l ∧ Below w.heap.size w w'
def GivesNB (w : World) (l : List ByteArray) (b : Bool) (e : Ending) (w' : World) : Prop := ∃ v, e = .returned (.tuple #[.agg #[v], .bool b]) ∧ Own 9 Value.string w.heap.size w' v l ∧ Below w.heap.size w w'
def GivesHB (w : World) (l : List ByteArray) (b : Bool) (e : Ending) (w' : World) : Prop := ∃ v, e = .returned (.tuple #[.agg #[v], .bool b]) ∧ Holds Value.string w' v l ∧ Below w.heap.size w w'

def trI (l : List ByteArray) (k : Int) : Nat := (Num.maxI 0 (Num.minI k l.length)).toNat
def trN (l : List ByteArray) (k : Int) : List ByteArray := l.take (trI l k)
theorem aggN : Ret.AggOf Tryz.prog 29 1 := by unfold Ret.AggOf; exact ⟨by kernel_rfl, by kernel_rfl⟩

/-- A name lies in its result cell: the last step of a function that returns a name. -/
theorem endN {w w1 : World} {g B : Nat} {v u : Value} {l : List ByteArray} (hw : w.heap.size ≤ g) (hgB : g < B) (ho : Own 9 Value.string B w1 v l) (hc : w1.cell? ⟨g, 0, none⟩ = some u) (hb : Below w.heap.size w w1) :
    (w1.setCell ⟨g, 0, none⟩ v).cell? ⟨g, 0, none⟩ = some v ∧ Own 9 Value.string w.heap.size (w1.setCell ⟨g, 0, none⟩ v) v l ∧ Below w.heap.size w (w1.setCell ⟨g, 0, none⟩ v) :=
  ⟨Ret.set_same hc, (ho.grown (Ret.grownBy_set w1 ⟨g, 0, none⟩ v) (nb ho hgB)).mono (by omega), hb.setCell hw _⟩

end Go.Proofs.YtkojeajjappchaaGreat.Row
/- Contracts of EqualNames and HasPrefix, the program's and the reference model's. No conditions but that lengths fit. -/
namespace Go.Proofs.YtkojeajjappchaaGreat.Row
open Go.ChangeShapes Go.WideShapes Go.ChangeAt Go.RowKit Go.Instr
set_option linter.unusedVariables false
set_option maxRecDepth 100000

theorem less_irrefl : ∀ l : List UInt8, Op.bytesLess l l = false
  | [] => rfl
  | a :: x => by
    rw [Op.bytesLess, less_irrefl x]
    have : decide (a < a) = false := by simp
    simp
theorem cmpS_zero {a b : ByteArray} : cmpS a b = 0 ↔ a = b := by
  constructor
  · intro h
    unfold cmpS at h
    split at h
    · omega
    · split at h
      · rename_i _ h2; exact toList_inj h2
      · omega
  · rintro rfl
    unfold cmpS
    rw [less_irrefl]; simp
theorem cmpL_zero : ∀ {l m : List ByteArray}, cmpL l m = 0 ↔ l = m
  | [], [] => by simp [cmpL]
  | [], _ :: _ => by simp [cmpL]
  | _ :: _, [] => by simp [cmpL]
  | a :: x, b :: y => by
    unfold cmpL
    by_cases h : cmpS a b = 0
    · rw [if_pos h, cmpL_zero, cmpS_zero.1 h]; simp
    · rw [if_neg h]
      have : a ≠ b := fun e => h (cmpS_zero.2 e)
      constructor
      · intro e; exact absurd e h
      · intro e; cases e; exact absurd rfl this
theorem eqB_cmp (l m : List ByteArray) : eqB l m = (cmpL l m == 0) := by
  unfold eqB
  by_cases h : l = m
  · have := cmpL_zero.2 h
    simp [h, cmpL_zero.2]
  · have h2 : cmpL l m ≠ 0 := fun e => h (cmpL_zero.1 e)
    simp [h, h2]

set_option maxHeartbeats 1000000 in
theorem specEqualNames (v u : Value) (l m : List ByteArray) (w : World) (h : Holds Value.string w v l) (g : Holds Value.string w u m) (hl : l.length ≤ 140737488351232) (hm : m.length ≤ 140737488351232) :
    Calls Tryz.prog 67 #[.agg #[v], .agg #[u]] w fun e w' => e = .returned (.bool (eqB l m)) ∧ Below w.heap.size w w' := by
  obtain ⟨x, cx, rfl, hcx, hh⟩ := h.shape
  obtain ⟨y, cy, rfl, hcy, hg⟩ := g.shape
  have HH := Lib.hid hh; have HG := Lib.hid hg
  have HE := Lib.hid (eqB_cmp l m)
  clear hh h hg g
  go_enter Tryz.func67, Tryz.ntmps67
  go_wp2_with fail
  have HB := Lib.hid (((Below.refl w.heap.size w).alloc (Nat.le_refl _) (.cells #[.slice x l.length cx] 29)).alloc (Nat.le_trans (Nat.le_refl _) (by simp)) (.cells #[.slice y m.length cy] 29))
  have HA := Lib.hid (HH.out.on HB.out); have HC := Lib.hid (HG.out.on HB.out)
  refine (specCompareNames _ _ l m _ HA.out HC.out hl hm).mono ?_
  rintro e w' ⟨rfl, hb⟩
  have HB2 := Lib.hid (HB.out.trans (hb.mono (by simp; omega))); clear hb
  go_wp2
  go_ret
  exact ⟨ret_bool HE.out.symm, HB2.out⟩

def hpB (l m : List ByteArray) : Bool := decide (m.length ≤ l.length ∧ l.take m.length = m)
end Go.Proofs.YtkojeajjappchaaGreat.Row
/- Contracts of AppendPart, the program's and the reference model's. No conditions but that lengths fit. -/
namespace Go.Proofs.YtkojeajjappchaaGreat.Row
open Go.ChangeShapes Go.WideShapes Go.ChangeAt Go.RowKit Go.Instr
set_option linter.unusedVariables false
set_option maxRecDepth 100000

theorem bulk_append (l m : List ByteArray) : bulk (l ++ m) = bulk l + bulk m := by
  unfold bulk bulkTo
  rw [List.take_length, List.take_length, List.take_length, List.map_append, List.sum_append, List.length_append]
  omega
theorem bulk_one (s : ByteArray) : bulk [s] = 1 + s.size := by simp [bulk, bulkTo]
theorem bulk_cons (x : ByteArray) (l : List ByteArray) : bulk (x :: l) = 1 + x.size + bulk l := by
  have := bulk_append [x] l
  rw [bulk_one] at this
  exact this
theorem bulk_nil : bulk [] = 0 := by simp [bulk, bulkTo]
theorem bulk_valid {l : List ByteArray} (h : validN l = true) : bulk l ≤ 60 := by
  obtain ⟨h1, h2⟩ := validN_iff.1 h
  have key : ∀ l : List ByteArray, (∀ x ∈ l, validP x = true) → bulk l ≤ 9 * l.length := by
    intro l
    induction l with
    | nil => intro _; rw [bulk_nil]; simp
    | cons x r ih =>
      intro hx
      have h3 := ih (fun y hy => hx y (by simp [hy]))
      have h4 := (validP_iff.1 (hx x (by simp))).2.1
      rw [bulk_cons, List.length_cons]; omega
  have := key l h2
  omega
def appN (l : List ByteArray) (s : ByteArray) : List ByteArray := if validN (l ++ [s]) = true then l ++ [s] else l
theorem appN_yes {l : List ByteArray} {s : ByteArray} (h : validN (l ++ [s]) = true) : appN l s = l ++ [s] := if_pos h
theorem appN_no {l : List ByteArray} {s : ByteArray} (h : validN (l ++ [s]) = false) : appN l s = l := if_neg (by simp [h])

theorem ret_nb {v : Value} {a b : Bool} (h : a = b) : Ending.returned (.tuple #[v, .bool a]) = .returned (.tuple #[v, .bool b]) := by rw [h]
def vs2 (a b : Value) (j : Nat) : Value := if j = 0 then a else b
def ls2 (a b : List ByteArray) (j : Nat) : List ByteArray := if j = 0 then a else b
set_option maxHeartbeats 1000000 in
theorem l4Copy (v : Value) (l : List ByteArray) (w : World) (h : Holds Value.string w v l) (hl : l.length ≤ 10000000) :
    Calls Tryz.prog 100 #[.agg #[v]] w (GivesN w l) := by
  obtain ⟨x, n, cap, rfl, hn, hcap, hh⟩ := h.shapeN
  rw [← hn] at hl
  have HB0 := Lib.hid ((((Below.refl w.heap.size w).alloc (Nat.le_refl _) (.cells #[.slice x n cap] 29)).alloc (by simp) (.cells #[.slice none 0 0] 29)).alloc (by simp; omega) (.cells #[] 9))
  have HN := Lib.hid hn
  have HT2 := Lib.hid (hh.on HB0.out)
  have HO := Lib.hid (own_empty Value.string 9 ((w.alloc (.cells #[.slice x n cap] 29)).alloc (.cells #[.slice none 0 0] 29)))
  simp only [World.size_alloc] at HO
  have HR := Lib.hid ((Ret.NC.new' (.slice none 0 0) 29 (w := w.alloc (.cells #[.slice x n cap] 29)) (n := w.heap.size + 1) (by simp)).alloc (.cells #[] 9))
  clear hh h hn
  go_enter Tryz.func100, Tryz.ntmps100
  go_wp2_with (at_builtin; refine wpList_app (enc := Value.string) (B := w.heap.size + 1 + 1) (l := []) (m := l) rfl _ _ rfl Tryz.underlying24 elemSTR rfl rfl rfl HO.out HT2.out oneStr (by rw [← HN.out]; simp; omega) (by rw [← HN.out]; unfold maxLen; simp; omega) (by simp) ?_)
  intro v3 w3 ho3 hg3
  obtain ⟨x3, n3, c3, rfl, hn3, hc3, ho3⟩ := ho3.shapeN
  clear hn3
  have HB4 := Lib.hid (HB0.out.grown hg3 (by simp; omega) (fun g hh => by have := (HO.out.lt g hh).1; omega))
  obtain ⟨hk2, hf2⟩ := HR.out.grown hg3 (by simp [Value.ownBlock])
  obtain ⟨q1, q2, q3⟩ := endN (w := w) (g := w.heap.size + 1) (by omega) (by omega) ho3 hk2 HB4.out
  have HQ1 := Lib.hid q1; have HQ2 := Lib.hid q2; have HQ3 := Lib.hid q3
  clear q1 q2 q3 ho3 hg3
  go_wp2
  refine bodyPost_ret (Ret.results_c rfl _ _ (w.heap.size + 1) [_] rfl aggN (Ret.one HQ1.out)) rfl ?_
  exact ⟨_, rfl, HQ2.out, HQ3.out⟩

set_option maxHeartbeats 2000000 in
theorem specAppendPart (v : Value) (l : List ByteArray) (s : ByteArray) (w : World) (h : Holds Value.string w v l) (hl : bulk l ≤ 10000000) (hs : s.size ≤ 10000000) :
    Calls Tryz.prog 89 #[.agg #[v], .string s] w (GivesNB w (appN l s) (validN (l ++ [s]))) := by
  obtain ⟨x, n, cap, rfl, hn, hcap, hh⟩ := h.shapeN
  have hll := bigLen hl
  have HBK := Lib.hid (show bulk (l ++ [s]) ≤ 100000000 by rw [bulk_append, bulk_one]; omega)
  rw [← hn] at hll
  have HB0 := Lib.hid ((((Below.refl w.heap.size w).alloc (Nat.le_refl _) (.cells #[.slice x n cap] 29)).alloc (by simp) (.cells #[.slice none 0 0] 29)).alloc (by simp; omega) (.cells #[] 9))
  have HN := Lib.hid hn
  have HT2 := Lib.hid (hh.on HB0.out)
  have HO := Lib.hid (own_empty Value.string 9 ((w.alloc (.cells #[.slice x n cap] 29)).alloc (.cells #[.slice none 0 0] 29)))
  simp only [World.size_alloc] at HO
  have HX := Lib.hid (((Ret.NC.new' (w := w) (.slice x n cap) 29 rfl).alloc (.cells #[.slice none 0 0] 29)).alloc (.cells #[] 9))
  have HR := Lib.hid ((Ret.NC.new' (.slice none 0 0) 29 (w := w.alloc (.cells #[.slice x n cap] 29)) (n := w.heap.size + 1) (by simp)).alloc (.cells #[] 9))
  have HH := Lib.hid hh
  clear hh h hn hl
  go_enter Tryz.func89, Tryz.ntmps89
  go_wp2_with (at_builtin; refine wpList_app (enc := Value.string) (B := w.heap.size + 1 + 1) (l := []) (m := l) rfl _ _ rfl Tryz.underlying24 elemSTR rfl rfl rfl HO.out HT2.out oneStr (by rw [← HN.out]; simp; omega) (by rw [← HN.out]; unfold maxLen; simp; omega) (by simp) ?_)
  intro v3 w3 ho3 hg3
  obtain ⟨x3, n3, c3, rfl, hn3, hc3, ho3⟩ := ho3.shapeN
  have HN3 := Lib.hid hn3
  have HB3 := Lib.hid (HB0.out.grown hg3 (by simp; omega) (fun g hh => by have := (HO.out.lt g hh).1; omega))
  have HR3 := Lib.hid (HR.out.grown hg3 (by simp [Value.ownBlock]))
  have HX3 := Lib.hid (HX.out.grown hg3 (by simp [Value.ownBlock]; omega))
  have hz3 := hg3.size
  simp only [World.size_alloc] at hz3
  have HO3 := Lib.hid (ho3.on ((Below.refl _ _).alloc (Nat.le_refl _) (.cells #[.string s] 9)))
  clear hn3 ho3 hg3
  go_wp2_with (at_builtin; refine wpList_app (enc := Value.string) (B := w.heap.size + 1 + 1) (l := l) (m := [s]) rfl _ _ rfl Tryz.underlying24 elemSTR rfl rfl rfl HO3.out (holds_one Value.string 9 w3 s) oneStr (by rw [← HN.out]; simp; omega) (by rw [← HN.out]; unfold maxLen; simp; omega) (by simp; omega) ?_)
  intro v4 w4 ho4 hg4
  obtain ⟨x4, n4, c4, rfl, hn4, hc4, ho4⟩ := ho4.shapeN
  clear hn4
  have HB4 := Lib.hid ((HB3.out.alloc (by omega) (.cells #[.string s] 9)).grown hg4 (by simp; omega) (fun g hh => by have := (HO3.out.lt g hh).1; omega))
  have hne : ∀ g, g ≤ w.heap.size + 1 → some g ≠ (Value.slice x3 n3 c3).ownBlock := fun g hg e => by have := (HO3.out.lt g e.symm).1; omega
  have HR4 := Lib.hid ((HR3.out.alloc (.cells #[.string s] 9)).grown hg4 (hne _ (by omega)))
  have HX4 := Lib.hid ((HX3.out.alloc (.cells #[.string s] 9)).grown hg4 (hne _ (by omega)))
  have hz4 := hg4.size
  simp only [World.size_alloc] at hz4
  have HO4 := Lib.hid (ho4.on ((Below.refl _ _).alloc (Nat.le_refl _) (.cells #[.slice x4 n4 c4] 29)))
  clear ho4 hg4 hne
  go_wp2_with fail
  refine (specValidName _ _ _ HO4.out.holds HBK.out).mono ?_
  rintro e w5 ⟨rfl, hb5⟩
  have HT5 := Lib.hid ((Ret.NC.new' (w := w4) (.slice x4 n4 c4) 29 rfl).on hb5)
  have HR5 := Lib.hid ((HR4.out.alloc (.cells #[.slice x4 n4 c4] 29)).on hb5)
  have HX5 := Lib.hid ((HX4.out.alloc (.cells #[.slice x4 n4 c4] 29)).on hb5)
  have HO5 := Lib.hid (HO4.out.on hb5)
  have HB5 := Lib.hid ((HB4.out.alloc (by omega) (.cells #[.slice x4 n4 c4] 29)).trans (hb5.mono (by simp; omega)))
  have hz5 := hb5.size
  simp only [World.size_alloc] at hz5
  clear hb5
  cases hv : validN (l ++ [s]) with
  | true =>
    have HY := Lib.hid (appN_yes hv)
    have HV := Lib.hid hv
    obtain ⟨hk6, hf6⟩ := HT5.out
    obtain ⟨hk2, hf2⟩ := HR5.out
    obtain ⟨q1, q2, q3⟩ := endN (w := w) (g := w.heap.size + 1) (by omega) (by omega) HO5.out hk2 HB5.out
    have HQ1 := Lib.hid q1; have HQ2 := Lib.hid q2; have HQ3 := Lib.hid q3
    clear q1 q2 q3
    go_wp2
    refine bodyPost_ret (Ret.results_ct rfl _ _ (w.heap.size + 1) [_] rfl aggN (Ret.one HQ1.out)) rfl ?_
    exact ⟨_, ret_nb HV.out.symm, by rw [HY.out]; exact HQ2.out, HQ3.out⟩
  | false =>
    have HY := Lib.hid (appN_no hv)
    have HV := Lib.hid hv
    have hx5 := HX5.out.1
    go_wp2_with fail
    refine (l4Copy _ l _ (HH.out.on HB5.out) (by rw [← HN.out]; exact hll)).mono ?_
    rintro e w6 ⟨v6, rfl, ho6, hb6⟩
    obtain ⟨x6, n6, c6, rfl, hn6, hc6, ho6⟩ := ho6.shapeN
    clear hn6
    have HB6 := Lib.hid (HB5.out.trans (hb6.mono HB5.out.size))
    obtain ⟨hk2, hf2⟩ := HR5.out.on hb6
    obtain ⟨q1, q2, q3⟩ := endN (w := w) (g := w.heap.size + 1) (by omega) (by omega) ho6 hk2 HB6.out
    have HQ1 := Lib.hid q1; have HQ2 := Lib.hid q2; have HQ3 := Lib.hid q3
    clear q1 q2 q3 ho6 hb6
    go_wp2
    refine bodyPost_ret (Ret.results_ct rfl _ _ (w.heap.size + 1) [_] rfl aggN (Ret.one HQ1.out)) rfl ?_
    exact ⟨_, ret_nb HV.out.symm, by rw [HY.out]; exact HQ2.out, HQ3.out⟩

end Go.Proofs.YtkojeajjappchaaGreat.Row
/- Contracts of ParseName, the program's and the reference model's. No conditions but that lengths fit. -/
namespace Go.Proofs.YtkojeajjappchaaGreat.Row
open Go.ChangeShapes Go.WideShapes Go.ChangeAt Go.RowKit Go.Instr
set_option linter.unusedVariables false
set_option maxRecDepth 100000

theorem bulk_filter (p : ByteArray → Bool) : ∀ l : List ByteArray, bulk (l.filter p) ≤ bulk l
  | [] => by simp
  | x :: l => by
    have := bulk_filter p l
    rw [List.filter_cons]
    split
    · rw [bulk_cons, bulk_cons]; omega
    · rw [bulk_cons]; omega
theorem bulk_goS : ∀ (t cur : List UInt8), bulk ((goS cur t).map mk) = cur.length + t.length + 1
  | [], cur => by simp [goS, bulk_one, mk_size]; omega
  | c :: t, cur => by
    unfold goS
    split
    · rw [List.map_cons, bulk_cons, bulk_goS t, mk_size]; simp; omega
    · rw [bulk_goS t]; simp; omega
theorem bulk_split (s : ByteArray) : bulk (splitB s) = s.size + 1 := by
  unfold splitB; rw [bulk_goS, bl_length]; simp
theorem bulk_parts (s : ByteArray) : bulk (partsB s) ≤ s.size + 1 := by
  have := bulk_filter fullB (splitB s)
  rw [bulk_split] at this
  exact this
theorem split_pos (s : ByteArray) : 0 < (splitB s).length := by
  unfold splitB; rw [List.length_map]
  exact List.length_pos_iff.2 (goS_ne _ _)

theorem tl47 : (mk [47]).toList = [47] := ByteArray.toList_mk [47]
theorem tl0 : (mk []).toList = [] := ByteArray.toList_mk []

end Go.Proofs.YtkojeajjappchaaGreat.Row
/- Contracts of FormatPattern and ParsePattern, the program's and the model's. No conditions but that lengths fit. -/
namespace Go.Proofs.YtkojeajjappchaaGreat.Row
open Go.ChangeShapes Go.WideShapes Go.ChangeAt Go.RowKit Go.Instr
set_option linter.unusedVariables false
set_option maxRecDepth 100000

theorem validPat_nil : validPat [] = true := validPat_iff.2 ⟨by simp, fun j h => absurd h (by simp)⟩
theorem part_good {s : ByteArray} {b : Bool} (h : elemP s b = true) : fullB s = true ∧ ∀ c ∈ bl s, c ≠ 47 := by
  rcases elemP_iff.1 h with h | h | h | ⟨h, _⟩
  · exact ⟨valid_full h, valid_free h⟩
  · subst h
    exact ⟨by decide, fun c hc => by simp [bl, starB] at hc; rw [hc]; decide⟩
  · obtain ⟨h2, h0, h1, h3⟩ := letterP_iff.1 h
    refine ⟨by unfold fullB; exact decide_eq_true (by omega), fun c hc e => ?_⟩
    obtain ⟨i, hi, rfl⟩ := List.getElem_of_mem hc
    rw [bl_length] at hi
    rw [bl_get s i hi] at e
    have : i = 0 ∨ i = 1 := by omega
    rcases this with rfl | rfl
    · rw [e] at h0; exact absurd h0 (by decide)
    · rw [e] at h1; exact absurd h1 (by decide)
  · subst h
    exact ⟨by decide, fun c hc => by simp [bl, star2B] at hc; rw [hc]; decide⟩
theorem patElem_full {l : List ByteArray} (h : validPat l = true) {p : ByteArray} (hp : p ∈ l) : fullB p = true := by
  obtain ⟨j, hj, rfl⟩ := List.getElem_of_mem hp
  have := (validPat_iff.1 h).2 j hj
  rw [nth_eq hj] at this
  exact (part_good this).1
theorem patElem_free {l : List ByteArray} (h : validPat l = true) {p : ByteArray} (hp : p ∈ l) : ∀ c ∈ bl p, c ≠ 47 := by
  obtain ⟨j, hj, rfl⟩ := List.getElem_of_mem hp
  have := (validPat_iff.1 h).2 j hj
  rw [nth_eq hj] at this
  exact (part_good this).2
def ppOk (s : ByteArray) : Bool := validPat (partsB s) && decide (fmtS (partsB s) = s)
def ppN (s : ByteArray) : List ByteArray := if ppOk s = true then partsB s else []
theorem pt_filter_valid {l : List ByteArray} (h : validPat l = true) : l.filter fullB = l := by
  rw [List.filter_eq_self]
  exact fun p hp => patElem_full h hp
theorem pt_free_of_valid {l : List ByteArray} (h : validPat l = true) : ∀ p ∈ l.map bl, ∀ c ∈ p, c ≠ 47 := by
  intro p hp
  obtain ⟨q, hq, rfl⟩ := List.mem_map.1 hp
  exact patElem_free h hq

/-- The text of a right name that has parts is split into the empty piece and the parts. -/
theorem pt_split_fmt {l : List ByteArray} (h : validPat l = true) (hl : l ≠ []) : splitB (fmtS l) = mk [] :: l := by
  unfold splitB fmtS fmtL
  rw [bl_mk, goS, if_pos rfl, goS_join (l.map bl) (by simpa using hl) (pt_free_of_valid h), List.map_cons, map_mk_bl]
theorem pt_parts_fmt {l : List ByteArray} (h : validPat l = true) : partsB (fmtS l) = l := by
  by_cases hl : l = []
  · subst hl
    rw [fmtS_nil]
    unfold partsB splitB
    rw [bl_mk]
    simp [goS, fullB, mk_size]
  · unfold partsB
    rw [pt_split_fmt h hl, List.filter_cons_of_neg (by simp [fullB, mk_size]), pt_filter_valid h]
theorem ppOk_fmt {l : List ByteArray} (h : validPat l = true) : ppOk (fmtS l) = true := by
  unfold ppOk; rw [pt_parts_fmt h, h]; simp
theorem ppN_fmt {l : List ByteArray} (h : validPat l = true) : ppN (fmtS l) = l := by
  unfold ppN; rw [if_pos (ppOk_fmt h), pt_parts_fmt h]
theorem ppOk_iff {s : ByteArray} : ppOk s = true ↔ validPat (partsB s) = true ∧ fmtS (partsB s) = s := by unfold ppOk; simp
theorem ppN_yes {s : ByteArray} (h : ppOk s = true) : ppN s = partsB s := if_pos h
theorem ppN_no {s : ByteArray} (h : ppOk s = false) : ppN s = [] := if_neg (by simp [h])
theorem pt_fmt_pN {s : ByteArray} (h : ppOk s = true) : fmtS (ppN s) = s := by rw [ppN_yes h]; exact (ppOk_iff.1 h).2
theorem pt_valid_pN (s : ByteArray) : validPat (ppN s) = true := by
  cases h : ppOk s with
  | true => rw [ppN_yes h]; exact (ppOk_iff.1 h).1
  | false => rw [ppN_no h]; exact validPat_nil

/-- The reference model's way: what the pieces are asked. -/
theorem ppOk_slash : ppOk (mk [47]) = true ∧ ppN (mk [47]) = [] := by
  have h : validPat [] = true := validPat_nil
  rw [← fmtS_nil]
  exact ⟨ppOk_fmt h, ppN_fmt h⟩
theorem pt_split_yes {s : ByteArray} {rest : List ByteArray} (h : splitB s = mk [] :: rest) (hr : rest ≠ []) (hv : validPat rest = true) : ppOk s = true ∧ ppN s = rest := by
  have hs : fmtS rest = s := by
    apply bl_inj
    have h1 : goS [] (bl s) = [] :: rest.map bl := by
      have := congrArg (List.map bl) h
      unfold splitB at this
      rw [map_bl_mk, List.map_cons, bl_mk] at this
      exact this
    have h2 := join_goS (bl s) []
    rw [h1] at h2
    obtain ⟨y, r, rfl⟩ : ∃ y r, rest = y :: r := by
      cases rest with
      | nil => exact absurd rfl hr
      | cons y r => exact ⟨y, r, rfl⟩
    rw [List.map_cons, join_cons2, ← List.map_cons] at h2
    unfold fmtS fmtL
    rw [bl_mk]
    exact h2
  rw [← hs]
  exact ⟨ppOk_fmt hv, ppN_fmt hv⟩
theorem pt_split_no {s : ByteArray} (h47 : s ≠ mk [47]) (h : ∀ rest, splitB s = mk [] :: rest → rest ≠ [] → validPat rest = false) : ppOk s = false := by
  cases hp : ppOk s with
  | false => rfl
  | true =>
    obtain ⟨h1, h2⟩ := ppOk_iff.1 hp
    by_cases he : partsB s = []
    · rw [he, fmtS_nil] at h2
      exact absurd h2.symm h47
    · have h3 := pt_split_fmt h1 he
      rw [h2] at h3
      have h4 := h _ h3 he
      rw [h1] at h4; cases h4

theorem aggPt : Ret.AggOf Tryz.prog 26 1 := by unfold Ret.AggOf; exact ⟨by kernel_rfl, by kernel_rfl⟩

set_option maxHeartbeats 1000000 in
theorem implFormatPattern (v : Value) (l : List ByteArray) (w : World) (h : Holds Value.string w v l) (hl : bulk l ≤ 100000000) :
    Calls Tryz.prog 41 #[.agg #[v]] w fun e w' => e = .returned (.string (fmtS l)) ∧ Below w.heap.size w w' := by
  obtain ⟨x, n, cap, rfl, hn, hcap, hh⟩ := h.shapeN
  have HB := Lib.hid ((Below.refl w.heap.size w).alloc (Nat.le_refl _) (.cells #[.slice x n cap] 26))
  have HH := Lib.hid (hh.on HB.out); have HL := Lib.hid hl
  clear hh h hn hl
  go_enter Tryz.func41, Tryz.ntmps41
  go_wp2_with fail
  refine (implFormatName _ l _ HH.out HL.out).mono ?_
  rintro e w' ⟨rfl, hb⟩
  have HB2 := Lib.hid (HB.out.trans (hb.mono (by simp))); clear hb
  go_wp2
  go_ret
  exact ⟨rfl, HB2.out⟩

set_option maxHeartbeats 1000000 in
theorem specFormatPattern (v : Value) (l : List ByteArray) (w : World) (h : Holds Value.string w v l) (hl : bulk l ≤ 100000000) :
    Calls Tryz.prog 42 #[.agg #[v]] w fun e w' => e = .returned (.string (fmtS l)) ∧ Below w.heap.size w w' := by
  obtain ⟨x, n, cap, rfl, hn, hcap, hh⟩ := h.shapeN
  have HB := Lib.hid ((Below.refl w.heap.size w).alloc (Nat.le_refl _) (.cells #[.slice x n cap] 26))
  have HH := Lib.hid (hh.on HB.out); have HL := Lib.hid hl
  clear hh h hn hl
  go_enter Tryz.func42, Tryz.ntmps42
  go_wp2_with fail
  refine (specFormatName _ l _ HH.out HL.out).mono ?_
  rintro e w' ⟨rfl, hb⟩
  have HB2 := Lib.hid (HB.out.trans (hb.mono (by simp))); clear hb
  go_wp2
  go_ret
  exact ⟨rfl, HB2.out⟩

set_option maxHeartbeats 2000000 in
theorem implParsePattern (s : ByteArray) (w : World) (hs : s.size ≤ 10000000) :
    Calls Tryz.prog 33 #[.string s] w (GivesNB w (ppN s) (ppOk s)) := by
  have HBK := Lib.hid (show bulk (partsB s) ≤ 100000000 by have := bulk_parts s; omega)
  have HB0 := Lib.hid ((Below.refl w.heap.size w).alloc (Nat.le_refl _) (.cells #[.slice none 0 0] 26))
  have HR := Lib.hid (Ret.NC.new' (w := w) (.slice none 0 0) 26 rfl)
  go_enter Tryz.func33, Tryz.ntmps33
  go_wp2_with fail
  refine (splitParts s _ hs).mono ?_
  rintro e w1 ⟨v1, rfl, ho1, hb1⟩
  obtain ⟨x1, n1, c1, rfl, hn1, hc1, ho1⟩ := ho1.shapeN
  clear hn1
  have HB1 := Lib.hid (HB0.out.trans (hb1.mono HB0.out.size))
  have HR1 := Lib.hid (HR.out.on hb1)
  have hz1 := hb1.size
  simp only [World.size_alloc] at hz1 ho1
  have HO1 := Lib.hid (ho1.on ((Below.refl _ _).alloc (Nat.le_refl _) (.cells #[.slice x1 n1 c1] 26)))
  clear ho1 hb1
  go_wp2_with fail
  refine (implValidPattern _ _ _ HO1.out.holds HBK.out).mono ?_
  rintro e w2 ⟨rfl, hb2⟩
  have HT2 := Lib.hid ((Ret.NC.new' (w := w1) (.slice x1 n1 c1) 26 rfl).on hb2)
  have HR2 := Lib.hid ((HR1.out.alloc (.cells #[.slice x1 n1 c1] 26)).on hb2)
  have HO2 := Lib.hid (HO1.out.on hb2)
  have HB2 := Lib.hid ((HB1.out.alloc HB1.out.size (.cells #[.slice x1 n1 c1] 26)).trans (hb2.mono (by simp; omega)))
  have hz2 := hb2.size
  simp only [World.size_alloc] at hz2
  clear hb2
  cases hv : validPat (partsB s) with
  | false =>
    have HP := Lib.hid (show ppOk s = false by unfold ppOk; rw [hv]; rfl)
    have HPN := Lib.hid (ppN_no HP.out)
    clear hv
    obtain ⟨hk2, hf2⟩ := HR2.out
    obtain ⟨q1, q2, q3⟩ := endN (w := w) (g := w.heap.size) (B := w.heap.size + 1) (v := .slice none 0 0) (l := []) (by omega) (by omega) (Own.nil _ _ _ _) hk2 HB2.out
    have HQ1 := Lib.hid q1; have HQ2 := Lib.hid q2; have HQ3 := Lib.hid q3
    clear q1 q2 q3
    go_wp2
    refine bodyPost_ret (Ret.results_ct rfl _ _ w.heap.size [_] rfl aggPt (Ret.one HQ1.out)) rfl ?_
    exact ⟨_, ret_nb HP.out.symm, by rw [HPN.out]; exact HQ2.out, HQ3.out⟩
  | true =>
    have HV := Lib.hid hv
    obtain ⟨ht2, -⟩ := HT2.out
    go_wp2_with fail
    refine (implFormatPattern _ _ _ HO2.out.holds HBK.out).mono ?_
    rintro e w3 ⟨rfl, hb3⟩
    have HR3 := Lib.hid (HR2.out.on hb3)
    have HO3 := Lib.hid (HO2.out.on hb3)
    have HB3 := Lib.hid (HB2.out.trans (hb3.mono HB2.out.size))
    have HT3 := Lib.hid (HT2.out.on hb3)
    clear hb3 ht2
    by_cases he : fmtS (partsB s) = s
    · have HP := Lib.hid (show ppOk s = true by unfold ppOk; rw [hv, he]; simp)
      have HPN := Lib.hid (ppN_yes HP.out)
      have hq := tl_eq he
      clear he hv
      obtain ⟨ht3, -⟩ := HT3.out
      obtain ⟨hk2, hf2⟩ := HR3.out
      obtain ⟨q1, q2, q3⟩ := endN (w := w) (g := w.heap.size) (by omega) (by omega) HO3.out hk2 HB3.out
      have HQ1 := Lib.hid q1; have HQ2 := Lib.hid q2; have HQ3 := Lib.hid q3
      clear q1 q2 q3
      go_wp2
      refine bodyPost_ret (Ret.results_ct rfl _ _ w.heap.size [_] rfl aggPt (Ret.one HQ1.out)) rfl ?_
      exact ⟨_, ret_nb HP.out.symm, by rw [HPN.out]; exact HQ2.out, HQ3.out⟩
    · have HP := Lib.hid (show ppOk s = false by unfold ppOk; rw [hv]; simp [he])
      have HPN := Lib.hid (ppN_no HP.out)
      have hq := tl_ne he
      clear he hv
      obtain ⟨hk2, hf2⟩ := HR3.out
      obtain ⟨q1, q2, q3⟩ := endN (w := w) (g := w.heap.size) (B := w.heap.size + 1) (v := .slice none 0 0) (l := []) (by omega) (by omega) (Own.nil _ _ _ _) hk2 HB3.out
      have HQ1 := Lib.hid q1; have HQ2 := Lib.hid q2; have HQ3 := Lib.hid q3
      clear q1 q2 q3
      go_wp2
      refine bodyPost_ret (Ret.results_ct rfl _ _ w.heap.size [_] rfl aggPt (Ret.one HQ1.out)) rfl ?_
      exact ⟨_, ret_nb HP.out.symm, by rw [HPN.out]; exact HQ2.out, HQ3.out⟩

set_option maxHeartbeats 2000000 in
theorem specParsePattern (s : ByteArray) (w : World) (hs : s.size ≤ 10000000) :
    Calls Tryz.prog 35 #[.string s] w (GivesHB w (ppN s) (ppOk s)) := by
  have HB0 := Lib.hid ((Below.refl w.heap.size w).alloc (Nat.le_refl _) (.cells #[.slice none 0 0] 26))
  have HR := Lib.hid (Ret.NC.new' (w := w) (.slice none 0 0) 26 rfl)
  by_cases h47 : s = mk [47]
  · obtain ⟨p1, p2⟩ := ppOk_slash
    rw [← h47] at p1 p2
    have HP := Lib.hid p1; have HPN := Lib.hid p2
    have hq : (s.toList == [47]) = true := by rw [h47, tl47]; rfl
    clear p1 p2 h47
    go_enter Tryz.func35, Tryz.ntmps35
    go_wp2
    refine bodyPost_ret (Ret.results_ct rfl _ _ w.heap.size [_] rfl aggPt (Ret.one HR.out.1)) rfl ?_
    exact ⟨_, ret_nb HP.out.symm, by rw [HPN.out]; exact Holds.nil _ _, HB0.out⟩
  · have h47l : s.toList ≠ [47] := fun e => h47 (toList_inj (e.trans tl47.symm))
    have hq : (s.toList == [47]) = false := by simpa using h47l
    have H47 := Lib.hid h47
    have hpos := split_pos s
    have hbk := bulk_split s
    have hlb := bulk_len (splitB s)
    obtain ⟨n, hn⟩ : ∃ n, n = (splitB s).length := ⟨_, rfl⟩
    rw [← hn] at hpos hlb
    have hnb : n ≤ 10000001 := by omega
    have HN := Lib.hid hn
    have HBK := Lib.hid hbk
    clear h47 h47l hn hbk hlb
    go_enter Tryz.func35, Tryz.ntmps35
    go_wp2_with fail
    refine (l4Split s _ hs).mono ?_
    rintro e w1 ⟨v1, rfl, ho1, hb1⟩
    have HB1 := Lib.hid (HB0.out.trans (hb1.mono HB0.out.size))
    have HR1 := Lib.hid (HR.out.on hb1)
    obtain ⟨g, c1, rfl, hg1, hg2, hc1⟩ : ∃ g c1, v1 = .slice (some ⟨g, 0, none⟩) n c1 ∧ w.heap.size + 1 ≤ g ∧ g < w1.heap.size ∧ n ≤ c1 := by
      rcases ho1.form with ⟨_, h2⟩ | ⟨g, c1, h1, h2, h3, h4, h5⟩
      · exact absurd (congrArg List.length h2) (by rw [← HN.out]; simp; omega)
      · exact ⟨g, c1, by rw [h1, HN.out], by simpa using h2, h3, by rw [HN.out]; exact h4⟩
    have HH1 := Lib.hid ho1.holds
    clear ho1 hb1
    by_cases h2 : n = 1
    · subst h2
      have HP := Lib.hid (pt_split_no H47.out (fun rest h hr => by
        have h3 := HN.out
        rw [h] at h3
        simp at h3
        exact absurd h3 hr))
      have HPN := Lib.hid (ppN_no HP.out)
      by_cases hc : c1 = 1
      · subst hc
        obtain ⟨hk2, hf2⟩ := HR1.out.alloc (.cells #[.slice (some ⟨g, 0, none⟩) 0 0] 26)
        obtain ⟨q1, q2, q3⟩ := endN (w := w) (g := w.heap.size) (B := w.heap.size + 1) (v := .slice none 0 0) (l := []) (by omega) (by omega) (Own.nil _ _ _ _) hk2 (HB1.out.alloc HB1.out.size (.cells #[.slice (some ⟨g, 0, none⟩) 0 0] 26))
        have HQ1 := Lib.hid q1; have HQ2 := Lib.hid q2; have HQ3 := Lib.hid q3
        clear q1 q2 q3
        go_wp2
        refine bodyPost_ret (Ret.results_ct rfl _ _ w.heap.size [_] rfl aggPt (Ret.one HQ1.out)) rfl ?_
        exact ⟨_, ret_nb HP.out.symm, by rw [HPN.out]; exact HQ2.out.holds, HQ3.out⟩
      · have hc2 : ¬ c1 - 1 = 0 := by omega
        obtain ⟨hk2, hf2⟩ := HR1.out.alloc (.cells #[.slice (some ⟨g, 1, none⟩) 0 (c1 - 1)] 26)
        obtain ⟨q1, q2, q3⟩ := endN (w := w) (g := w.heap.size) (B := w.heap.size + 1) (v := .slice none 0 0) (l := []) (by omega) (by omega) (Own.nil _ _ _ _) hk2 (HB1.out.alloc HB1.out.size (.cells #[.slice (some ⟨g, 1, none⟩) 0 (c1 - 1)] 26))
        have HQ1 := Lib.hid q1; have HQ2 := Lib.hid q2; have HQ3 := Lib.hid q3
        clear q1 q2 q3
        go_wp2
        refine bodyPost_ret (Ret.results_ct rfl _ _ w.heap.size [_] rfl aggPt (Ret.one HQ1.out)) rfl ?_
        exact ⟨_, ret_nb HP.out.symm, by rw [HPN.out]; exact HQ2.out.holds, HQ3.out⟩
    · have hn2 : 2 ≤ n := by omega
      have hn3 : decide ((n : Int) < 2) = false := by simp; omega
      have hc2 : ¬ c1 = 1 := by omega
      obtain ⟨b0, off0, he0, hcell⟩ := HH1.out.at (j := 0) (by rw [← HN.out]; omega)
      cases he0
      have HD := Lib.hid ((HH1.out.drop (j := 1) (by rw [← HN.out]; omega)).on ((Below.refl _ _).alloc (Nat.le_refl _) (.cells #[.slice (some ⟨g, 1, none⟩) (n - 1) (c1 - 1)] 26)))
      have HL := Lib.hid (show splitB s = nth (splitB s) 0 :: (splitB s).drop 1 by
        have := drop_nth (l := splitB s) (k := 0) (by rw [← HN.out]; omega)
        rw [List.drop_zero] at this
        exact this)
      have HDN := Lib.hid (show (splitB s).drop 1 ≠ [] by
        intro e
        have := congrArg List.length e
        rw [List.length_drop, ← HN.out] at this
        simp at this; omega)
      have HBD := Lib.hid (show bulk ((splitB s).drop 1) ≤ 100000000 by
        have h3 := HBK.out
        rw [HL.out, bulk_cons] at h3
        omega)
      have HR2 := Lib.hid (HR1.out.alloc (.cells #[.slice (some ⟨g, 1, none⟩) (n - 1) (c1 - 1)] 26))
      have HT2 := Lib.hid (Ret.NC.new' (w := w1) (.slice (some ⟨g, 1, none⟩) (n - 1) (c1 - 1)) 26 rfl)
      have HB2 := Lib.hid (HB1.out.alloc HB1.out.size (.cells #[.slice (some ⟨g, 1, none⟩) (n - 1) (c1 - 1)] 26))
      rw [Nat.add_zero] at hcell
      by_cases hx : nth (splitB s) 0 = mk []
      · have hxe : (nth (splitB s) 0).toList.isEmpty = true := by rw [hx, tl0]; rfl
        have HX := Lib.hid hx
        clear hx
        go_wp2_with fail
        refine (specValidPattern _ _ _ HD.out HBD.out).mono ?_
        rintro e w3 ⟨rfl, hb3⟩
        have HR3 := Lib.hid (HR2.out.on hb3)
        have HT3 := Lib.hid (HT2.out.on hb3)
        have HD3 := Lib.hid (HD.out.on hb3)
        have HB3 := Lib.hid (HB2.out.trans (hb3.mono HB2.out.size))
        clear hb3
        cases hv : validPat ((splitB s).drop 1) with
        | true =>
          obtain ⟨p1, p2⟩ := pt_split_yes (by have := HL.out; rw [HX.out] at this; exact this) HDN.out hv
          have HP := Lib.hid p1; have HPN := Lib.hid p2
          obtain ⟨hk2, hf2⟩ := HR3.out
          obtain ⟨hk3, -⟩ := HT3.out
          have HQ1 := Lib.hid (Ret.set_same (v := .slice (some ⟨g, 1, none⟩) (n - 1) (c1 - 1)) hk2)
          have HQ2 := Lib.hid (HD3.out.grown (Ret.grownBy_set w3 ⟨w.heap.size, 0, none⟩ (.slice (some ⟨g, 1, none⟩) (n - 1) (c1 - 1))) (fun g1 h1 e1 => by simp [Value.ownBlock] at h1 e1; omega))
          have HQ3 := Lib.hid (HB3.out.setCell (p := ⟨w.heap.size, 0, none⟩) (Nat.le_refl _) (.slice (some ⟨g, 1, none⟩) (n - 1) (c1 - 1)))
          clear p1 p2 hv
          go_wp2
          refine bodyPost_ret (Ret.results_ct rfl _ _ w.heap.size [_] rfl aggPt (Ret.one HQ1.out)) rfl ?_
          exact ⟨_, ret_nb HP.out.symm, by rw [HPN.out]; exact HQ2.out, HQ3.out⟩
        | false =>
          have HP := Lib.hid (pt_split_no H47.out (fun rest h hr => by
            have h3 := HL.out
            rw [h] at h3
            have h4 := (List.cons.inj h3).2
            rw [h4, ← h]; exact hv))
          have HPN := Lib.hid (ppN_no HP.out)
          obtain ⟨hk2, hf2⟩ := HR3.out
          obtain ⟨q1, q2, q3⟩ := endN (w := w) (g := w.heap.size) (B := w.heap.size + 1) (v := .slice none 0 0) (l := []) (by omega) (by omega) (Own.nil _ _ _ _) hk2 HB3.out
          have HQ1 := Lib.hid q1; have HQ2 := Lib.hid q2; have HQ3 := Lib.hid q3
          clear q1 q2 q3 hv
          go_wp2
          refine bodyPost_ret (Ret.results_ct rfl _ _ w.heap.size [_] rfl aggPt (Ret.one HQ1.out)) rfl ?_
          exact ⟨_, ret_nb HP.out.symm, by rw [HPN.out]; exact HQ2.out.holds, HQ3.out⟩
      · have hxe : (nth (splitB s) 0).toList.isEmpty = false := by
          have : (nth (splitB s) 0).toList ≠ [] := fun e => hx (toList_inj (e.trans tl0.symm))
          simpa using this
        have HP := Lib.hid (pt_split_no H47.out (fun rest h hr => by
          have h3 := HL.out
          rw [h] at h3
          exact absurd (by rw [h]; exact (List.cons.inj h3).1.symm) hx))
        have HPN := Lib.hid (ppN_no HP.out)
        clear hx
        obtain ⟨hk2, hf2⟩ := HR2.out
        obtain ⟨q1, q2, q3⟩ := endN (w := w) (g := w.heap.size) (B := w.heap.size + 1) (v := .slice none 0 0) (l := []) (by omega) (by omega) (Own.nil _ _ _ _) hk2 HB2.out
        have HQ1 := Lib.hid q1; have HQ2 := Lib.hid q2; have HQ3 := Lib.hid q3
        clear q1 q2 q3
        go_wp2
        refine bodyPost_ret (Ret.results_ct rfl _ _ w.heap.size [_] rfl aggPt (Ret.one HQ1.out)) rfl ?_
        exact ⟨_, ret_nb HP.out.symm, by rw [HPN.out]; exact HQ2.out.holds, HQ3.out⟩

end Go.Proofs.YtkojeajjappchaaGreat.Row
