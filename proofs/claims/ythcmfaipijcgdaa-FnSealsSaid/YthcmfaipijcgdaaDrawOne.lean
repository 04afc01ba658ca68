/- Contracts of the reference model's draws of numbers, over the cursor of Draw: each gives a number that fits its kind, and leaves all but the cursor as it was. -/
import Derived.Test.YthcmfaipijcgdaaDraw
import Derived.Lib.SmallJoins
namespace Go.Proofs.Ythcmfaipijcgdaa.Draw
open Go.ChangeShapes Go.WideShapes Go.ChangeAt Go.RowKit Go.Instr
set_option linter.unusedVariables false

theorem wf_of {n : Int} (h0 : -9223372036854775808 ≤ n) (h1 : n ≤ 9223372036854775807) : (Lit.int .i64 n).wf = true := by
  have e1 : IntKind.i64.min = -9223372036854775808 := rfl
  have e2 : IntKind.i64.max = 9223372036854775807 := rfl
  simp [Lit.wf, e1, e2, h0, h1]
theorem wf64 {n : Int} (w0 : (Lit.int .i64 n).wf = true) : -9223372036854775808 ≤ n ∧ n ≤ 9223372036854775807 := by
  have e1 : IntKind.i64.min = -9223372036854775808 := rfl
  have e2 : IntKind.i64.max = 9223372036854775807 := rfl
  simpa [Lit.wf, e1, e2] using w0
theorem keep_alloc (p : Nat) (w : World) (o : Obj) : Keep p w (w.alloc o) := Keep.of_below (Joins.below_alloc1 w o)
theorem Cur.lt {w0 : World} {p : Nat} {v : Value} {l : List UInt8} {w : World} (hc : Cur w0 p v l w) : p < w.heap.size := by
  obtain ⟨i, h, _, _, hr⟩ := hc.row
  exact (Array.getElem?_eq_some_iff.1 hr).1
theorem Cur.alloc {w0 : World} {p : Nat} {v : Value} {l : List UInt8} {w : World} (hc : Cur w0 p v l w) (o : Obj) : Cur w0 p v l (w.alloc o) := by
  obtain ⟨i, h, h0, h1, hr⟩ := hc.row
  refine ⟨hc.bytes, hc.below.trans (below_le' ?_), hc.place, i, h, h0, h1, ?_⟩
  · exact (Joins.below_alloc1 w o).mono hc.below.size
  · rw [Below.heap_alloc w o p hc.lt]; exact hr
where below_le' {a b : World} {B : Nat} (h : Below B a b) : Below B a b := h

/-- The cursor and its world, whatever was laid beside it. -/
theorem Drawn.from {w0 : World} {p : Nat} {v : Value} {l : List UInt8} {w w1 : World} {Q : Value → Prop} {e : Ending} {w' : World} (h : Drawn w0 p v l w1 Q e w') (hk : Keep p w w1) : Drawn w0 p v l w Q e w' := by
  obtain ⟨x, h1, h2, h3, h4⟩ := h
  exact ⟨x, h1, h2, h3, hk.trans h4⟩
theorem Drawn.imp {w0 : World} {p : Nat} {v : Value} {l : List UInt8} {w : World} {Q R : Value → Prop} {e : Ending} {w' : World} (h : Drawn w0 p v l w Q e w') (hq : ∀ x, Q x → R x) : Drawn w0 p v l w R e w' := by
  obtain ⟨x, h1, h2, h3, h4⟩ := h
  exact ⟨x, h1, hq x h2, h3, h4⟩

def Is64 (x : Value) : Prop := ∃ n : Int, x = .int .i64 n ∧ (Lit.int .i64 n).wf = true

theorem intLit (w0 : World) (p : Nat) (v : Value) (l : List UInt8) (w : World) (hc : Cur w0 p v l w) (xs : List Int) (C : Array Value) (hC : C = (xs.map (Value.int .i64)).toArray) (n : Nat) (hn : xs.length = n) (h0 : 0 < n) (h1 : n < 1000)
    (Q : Value → Prop) (hQ : ∀ x ∈ xs, Q (.int .i64 x)) :
    Calls Try.prog 67 #[.pointer (some ⟨p, 0, none⟩), .slice (some ⟨w.heap.size, 0, none⟩) n n] (w.alloc (.cells C 3)) (Drawn w0 p v l w Q) := by
  subst hC
  have hlt := hc.lt
  refine (int w0 p v l _ w.heap.size (xs.map (Value.int .i64)) n (by simpa using hn) h0 h1 (hc.alloc _) (by omega) (fun j hj => ?_)).mono fun e w' h => ?_
  · rw [World.cell?_alloc_mark]; simp at hj; simp [hj]
  · refine (h.from (keep_alloc p w _)).imp fun x hx => ?_
    obtain ⟨y, hy, rfl⟩ := List.mem_map.1 hx
    exact hQ y hy

theorem strLit (w0 : World) (p : Nat) (v : Value) (l : List UInt8) (w : World) (hc : Cur w0 p v l w) (xs : List ByteArray) (C : Array Value) (hC : C = (xs.map Value.string).toArray) (n : Nat) (hn : xs.length = n) (h0 : 0 < n) (h1 : n < 1000)
    (Q : Value → Prop) (hQ : ∀ x ∈ xs, Q (.string x)) :
    Calls Try.prog 55 #[.pointer (some ⟨p, 0, none⟩), .slice (some ⟨w.heap.size, 0, none⟩) n n] (w.alloc (.cells C 9)) (Drawn w0 p v l w Q) := by
  subst hC
  have hlt := hc.lt
  refine (strOf w0 p v l _ w.heap.size (xs.map Value.string) n (by simpa using hn) h0 h1 (hc.alloc _) (by omega) (fun j hj => ?_)).mono fun e w' h => ?_
  · rw [World.cell?_alloc_mark]; simp at hj; simp [hj]
  · refine (h.from (keep_alloc p w _)).imp fun x hx => ?_
    obtain ⟨y, hy, rfl⟩ := List.mem_map.1 hx
    exact hQ y hy

theorem wf_lits {xs : List Int} (h : xs.all (fun n => (Lit.int .i64 n).wf) = true) : ∀ x ∈ xs, Is64 (.int .i64 x) := fun x hx => ⟨x, rfl, List.all_eq_true.1 h x hx⟩

set_option maxHeartbeats 1000000 in
theorem odd (w0 : World) (p : Nat) (v : Value) (l : List UInt8) (w : World) (hc : Cur w0 p v l w) :
    Calls Try.prog 72 #[.pointer (some ⟨p, 0, none⟩)] w (Drawn w0 p v l w Is64) := by
  have h := intLit w0 p v l w hc [-1, 0, 1, 2, 255, 256, 65535, 2147483647, 2147483648, 4294967295, 4294967296, -2147483648, 9223372036854775807, -9223372036854775808] _ rfl 14 rfl (by decide) (by decide) Is64 (wf_lits (by decide))
  have H := Lib.hid h; clear h hc
  go_enter Try.func72, Try.ntmps72
  go_wp2_with fail
  refine H.out.mono ?_
  rintro e w1 ⟨y, rfl, hy, hc1, hk1⟩
  have HC := Lib.hid (And.intro hy (And.intro hc1 hk1)); clear hc1 hk1 hy
  go_wp2_with fail
  go_ret
  exact ⟨_, rfl, HC.out.1, HC.out.2.1, HC.out.2.2⟩

set_option maxHeartbeats 1000000 in
theorem raw (w0 : World) (p : Nat) (v : Value) (l : List UInt8) (w : World) (hc : Cur w0 p v l w) :
    Calls Try.prog 68 #[.pointer (some ⟨p, 0, none⟩)] w (Drawn w0 p v l w Is64) := by
  have h := once w0 p v l w 2 hc
  have H := Lib.hid h; clear h hc
  go_enter Try.func68, Try.ntmps68
  go_wp2_with fail
  refine H.out.mono ?_
  rintro e w1 ⟨y, rfl, ⟨b, rfl⟩, hc1, hk1⟩
  cases b
  · have h := intLit w0 p v l w1 hc1 [-1, 1000000000000, 1000000000001] _ rfl 3 rfl (by decide) (by decide) Is64 (wf_lits (by decide))
    have HA := Lib.hid h; have HK := Lib.hid hk1; clear h hc1 hk1
    go_wp2_with fail
    refine HA.out.mono ?_
    rintro e w2 ⟨y, rfl, hy, hc1, hk1⟩
    have HC := Lib.hid (And.intro hy (And.intro hc1 (HK.out.trans hk1))); clear hc1 hk1 hy
    go_wp2_with fail
    go_ret
    exact ⟨_, rfl, HC.out.1, HC.out.2.1, HC.out.2.2⟩
  · have h := odd w0 p v l w1 hc1
    have HA := Lib.hid h; have HK := Lib.hid hk1; clear h hc1 hk1
    go_wp2_with fail
    refine HA.out.mono ?_
    rintro e w2 ⟨y, rfl, hy, hc1, hk1⟩
    have HC := Lib.hid (And.intro hy (And.intro hc1 (HK.out.trans hk1))); clear hc1 hk1 hy
    go_wp2_with fail
    go_ret
    exact ⟨_, rfl, HC.out.1, HC.out.2.1, HC.out.2.2⟩

theorem below_is64 {k : Int} (h0 : 0 < k) (h1 : k ≤ 1000000) {x : Value} (h : BelowOf k x) : Is64 x := by
  obtain ⟨r, rfl, hr, _⟩ := h
  have hr := hr h0
  exact ⟨r, rfl, wf_of (by omega) (by omega)⟩
theorem belowIs (w0 : World) (p : Nat) (v : Value) (l : List UInt8) (w : World) (n : Int) (h0 : 0 < n) (h1 : n ≤ 1000000) (hc : Cur w0 p v l w) :
    Calls Try.prog 53 #[.pointer (some ⟨p, 0, none⟩), .int .i64 n] w (Drawn w0 p v l w Is64) :=
  (below w0 p v l w n hc).mono fun e w' h => h.imp fun x hx => below_is64 h0 h1 hx

set_option maxHeartbeats 2000000 in
theorem num (w0 : World) (p : Nat) (v : Value) (l : List UInt8) (w : World) (hc : Cur w0 p v l w) :
    Calls Try.prog 69 #[.pointer (some ⟨p, 0, none⟩)] w (Drawn w0 p v l w Is64) := by
  have h := below w0 p v l w 4 hc
  have H := Lib.hid h; clear h hc
  go_enter Try.func69, Try.ntmps69
  go_wp2_with fail
  refine H.out.mono ?_
  rintro e w1 ⟨y, rfl, ⟨r, rfl, hr, _⟩, hc1, hk1⟩
  have hr := hr (by omega)
  have HK := Lib.hid hk1; clear hk1
  by_cases r0 : r = 0
  · subst r0
    have h := belowIs w0 p v l w1 2000 (by omega) (by omega) hc1
    have HA := Lib.hid h; clear h hc1 hr
    go_wp2_with fail
    refine HA.out.mono ?_
    rintro e w2 ⟨y, rfl, hy, hc1, hk1⟩
    have HC := Lib.hid (And.intro hy (And.intro hc1 (HK.out.trans hk1))); clear hc1 hk1 hy
    go_wp2_with fail
    go_ret
    exact ⟨_, rfl, HC.out.1, HC.out.2.1, HC.out.2.2⟩
  · by_cases r1 : r = 1
    · subst r1
      have h := intLit w0 p v l w1 hc1 [0, 1, 127, 128, 2147483646, 2147483647, 1000000000000] _ rfl 7 rfl (by decide) (by decide) Is64 (wf_lits (by decide))
      have HA := Lib.hid h; clear h hc1 hr r0
      go_wp2_with fail
      refine HA.out.mono ?_
      rintro e w2 ⟨y, rfl, hy, hc1, hk1⟩
      have HC := Lib.hid (And.intro hy (And.intro hc1 (HK.out.trans hk1))); clear hc1 hk1 hy
      go_wp2_with fail
      go_ret
      exact ⟨_, rfl, HC.out.1, HC.out.2.1, HC.out.2.2⟩
    · by_cases r2 : r = 2
      · subst r2
        have h := below w0 p v l w1 1000000 hc1
        have HA := Lib.hid h; clear h hc1 hr r0 r1
        go_wp2_with fail
        refine HA.out.mono ?_
        rintro e w2 ⟨y, rfl, ⟨a, rfl, ha, _⟩, hc1, hk1⟩
        have ha := ha (by omega)
        have h := below w0 p v l w2 1000000 hc1
        have HB := Lib.hid h; have HK2 := Lib.hid (HK.out.trans hk1); clear h hc1 hk1 HK
        go_wp2_with fail
        refine HB.out.mono ?_
        rintro e w3 ⟨y, rfl, ⟨b, rfl, hb, _⟩, hc1, hk1⟩
        have hb := hb (by omega)
        have hab : 0 ≤ a * b ∧ a * b ≤ 1000000000000 := by
          refine ⟨Int.mul_nonneg ha.1 hb.1, ?_⟩
          have := Int.mul_le_mul (show a ≤ 1000000 by omega) (show b ≤ 1000000 by omega) hb.1 (by omega)
          omega
        have HAB := Lib.hid hab
        obtain ⟨hab0, hab1⟩ := hab
        have HC := Lib.hid (And.intro hc1 (HK2.out.trans hk1)); clear hc1 hk1
        go_wp2_with fail
        go_ret
        exact ⟨_, rfl, ⟨_, rfl, wf_of (by have := HAB.out; omega) (by have := HAB.out; omega)⟩, HC.out.1, HC.out.2⟩
      · have h := belowIs w0 p v l w1 20 (by omega) (by omega) hc1
        have HA := Lib.hid h; clear h hc1
        have e0 : (r == 0) = false := by simpa using r0
        have e1 : (r == 1) = false := by simpa using r1
        have e2 : (r == 2) = false := by simpa using r2
        go_wp2_with fail
        refine HA.out.mono ?_
        rintro e w2 ⟨y, rfl, hy, hc1, hk1⟩
        have HC := Lib.hid (And.intro hy (And.intro hc1 (HK.out.trans hk1))); clear hc1 hk1 hy
        go_wp2_with fail
        go_ret
        exact ⟨_, rfl, HC.out.1, HC.out.2.1, HC.out.2.2⟩

set_option maxHeartbeats 1000000 in
theorem one (w0 : World) (p : Nat) (v : Value) (l : List UInt8) (w : World) (hc : Cur w0 p v l w) :
    Calls Try.prog 51 #[.pointer (some ⟨p, 0, none⟩)] w (Drawn w0 p v l w Is64) := by
  have h := once w0 p v l w 6 hc
  have H := Lib.hid h; clear h hc
  go_enter Try.func51, Try.ntmps51
  go_wp2_with fail
  refine H.out.mono ?_
  rintro e w1 ⟨y, rfl, ⟨b, rfl⟩, hc1, hk1⟩
  cases b
  · have h := num w0 p v l w1 hc1
    have HA := Lib.hid h; have HK := Lib.hid hk1; clear h hc1 hk1
    go_wp2_with fail
    refine HA.out.mono ?_
    rintro e w2 ⟨y, rfl, hy, hc1, hk1⟩
    have HC := Lib.hid (And.intro hy (And.intro hc1 (HK.out.trans hk1))); clear hc1 hk1 hy
    go_wp2_with fail
    go_ret
    exact ⟨_, rfl, HC.out.1, HC.out.2.1, HC.out.2.2⟩
  · have h := raw w0 p v l w1 hc1
    have HA := Lib.hid h; have HK := Lib.hid hk1; clear h hc1 hk1
    go_wp2_with fail
    refine HA.out.mono ?_
    rintro e w2 ⟨y, rfl, hy, hc1, hk1⟩
    have HC := Lib.hid (And.intro hy (And.intro hc1 (HK.out.trans hk1))); clear hc1 hk1 hy
    go_wp2_with fail
    go_ret
    exact ⟨_, rfl, HC.out.1, HC.out.2.1, HC.out.2.2⟩

theorem big_no (x : Option Addr) (n cap : Nat) (w : World) (h : decide ((1048576 : Int) < (n : Int)) = false) :
    Calls Try.prog 12 #[.slice x n cap] w fun e w' => e = .returned (.bool false) ∧ w = w' := by
  go_enter Try.func12, Try.ntmps12
  go_wp2
  go_ret
  exact ⟨rfl, rfl⟩
theorem big_yes (x : Option Addr) (n cap : Nat) (w : World) (h : decide ((1048576 : Int) < (n : Int)) = true) :
    Calls Try.prog 12 #[.slice x n cap] w fun e w' => e = .returned (.bool true) ∧ w = w' := by
  go_enter Try.func12, Try.ntmps12
  go_wp2
  go_ret
  exact ⟨rfl, rfl⟩

end Go.Proofs.Ythcmfaipijcgdaa.Draw
