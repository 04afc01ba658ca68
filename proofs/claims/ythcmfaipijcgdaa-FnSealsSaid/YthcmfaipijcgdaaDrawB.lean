/- Contracts of the reference model's draws of byte slices and of slices of integers: what is drawn lies in memory of the call's own; all else but the cursor is as it was. -/
import Derived.Test.YthcmfaipijcgdaaDrawOne
import Derived.Test.YthcmfaipijcgdaaGives
namespace Go.Proofs.Ythcmfaipijcgdaa.Draw
open Go.ChangeShapes Go.WideShapes Go.ChangeAt Go.RowKit Go.Instr
open Sl (Holds Own Byt nth wpList_app holds_one own_empty elemBYTE elemINT)
set_option linter.unusedVariables false

/-- What a draw of something in memory gives. -/
def DrawnW (w0 : World) (p : Nat) (v : Value) (l : List UInt8) (w : World) (Q : Value → World → Prop) (e : Ending) (w' : World) : Prop :=
  ∃ x, e = .returned x ∧ Q x w' ∧ Cur w0 p v l w' ∧ Keep p w w'

theorem Keep.grown {p : Nat} {w w1 w2 : World} {row : Option Nat} (h : Keep p w w1) (hg : w1.grownBy w2 row) (hr : ∀ g, row = some g → w.heap.size ≤ g) : Keep p w w2 :=
  ⟨hg.os.trans h.os, hg.tape.trans h.tape, hg.output.trans h.output, Nat.le_trans h.size hg.size, fun k hk hp => (hg.block k (Nat.lt_of_lt_of_le hk h.size) (fun e => by have := hr k e.symm; omega)).trans (h.block k hk hp)⟩
theorem Cur.grown {w0 : World} {p : Nat} {v : Value} {l : List UInt8} {w w' : World} {row : Option Nat} (hc : Cur w0 p v l w) (hg : w.grownBy w' row) (hr : ∀ g, row = some g → w0.heap.size ≤ g ∧ g ≠ p) : Cur w0 p v l w' := by
  obtain ⟨i, h, h0, h1, hrow⟩ := hc.row
  refine ⟨hc.bytes, hc.below.grown hg hc.below.size (fun g hk => (hr g hk).1), hc.place, i, h, h0, h1, ?_⟩
  rw [hg.block p (Array.getElem?_eq_some_iff.1 hrow).1 (fun e => (hr p e.symm).2 rfl)]
  exact hrow
theorem Cur.on {w0 : World} {p : Nat} {v : Value} {l : List UInt8} {w w' : World} (hc : Cur w0 p v l w) (hb : Below w.heap.size w w') : Cur w0 p v l w' :=
  hc.grown (Sl.grown_of_below hb none) (fun g h => by cases h)
theorem own_keep {e : TypeId} {k : IntKind} {B p : Nat} {w w' : World} {x : Value} {m : List Int} (h : Own e k B w x m) (hk : Keep p w w') (hp : p < B) : Own e k B w' x m := by
  refine ⟨h.1, ?_⟩
  rcases h.2 with h2 | ⟨g, cap, cur, hv, hg, hh, r⟩
  · exact Or.inl h2
  · exact Or.inr ⟨g, cap, cur, hv, hg, by rw [hk.block g (Array.getElem?_eq_some_iff.1 hh).1 (by omega)]; exact hh, r⟩
theorem own_cut {e : TypeId} {k : IntKind} {B : Nat} {w : World} {g n cap : Nat} {m : List Int} (h : Own e k B w (.slice (some ⟨g, 0, none⟩) n cap) m) (hn : n = m.length) {j : Nat} (hj : j ≤ n) :
    Own e k B w (.slice (some ⟨g, 0, none⟩) j cap) (m.take j) := by
  subst hn
  have hl : (m.take j).length = j := by simp; omega
  refine ⟨by simp, ?_⟩
  rcases h.2 with ⟨hv, _⟩ | ⟨g', cap', cur, hv, hg, hh, h1, h2, h3, h4⟩
  · simp at hv
  · simp only [Value.slice.injEq, Option.some.injEq, Addr.mk.injEq, and_true, true_and] at hv
    obtain ⟨rfl, rfl⟩ := hv
    refine Or.inr ⟨g, cap, cur, by rw [hl], hg, hh, by omega, h2, h3, ?_⟩
    rw [hl, Nat.mul_one, List.map_take, ← h4, List.take_take]
    congr 1; omega
theorem byt_nil : Byt [] := fun x hx => by simp at hx
theorem byt_app {a b : List Int} (h : Byt a) (k : Byt b) : Byt (a ++ b) := fun x hx => by
  rcases List.mem_append.1 hx with h1 | h1
  · exact h x h1
  · exact k x h1
theorem byt_one {x : Int} (h0 : 0 ≤ x) (h1 : x ≤ 255) : Byt [x] := fun y hy => by
  obtain rfl : y = x := by simpa using hy
  exact ⟨h0, h1⟩
theorem byt_take {a : List Int} (h : Byt a) (j : Nat) : Byt (a.take j) := fun x hx => h x (List.mem_of_mem_take hx)
theorem byt_set {a : List Int} (h : Byt a) (j : Nat) {x : Int} (h0 : 0 ≤ x) (h1 : x ≤ 255) : Byt (a.set j x) := fun y hy => by
  rcases List.mem_or_eq_of_mem_set hy with h2 | h2
  · exact h y h2
  · subst h2; exact ⟨h0, h1⟩
/-- A slice of bytes of the call's own, so long at most. -/
def BytesIn (B a b : Nat) (x : Value) (w : World) : Prop := ∃ m, Own 5 .u8 B w x m ∧ Byt m ∧ a ≤ m.length ∧ m.length ≤ b

set_option maxHeartbeats 1000000 in
theorem bytes (w0 : World) (p : Nat) (v : Value) (l : List UInt8) (w : World) (n : Nat) (hn : n ≤ 100000) (hc : Cur w0 p v l w) :
    Calls Try.prog 52 #[.pointer (some ⟨p, 0, none⟩), .int .i64 n] w (DrawnW w0 p v l w (BytesIn w.heap.size n n)) := by
  have hpl := hc.lt
  have HC := Lib.hid hc
  have H0 := Lib.hid (own_empty .u8 5 w)
  have C0 := Lib.hid (And.intro (hc.alloc (.cells #[] 5)) (keep_alloc p w (.cells #[] 5)))
  clear hc
  go_enter Try.func52, Try.ntmps52
  go_wp2_with fail
  go_loopw [5, 6] (fun ov iv wr => ∃ (k : Nat) (m : List Int), k ≤ n ∧ iv = .int .i64 k ∧ m.length = k ∧ Hid (Byt m) ∧ Hid (Own 5 .u8 w.heap.size wr ov m) ∧ Hid (Cur w0 p v l wr ∧ Keep p w wr)) (fun _ iv _ => n - (intOf iv).toNat)
  case atStart => exact ⟨0, [], Nat.zero_le _, rfl, rfl, Lib.hid byt_nil, H0, C0⟩
  case round =>
    obtain ⟨k, m, hk, rfl, hm, hB, ho, hcu⟩ := hrel
    have HM := Lib.hid hm; clear hm
    by_cases hlt : k < n
    · have hb := byte w0 p v l wr hcu.out.1
      have HB := Lib.hid hb; clear hb
      go_wp2_with fail
      refine HB.out.mono ?_
      rintro e w1 ⟨y, rfl, ⟨a, rfl, a0, a1⟩, hc1, hk1⟩
      have O1 := Lib.hid (own_keep ho.out hk1 hpl)
      have C1 := Lib.hid (And.intro hc1 (hcu.out.2.trans hk1))
      clear hc1 hk1
      go_wp2_with (at_builtin; refine wpList_app (k := .u8) (B := w.heap.size) (l := m) (m := [a]) rfl _ _ rfl Try.underlying22 elemBYTE rfl rfl rfl (O1.out.on ((Below.refl _ _).alloc (Nat.le_refl _) _)) (holds_one .u8 _ _ _) ?_ (by decide) ?_ ?_)
      · have := HM.out; simp; omega
      · have := C1.out.2.size; simp; omega
      intro v2 w2 ho2 hg
      have hlt2 := fun g hh => (O1.out.lt g hh).1
      have hc2 := (C1.out.1.alloc (.cells #[.int .u8 a] 5)).grown hg (fun g hh => ⟨by have := hlt2 g hh; have := HC.out.below.size; omega, by have := hlt2 g hh; omega⟩)
      have hk2 := (C1.out.2.trans (keep_alloc p w1 (.cells #[.int .u8 a] 5))).grown hg hlt2
      have HO2 := Lib.hid ho2; have C2 := Lib.hid (And.intro hc2 hk2)
      clear ho2 hg hc2 hk2 hlt2
      go_wp2_with fail
      go_roundw
      case rel => exact ⟨k + 1, m ++ [a], by omega, by go_num, by rw [List.length_append, HM.out]; rfl, Lib.hid (byt_app hB.out (byt_one a0 a1)), HO2, C2⟩
      case measure => simp [intOf]; omega
    · obtain rfl : k = n := by omega
      clear hlt
      go_wp2_with fail
      go_ret
      exact ⟨_, rfl, ⟨m, ho.out, hB.out, by rw [HM.out]; omega, by rw [HM.out]; omega⟩, hcu.out.1, hcu.out.2⟩

/-- A slice of integers of the call's own. -/
def IntsIn (B b : Nat) (x : Value) (w : World) : Prop := ∃ m, Own 3 .i64 B w x m ∧ (∀ y ∈ m, (Lit.int .i64 y).wf = true) ∧ m.length ≤ b

set_option maxHeartbeats 1000000 in
theorem ints (w0 : World) (p : Nat) (v : Value) (l : List UInt8) (w : World) (n : Nat) (hn : n ≤ 200) (hc : Cur w0 p v l w) :
    Calls Try.prog 54 #[.pointer (some ⟨p, 0, none⟩), .int .i64 n] w (DrawnW w0 p v l w (IntsIn w.heap.size n)) := by
  have hpl := hc.lt
  have HC := Lib.hid hc
  have H0 := Lib.hid (own_empty .i64 3 w)
  have hc0 := hc.alloc (.cells #[] 3)
  have HK0 := Lib.hid (keep_alloc p w (.cells #[] 3))
  have hb := below w0 p v l _ ((n : Int) + 1) hc0
  have HB := Lib.hid hb
  clear hc hc0 hb
  go_enter Try.func54, Try.ntmps54
  go_wp2_with fail
  refine HB.out.mono ?_
  rintro e w1 ⟨y, rfl, ⟨r, rfl, hr, _⟩, hc1, hk1⟩
  have hr := hr (by omega)
  obtain ⟨c, rfl⟩ := Int.eq_ofNat_of_zero_le hr.1
  have hcn : c ≤ n := by omega
  have O1 := Lib.hid (own_keep H0.out hk1 hpl)
  have C1 := Lib.hid (And.intro hc1 (HK0.out.trans hk1))
  clear hc1 hk1 hr
  go_wp2_with fail
  go_loopw [5, 6] (fun ov iv wr => ∃ (k : Nat) (m : List Int), k ≤ c ∧ iv = .int .i64 k ∧ m.length + k = c ∧ Hid (∀ y ∈ m, (Lit.int .i64 y).wf = true) ∧ Hid (Own 3 .i64 w.heap.size wr ov m) ∧ Hid (Cur w0 p v l wr ∧ Keep p w wr)) (fun _ iv _ => (intOf iv).toNat)
  case atStart => exact ⟨c, [], Nat.le_refl _, rfl, by simp, Lib.hid (fun y hy => by simp at hy), O1, C1⟩
  case round =>
    obtain ⟨k, m, hk, rfl, hm, hB, ho, hcu⟩ := hrel
    have HM := Lib.hid hm; clear hm
    by_cases hlt : 0 < k
    · have hb := num w0 p v l wr hcu.out.1
      have HB := Lib.hid hb; clear hb
      go_wp2_with fail
      refine HB.out.mono ?_
      rintro e w2 ⟨y, rfl, ⟨a, rfl, ha⟩, hc1, hk1⟩
      have O2 := Lib.hid (own_keep ho.out hk1 hpl)
      have C2 := Lib.hid (And.intro hc1 (hcu.out.2.trans hk1))
      have HA := Lib.hid ha
      clear hc1 hk1 ha
      go_wp2_with (at_builtin; refine wpList_app (k := .i64) (B := w.heap.size) (l := m) (m := [a]) rfl _ _ rfl Try.underlying24 elemINT rfl rfl rfl (O2.out.on ((Below.refl _ _).alloc (Nat.le_refl _) _)) (holds_one .i64 _ _ _) ?_ (by decide) ?_ ?_)
      · have := HM.out; simp; omega
      · have := C2.out.2.size; simp; omega
      intro v3 w3 ho3 hg
      have hlt2 := fun g hh => (O2.out.lt g hh).1
      have hc3 := (C2.out.1.alloc (.cells #[.int .i64 a] 3)).grown hg (fun g hh => ⟨by have := hlt2 g hh; have := HC.out.below.size; omega, by have := hlt2 g hh; omega⟩)
      have hk3 := (C2.out.2.trans (keep_alloc p w2 (.cells #[.int .i64 a] 3))).grown hg hlt2
      have HO3 := Lib.hid ho3; have C3 := Lib.hid (And.intro hc3 hk3)
      clear ho3 hg hc3 hk3 hlt2
      go_wp2_with fail
      go_roundw
      case rel => exact ⟨k - 1, m ++ [a], by omega, by congr 1; omega, by have := HM.out; rw [List.length_append, List.length_singleton]; omega, Lib.hid (fun y hy => by
          rcases List.mem_append.1 hy with h | h
          · exact hB.out y h
          · obtain rfl : y = a := by simpa using h
            exact HA.out), HO3, C3⟩
      case measure => simp [intOf]; omega
    · obtain rfl : k = 0 := by omega
      clear hlt
      go_wp2_with fail
      go_ret
      exact ⟨_, rfl, ⟨m, ho.out, hB.out, by have := HM.out; omega⟩, hcu.out.1, hcu.out.2⟩
theorem intLit2 (w0 : World) (p : Nat) (v : Value) (l : List UInt8) (w : World) (hc : Cur w0 p v l w) (xs : List Int) (C : Array Value) (hC : C = (xs.map (Value.int .i64)).toArray) (n : Nat) (hn : xs.length = n) (hx : 0 < n) (hbig : n < 1000) (a b : Int) (hab : ∀ x ∈ xs, a ≤ x ∧ x ≤ b) :
    Calls Try.prog 67 #[.pointer (some ⟨p, 0, none⟩), .slice (some ⟨w.heap.size, 0, none⟩) n n] (w.alloc (.cells C 3)) (Drawn w0 p v l w (IntIn a b)) :=
  intLit w0 p v l w hc xs C hC n hn hx hbig (IntIn a b) (fun x hx => ⟨x, rfl, hab x hx⟩)

end Go.Proofs.Ythcmfaipijcgdaa.Draw
