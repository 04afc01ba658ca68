/- Chapter 7's functions, the model's and the program's: contracts, the words of kinds, the mathematics of the encodings. No conditions but that lengths fit. -/
import Derived.Test.YtnnhgcfelkcpfaaDoorBlk
import Derived.Test.YtnnhgcfelkcpfaaDoorGives
import Derived.Lib.ConvBytes
import Derived.Test.YtnnhgcfelkcpfaaDoorBytes
import Derived.Test.YtnnhgcfelkcpfaaDoorValid
import Derived.Test.YtnnhgcfelkcpfaaDoorInts
import Derived.Test.YtnnhgcfelkcpfaaDoorAppP
import Derived.Deep.Cut
import Derived.Test.YtnnhgcfelkcpfaaDoorCmp
import Derived.Test.YtnnhgcfelkcpfaaDoorReadB
import Derived.Deep.RegionHeld3
import Derived.Deep.RegionLaw
import Derived.Test.YtnnhgcfelkcpfaaDoorClone
import Derived.Test.YtnnhgcfelkcpfaaDoorSeal
import Derived.Test.YtnnhgcfelkcpfaaDoorVarBack
import Derived.Test.YtnnhgcfelkcpfaaDoorKLaw
import Derived.SizedLaws
import Derived.ChangeSlices
import Derived.ChangeSame
import Derived.ChangeArms
import Derived.Deep.Strs
import Derived.Lib.SmallJoins
import Derived.Test.YtnnhgcfelkcpfaaDoorForm
import Derived.Test.YtnnhgcfelkcpfaaDoorText
import Derived.Test.YtnnhgcfelkcpfaaDoorSame
/- Contracts of the helpers by which the laws measure, copy, compare, mark and look at interests (a name and three numbers). No conditions but that lengths fit. -/
namespace Go.Proofs.YtnnhgcfelkcpfaaDoor.Row
open Go.ChangeShapes Go.WideShapes Go.ChangeAt Go.RowKit Go.Instr
set_option linter.unusedVariables false
set_option maxRecDepth 100000

/-- An interest's cells. -/
abbrev wc (v : Value) (a b c : Int) : Array Value := #[v, .int .i64 a, .int .i64 b, .int .i64 c]
theorem aggW : Ret.AggOf Tryd.prog 28 4 := ⟨by kernel_rfl, by kernel_rfl⟩

theorem own_set {α : Type} [Inhabited α] {enc : α → Value} {e : TypeId} {B g i : Nat} {w : World} {v u : Value} {l : List α} (h : Own e enc B w v l) (hg : g < B) : Own e enc B (w.setCell ⟨g, i, none⟩ u) v l := h.grown (Ret.grownBy_set w ⟨g, i, none⟩ u) (nb h hg)
theorem wc_set (v u : Value) (a b c d : Int) : (wc v a b c).setIfInBounds 0 u = wc u a b c ∧ (wc v a b c).setIfInBounds 1 (.int .i64 d) = wc v d b c ∧ (wc v a b c).setIfInBounds 2 (.int .i64 d) = wc v a d c ∧ (wc v a b c).setIfInBounds 3 (.int .i64 d) = wc v a b d := ⟨rfl, rfl, rfl, rfl⟩

set_option maxHeartbeats 1000000 in
theorem szInterest (v : Value) (l : List ByteArray) (a b c : Int) (w : World) (left : Int) (h : Holds Value.string w v l) (hl : l.length ≤ 9223372036854775807) (hs : ∀ x ∈ l, x.size ≤ maxLen) (h0 : 0 ≤ left) (h1 : left ≤ 1048576) :
    Calls Tryd.prog 30 #[.agg (wc v a b c), .int .i64 left] w fun e w' => e = .returned (.int .i64 (szL l left)) ∧ Below w.heap.size w w' := by
  obtain ⟨x, n, cap, rfl, hn, hcap, hh⟩ := h.shapeN
  have HB := Lib.hid ((Below.refl w.heap.size w).alloc (Nat.le_refl _) (.cells (wc (.slice x n cap) a b c) 51))
  have HA := Lib.hid (hh.on HB.out); have HS := Lib.hid hs
  clear hh h hs hn
  go_enter Tryd.func30, Tryd.ntmps30
  go_wp2_with fail
  refine (szName _ l _ left HA.out hl HS.out h0 h1).mono ?_
  rintro e w' ⟨rfl, hb⟩
  have HB2 := Lib.hid (HB.out.trans (hb.mono HB.out.size)); clear hb
  by_cases hb : (bulk l : Int) ≤ left
  · rw [szL_fit hb]
    have h2 : ¬ left - (bulk l : Int) < 0 := by omega
    go_wp2
    go_ret
    exact ⟨ret_int (szL_fit hb).symm, HB2.out⟩
  · have hz := szL_not (l := l) (left := left) (by omega)
    rw [hz]
    have HZ := Lib.hid hz; clear hz
    go_wp2
    go_ret
    exact ⟨ret_int HZ.out.symm, HB2.out⟩

set_option maxHeartbeats 2000000 in
theorem toInterest (v : Value) (l : List ByteArray) (a b c : Int) (w : World) (h : Holds Value.string w v l) (hl : l.length ≤ 100000000) :
    Calls Tryd.prog 31 #[.agg (wc v a b c)] w fun e w' => ∃ v', e = .returned (.agg (wc v' a b c)) ∧ Own 9 Value.string w.heap.size w' v' l ∧ Below w.heap.size w w' := by
  obtain ⟨x, n, cap, rfl, hn, hcap, hh⟩ := h.shapeN
  have hb0 := (Below.refl w.heap.size w).alloc (Nat.le_refl _) (.cells (wc (.slice x n cap) a b c) 51)
  have hb1 := hb0.alloc (by simp) (.cells (wc (.slice none 0 0) 0 0 0) 28)
  have hb2 := hb1.alloc (by simp; omega) (.cells (wc (.slice none 0 0) 0 0 0) 28)
  have HB := Lib.hid hb2
  have HA := Lib.hid (hh.on hb2)
  have X0 := Lib.hid (((Ret.Blk.new w (wc (.slice x n cap) a b c) 51).on ((Below.refl _ _).alloc (Nat.le_refl _) (.cells (wc (.slice none 0 0) 0 0 0) 28))).on ((Below.refl _ _).alloc (Nat.le_refl _) (.cells (wc (.slice none 0 0) 0 0 0) 28)))
  have X1 := Lib.hid ((Ret.Blk.new' (w := w.alloc (.cells (wc (.slice x n cap) a b c) 51)) (n := w.heap.size + 1) (wc (.slice none 0 0) 0 0 0) 28 (by simp)).on ((Below.refl _ _).alloc (Nat.le_refl _) (.cells (wc (.slice none 0 0) 0 0 0) 28)))
  have X2 := Lib.hid (Ret.Blk.new' (w := (w.alloc (.cells (wc (.slice x n cap) a b c) 51)).alloc (.cells (wc (.slice none 0 0) 0 0 0) 28)) (n := w.heap.size + 1 + 1) (wc (.slice none 0 0) 0 0 0) 28 (by simp))
  clear hh h hn hb0 hb1 hb2
  go_enter Tryd.func31, Tryd.ntmps31
  go_wp2_with fail
  refine (toName _ l _ HA.out hl).mono ?_
  rintro e w1 ⟨v1, rfl, ho, hb⟩
  obtain ⟨x1, n1, c1, rfl, -, hc1, ho1⟩ := ho.shapeN
  have HO := Lib.hid ho1
  have Y0 := Lib.hid (X0.out.on hb); have Y1 := Lib.hid (X1.out.on hb); have Y2 := Lib.hid (X2.out.on hb)
  have HB1 := Lib.hid (HB.out.trans (hb.mono HB.out.size))
  clear ho ho1 hb X0 X1 X2
  have q1 : w1.cell? ⟨w.heap.size, 1, none⟩ = some (.int .i64 a) := Y0.out.cell 1
  have q2 : w1.cell? ⟨w.heap.size, 2, none⟩ = some (.int .i64 b) := Y0.out.cell 2
  have q3 : w1.cell? ⟨w.heap.size, 3, none⟩ = some (.int .i64 c) := Y0.out.cell 3
  have r0 : w1.cell? ⟨w.heap.size + 1, 0, none⟩ = some (.slice none 0 0) := Y1.out.cell 0
  have r1 : w1.cell? ⟨w.heap.size + 1, 1, none⟩ = some (.int .i64 0) := Y1.out.cell 1
  have r2 : w1.cell? ⟨w.heap.size + 1, 2, none⟩ = some (.int .i64 0) := Y1.out.cell 2
  have r3 : w1.cell? ⟨w.heap.size + 1, 3, none⟩ = some (.int .i64 0) := Y1.out.cell 3
  have s0 : w1.cell? ⟨w.heap.size + 1 + 1, 0, none⟩ = some (.slice none 0 0) := Y2.out.cell 0
  have s1 : w1.cell? ⟨w.heap.size + 1 + 1, 1, none⟩ = some (.int .i64 0) := Y2.out.cell 1
  have s2 : w1.cell? ⟨w.heap.size + 1 + 1, 2, none⟩ = some (.int .i64 0) := Y2.out.cell 2
  have s3 : w1.cell? ⟨w.heap.size + 1 + 1, 3, none⟩ = some (.int .i64 0) := Y2.out.cell 3
  have t0 := Y1.out.frozen 0; have t1 := Y1.out.frozen 1; have t2 := Y1.out.frozen 2; have t3 := Y1.out.frozen 3
  have u0_ := Y2.out.frozen 0; have u1_ := Y2.out.frozen 1; have u2_ := Y2.out.frozen 2; have u3_ := Y2.out.frozen 3
  have Z1 := Lib.hid ((((((((Y1.out.other (a := ⟨w.heap.size + 1 + 1, 0, none⟩) (by simp) (.slice x1 n1 c1)).other (a := ⟨w.heap.size + 1 + 1, 1, none⟩) (by simp) (.int .i64 a)).other (a := ⟨w.heap.size + 1 + 1, 2, none⟩) (by simp) (.int .i64 b)).other (a := ⟨w.heap.size + 1 + 1, 3, none⟩) (by simp) (.int .i64 c)).set 0 (.slice x1 n1 c1)).set 1 (.int .i64 a)).set 2 (.int .i64 b)).set 3 (.int .i64 c))
  have Z2 := Lib.hid (own_set (g := w.heap.size + 1) (i := 3) (u := (.int .i64 c)) (own_set (g := w.heap.size + 1) (i := 2) (u := (.int .i64 b)) (own_set (g := w.heap.size + 1) (i := 1) (u := (.int .i64 a)) (own_set (g := w.heap.size + 1) (i := 0) (u := (.slice x1 n1 c1)) (own_set (g := w.heap.size + 1 + 1) (i := 3) (u := (.int .i64 c)) (own_set (g := w.heap.size + 1 + 1) (i := 2) (u := (.int .i64 b)) (own_set (g := w.heap.size + 1 + 1) (i := 1) (u := (.int .i64 a)) (own_set (g := w.heap.size + 1 + 1) (i := 0) (u := (.slice x1 n1 c1)) HO.out (by simp)) (by simp)) (by simp)) (by simp)) (by simp)) (by simp)) (by simp)) (by simp))
  have Z3 := Lib.hid ((((((((HB1.out.setCell (p := ⟨w.heap.size + 1 + 1, 0, none⟩) (by simp; omega) (.slice x1 n1 c1)).setCell (p := ⟨w.heap.size + 1 + 1, 1, none⟩) (by simp; omega) (.int .i64 a)).setCell (p := ⟨w.heap.size + 1 + 1, 2, none⟩) (by simp; omega) (.int .i64 b)).setCell (p := ⟨w.heap.size + 1 + 1, 3, none⟩) (by simp; omega) (.int .i64 c)).setCell (p := ⟨w.heap.size + 1, 0, none⟩) (by simp) (.slice x1 n1 c1)).setCell (p := ⟨w.heap.size + 1, 1, none⟩) (by simp) (.int .i64 a)).setCell (p := ⟨w.heap.size + 1, 2, none⟩) (by simp) (.int .i64 b)).setCell (p := ⟨w.heap.size + 1, 3, none⟩) (by simp) (.int .i64 c))
  clear Y0 Y1 Y2
  go_wp2_with fail
  refine bodyPost_ret (Ret.results_c rfl _ _ (w.heap.size + 1) (wc (.slice x1 n1 c1) a b c).toList rfl aggW Z1.out.cells) rfl ?_
  exact ⟨_, rfl, Z2.out.mono (by simp; omega), Z3.out⟩

set_option maxHeartbeats 2000000 in
theorem eqInterest (v u : Value) (x y : List ByteArray × Int × Int × Int) (w : World) (q : Bool) (hq : decide (x = y) = q) (h : Holds Value.string w v x.1) (g : Holds Value.string w u y.1) (hl : x.1.length ≤ 140737488351232) (hm : y.1.length ≤ 140737488351232) :
    Calls Tryd.prog 32 #[.agg (wc v x.2.1 x.2.2.1 x.2.2.2), .agg (wc u y.2.1 y.2.2.1 y.2.2.2)] w fun e w' => e = .returned (.bool q) ∧ Below w.heap.size w w' := by
  obtain ⟨ps, a1, a2, a3⟩ := x
  obtain ⟨qs, b1, b2, b3⟩ := y
  simp only at h g hl hm ⊢
  obtain ⟨x, n, cap, rfl, -, hcap, hh⟩ := h.shapeN
  obtain ⟨y, m, cap', rfl, -, hcap', hg⟩ := g.shapeN
  have hb0 := (Below.refl w.heap.size w).alloc (Nat.le_refl _) (.cells (wc (.slice x n cap) a1 a2 a3) 28)
  have HB := Lib.hid (hb0.alloc (by simp) (.cells (wc (.slice y m cap') b1 b2 b3) 28))
  have HH := Lib.hid (hh.on HB.out); have HG := Lib.hid (hg.on HB.out)
  have X0 := Lib.hid ((Ret.Blk.new w (wc (.slice x n cap) a1 a2 a3) 28).on ((Below.refl _ _).alloc (Nat.le_refl _) (.cells (wc (.slice y m cap') b1 b2 b3) 28)))
  have X1 := Lib.hid (Ret.Blk.new' (w := w.alloc (.cells (wc (.slice x n cap) a1 a2 a3) 28)) (n := w.heap.size + 1) (wc (.slice y m cap') b1 b2 b3) 28 (by simp))
  have HQ := Lib.hid hq
  clear hh hg h g hq hb0
  go_enter Tryd.func32, Tryd.ntmps32
  go_wp2_with fail
  refine (eqName _ _ ps qs _ HH.out HG.out hl hm).mono ?_
  rintro e w1 ⟨rfl, hb⟩
  have Y0 := Lib.hid (X0.out.on hb); have Y1 := Lib.hid (X1.out.on hb)
  have HB2 := Lib.hid (HB.out.trans (hb.mono HB.out.size)); clear hb X0 X1
  have q1 : w1.cell? ⟨w.heap.size, 1, none⟩ = some (.int .i64 a1) := Y0.out.cell 1
  have q2 : w1.cell? ⟨w.heap.size, 2, none⟩ = some (.int .i64 a2) := Y0.out.cell 2
  have q3 : w1.cell? ⟨w.heap.size, 3, none⟩ = some (.int .i64 a3) := Y0.out.cell 3
  have r1 : w1.cell? ⟨w.heap.size + 1, 1, none⟩ = some (.int .i64 b1) := Y1.out.cell 1
  have r2 : w1.cell? ⟨w.heap.size + 1, 2, none⟩ = some (.int .i64 b2) := Y1.out.cell 2
  have r3 : w1.cell? ⟨w.heap.size + 1, 3, none⟩ = some (.int .i64 b3) := Y1.out.cell 3
  by_cases he : ps = qs
  · rw [eqB_true he]
    by_cases h1 : a1 = b1
    · have t1 : (a1 != b1) = false := by simp [h1]
      by_cases h2 : a2 = b2
      · have t2 : (a2 != b2) = false := by simp [h2]
        by_cases h3 : a3 = b3
        · have t3 : (a3 != b3) = false := by simp [h3]
          have HE : Hid (q = true) := Lib.hid (by rw [← HQ.out]; simp [he, h1, h2, h3])
          clear he h1 h2 h3
          go_wp2
          go_ret
          exact ⟨ret_bool HE.out.symm, HB2.out⟩
        · have t3 : (a3 != b3) = true := by simpa using h3
          have HE : Hid (q = false) := Lib.hid (by rw [← HQ.out]; simp [h3])
          clear he h1 h2 h3
          go_wp2
          go_ret
          exact ⟨ret_bool HE.out.symm, HB2.out⟩
      · have t2 : (a2 != b2) = true := by simpa using h2
        have HE : Hid (q = false) := Lib.hid (by rw [← HQ.out]; simp [h2])
        clear he h1 h2
        go_wp2
        go_ret
        exact ⟨ret_bool HE.out.symm, HB2.out⟩
    · have t1 : (a1 != b1) = true := by simpa using h1
      have HE : Hid (q = false) := Lib.hid (by rw [← HQ.out]; simp [h1])
      clear he h1
      go_wp2
      go_ret
      exact ⟨ret_bool HE.out.symm, HB2.out⟩
  · rw [eqB_false he]
    have HE : Hid (q = false) := Lib.hid (by rw [← HQ.out]; simp [he])
    clear he
    go_wp2
    go_ret
    exact ⟨ret_bool HE.out.symm, HB2.out⟩

end Go.Proofs.YtnnhgcfelkcpfaaDoor.Row
/- A string turned into a slice of bytes: where they lie, what they are. No conditions. -/
namespace Go.Proofs.YtnnhgcfelkcpfaaDoor.Sl
open Go.ChangeShapes Go.WideShapes Go.ChangeAt Go.RowKit Go.Instr
set_option linter.unusedVariables false
set_option maxRecDepth 100000

/-- A string's bytes, as numbers. -/
def bytesOf (t : ByteArray) : List Int := t.data.toList.map fun c => (c.toNat : Int)
theorem bytesOf_length (t : ByteArray) : (bytesOf t).length = t.size := by unfold bytesOf; rw [List.length_map, Array.length_toList]; rfl
theorem bytesOf_byt (t : ByteArray) : Byt (bytesOf t) := fun x hx => by
  unfold bytesOf at hx
  obtain ⟨c, _, rfl⟩ := List.mem_map.1 hx
  have := c.toNat_lt
  omega
theorem bytesOf_nth (t : ByteArray) {j : Nat} (hj : j < t.size) : nth (bytesOf t) j = (t.data.toList.getD j 0).toNat := by
  have h : j < t.data.toList.length := by rw [Array.length_toList]; exact hj
  rw [nth_eq (by rw [bytesOf_length]; exact hj)]
  simp only [bytesOf, List.getElem_map, List.getD, List.getElem?_eq_getElem h, Option.getD_some]

theorem conv_bytes (w : World) (t : ByteArray) :
    ∃ cap w', (convert 9 22 (.string t)).run Tryd.prog w = .ok (.slice (some ⟨w.heap.size, 0, none⟩) t.size cap) w' ∧ Holds .u8 w' (.slice (some ⟨w.heap.size, 0, none⟩) t.size cap) (bytesOf t) ∧ Below w.heap.size w w' := by
  refine ⟨_, _, Lib.run_convert_string_bytes w 9 22 5 t Tryd.underlying9 Tryd.underlying22 Tryd.underlying5, ?_, ?_⟩
  · refine ⟨_, _, by rw [bytesOf_length], by rw [bytesOf_length]; exact grownCap_ge w _ _ _, Or.inr ⟨_, _, rfl, fun j hj => ?_⟩⟩
    rw [bytesOf_length] at hj
    rw [Nat.zero_add, Lib.bytesWorld_cell w _ t j hj, bytesOf_nth t hj]
  · exact ⟨rfl, rfl, rfl, by rw [Lib.bytesWorld_size]; omega, fun k hk => Lib.bytesWorld_at_old w _ t k hk⟩
end Go.Proofs.YtnnhgcfelkcpfaaDoor.Sl
/- Contracts of the model's functions on interests: AppendName. No conditions but that lengths fit. -/
namespace Go.Proofs.YtnnhgcfelkcpfaaDoor.Row
open Go.ChangeShapes Go.WideShapes Go.ChangeAt Go.RowKit Go.Instr
set_option linter.unusedVariables false
set_option maxRecDepth 100000

/-- The parts' encodings, one behind the other. -/
def encPs (l : List ByteArray) : List Int := l.flatMap fun s => Var.var s.size ++ Sl.bytesOf s
def encN (l : List ByteArray) : List Int := Var.var l.length ++ encPs l
def appName (b : List Int) (l : List ByteArray) : List Int := if validN l = true then b ++ encN l else b
theorem encPs_next {l : List ByteArray} {k : Nat} (h : k < l.length) : encPs (l.take (k + 1)) = encPs (l.take k) ++ (Var.var (nth l k).size ++ Sl.bytesOf (nth l k)) := by
  unfold encPs
  rw [List.take_succ_eq_append_getElem h, List.flatMap_append, nth_eq h]
  simp
theorem encPs_len : ∀ l : List ByteArray, (encPs l).length ≤ 6 * bulk l
  | [] => by simp [encPs]
  | s :: r => by
    have h1 := encPs_len r
    have h2 := Var.var_len s.size
    have h3 : encPs (s :: r) = (Var.var s.size ++ Sl.bytesOf s) ++ encPs r := by simp [encPs]
    have h4 : bulk (s :: r) = 1 + s.size + bulk r := by simp [bulk_cons]
    rw [h3, List.length_append, List.length_append, Sl.bytesOf_length]
    omega
theorem bulk_take_le (l : List ByteArray) (k : Nat) : bulk (l.take k) ≤ bulk l := by
  have := bulk_append (l.take k) (l.drop k)
  rw [List.take_append_drop] at this
  omega
theorem size_bulk {l : List ByteArray} {k : Nat} (h : k < l.length) : (nth l k).size ≤ bulk l := by
  have h1 := bulk_append (l.take k) (l.drop k)
  rw [List.take_append_drop, List.drop_eq_getElem_cons h, bulk_cons, ← nth_eq h] at h1
  omega

set_option maxHeartbeats 2000000 in
theorem specAppendName (v u : Value) (b : List Int) (l : List ByteArray) (w : World) (h : Sl.Holds .u8 w v b) (g : Holds Value.string w u l) (hb : b.length ≤ 2000000) (hl : bulk l ≤ 1200000) :
    Calls Tryd.prog 23 #[v, .agg #[u]] w (Sl.GivesB w (appName b l)) := by
  obtain ⟨x, cx, rfl, hcx, hh⟩ := h.shape
  obtain ⟨y, q, cy, rfl, hq, hcy, hg⟩ := g.shapeN
  obtain ⟨m, hm⟩ : ∃ m, m = b.length := ⟨_, rfl⟩
  rw [← hm] at hcx hh hb ⊢
  have HM := Lib.hid hm; have HQ := Lib.hid hq
  have hb0 := (Below.refl w.heap.size w).alloc (Nat.le_refl _) (.cells #[.slice y q cy] 26)
  have hb1 := hb0.alloc (by simp) (.cells #[] 5)
  have HB1 := Lib.hid hb1
  have HH := Lib.hid (hh.on hb1)
  have HG := Lib.hid (hg.on hb1)
  have HX := Lib.hid ((Ret.Box.new w (.slice y q cy) 26).on ((Below.refl _ _).alloc (Nat.le_refl _) (.cells #[] 5)))
  have hoe := Sl.own_empty .u8 5 (w.alloc (.cells #[.slice y q cy] 26))
  rw [World.size_alloc] at hoe
  have HOE := Lib.hid hoe
  have HBL := Lib.hid hl
  have HG0 := Lib.hid hg
  have hql : q ≤ 1200000 := by rw [hq]; exact Nat.le_trans (bulk_len l) hl
  clear hh h g hg hm hq hb0 hb1 hoe
  go_enter Tryd.func23, Tryd.ntmps23
  go_wp2_with (at_builtin; refine Sl.wpList_app (k := .u8) (B := w.heap.size + 1) (l := []) (m := b) rfl _ _ rfl Tryd.underlying22 Sl.elemBYTE rfl rfl rfl HOE.out HH.out ?_ (by decide) ?_ ?_)
  · have := HM.out; simp; omega
  · simp
  intro v1 w1 ho hg
  have HB := Lib.hid (HB1.out.grown hg (by simp; omega) (fun g e => by cases e; exact Nat.le_succ _))
  have HO := Lib.hid (show Sl.Own 5 .u8 w.heap.size w1 v1 b from ho.mono (Nat.le_succ _))
  have HX1 := Lib.hid (HX.out.grown hg (by simp [Value.ownBlock]))
  have HG1 := Lib.hid (HG0.out.on HB.out)
  have hx1 := HX1.out.cell
  clear ho hg HX HOE HH HG
  obtain ⟨ok, hok⟩ : ∃ z, validN l = z := ⟨_, rfl⟩
  have HOK := Lib.hid hok
  go_wp2_with fail
  refine (specValidName _ l _ HG1.out (by omega)).mono ?_
  rintro e w2 ⟨rfl, hb2⟩
  rw [hok]
  have HB2 := Lib.hid (HB.out.trans (hb2.mono HB.out.size))
  have HO2 := Lib.hid (HO.out.on hb2)
  have HX2 := Lib.hid (HX1.out.on hb2)
  have hx2 := HX2.out.cell
  clear hb2 hok hx1
  cases ok with
  | false =>
    have HV : Hid (appName b l = b) := Lib.hid (by unfold appName; rw [if_neg (by rw [HOK.out]; simp)])
    go_wp2_with fail
    go_ret
    exact ⟨_, rfl, by rw [HV.out]; exact HO2.out, HB2.out⟩
  | true =>
    have HV : Hid (appName b l = b ++ encN l) := Lib.hid (by unfold appName; rw [if_pos HOK.out])
    go_wp2_with fail
    refine (Sl.specAppendVarint _ b q _ HO2.out.holds (by rw [← HM.out]; omega)).mono ?_
    rintro e w3 ⟨v3, rfl, ho3, hb3⟩
    have HO3 := Lib.hid (show Sl.Own 5 .u8 w.heap.size w3 v3 (b ++ Var.var q ++ encPs (l.take 0)) by rw [List.take_zero, show encPs [] = [] from rfl, List.append_nil]; exact ho3.mono HB2.out.size)
    have HB3 := Lib.hid (HB2.out.trans (hb3.mono HB2.out.size))
    have HX3 := Lib.hid (HX2.out.on hb3)
    clear ho3 hb3 hx2
    have hx3 := HX3.out.cell
    go_wp2_with fail
    go_loopw [5, 6] (fun tv iv wr => ∃ k : Nat, k ≤ q ∧ iv = .int .i64 k ∧ Hid (Sl.Own 5 .u8 w.heap.size wr tv (b ++ Var.var q ++ encPs (l.take k))) ∧ Hid (Below w.heap.size w wr) ∧ Hid (Ret.Box wr w.heap.size (.slice y q cy) 26)) (fun _ iv _ => q - (intOf iv).toNat)
    case atStart => exact ⟨0, Nat.zero_le _, rfl, HO3, HB3, HX3⟩
    case round =>
      obtain ⟨k, hk, rfl, hO, hB, hX⟩ := hrel
      have hxr := hX.out.cell
      by_cases hlt : k < q
      · obtain ⟨b0, off0, hy, hc⟩ := (HG0.out.on hB.out).at (j := k) (by rw [← HQ.out]; exact hlt)
        subst hy
        have hsz : (nth l k).size ≤ 1200000 := by
          have h2 := size_bulk (l := l) (k := k) (by rw [← HQ.out]; exact hlt)
          have h3 := HBL.out
          omega
        have hle : (encPs (l.take k)).length ≤ 7200000 := by
          have h1 := encPs_len (l.take k)
          have h2 := bulk_take_le l k
          have h3 := HBL.out
          omega
        have hll : (b ++ Var.var q ++ encPs (l.take k)).length ≤ 10000000 := by
          have h1 := Var.var_len q
          rw [List.length_append, List.length_append, ← HM.out]; omega
        have HN := Lib.hid (encPs_next (l := l) (k := k) (by rw [← HQ.out]; exact hlt))
        obtain ⟨cp, wc', e0, h0, b0'⟩ := Sl.conv_bytes wr (nth l k)
        have H0 := Lib.hid h0; have B0 := Lib.hid b0'
        have HLL := Lib.hid hll
        clear h0 b0' hle hll
        go_wp2_with fail
        refine (Sl.specAppendBytes _ _ (b ++ Var.var q ++ encPs (l.take k)) (Sl.bytesOf (nth l k)) wc' (hO.out.on B0.out).holds H0.out HLL.out (by rw [Sl.bytesOf_length]; omega)).mono ?_
        rintro e w4 ⟨v4, rfl, ho4, hb4⟩
        have HB4 := Lib.hid ((hB.out.trans (B0.out.mono hB.out.size)).trans (hb4.mono (Nat.le_trans hB.out.size B0.out.size)))
        have HO4 := Lib.hid (show Sl.Own 5 .u8 w.heap.size w4 v4 (b ++ Var.var q ++ encPs (l.take (k + 1))) by
          have h9 := ho4.mono (Nat.le_trans hB.out.size B0.out.size)
          rw [HN.out, ← List.append_assoc, ← Sl.bytesOf_length, ← List.append_assoc]
          exact h9)
        have HX4 := Lib.hid ((hX.out.on B0.out).on hb4)
        clear ho4 hb4 e0 hxr hc
        go_wp2_with fail
        go_roundw
        case rel => exact ⟨k + 1, by omega, by go_num, HO4, HB4, HX4⟩
        case measure => simp [intOf]; omega
      · obtain rfl : k = q := by omega
        clear hlt
        go_wp2_with fail
        go_ret
        refine ⟨_, rfl, ?_, hB.out⟩
        have h9 := hO.out
        rw [HQ.out, List.take_length] at h9
        rw [HV.out]
        unfold encN
        rw [← List.append_assoc]
        exact h9
end Go.Proofs.YtnnhgcfelkcpfaaDoor.Row
/- Contracts of the model's functions on interests: validity, copy, equality, the hop limit. No conditions but that lengths fit. -/
namespace Go.Proofs.YtnnhgcfelkcpfaaDoor.Row
open Go.ChangeShapes Go.WideShapes Go.ChangeAt Go.RowKit Go.Instr
set_option linter.unusedVariables false
set_option maxRecDepth 100000

abbrev Wt := List ByteArray × Int × Int × Int
def validW (x : Wt) : Bool := validN x.1 && decide (0 < x.1.length) && decide (0 ≤ x.2.1 ∧ x.2.1 ≤ 1000000) && decide (0 ≤ x.2.2.1 ∧ x.2.2.1 ≤ 16) && decide (1 ≤ x.2.2.2 ∧ x.2.2.2 ≤ 20)
theorem validW_no1 {x : Wt} (h : validN x.1 = false) : validW x = false := by simp [validW, h]
theorem validW_no2 {x : Wt} (h : ¬ 0 < x.1.length) : validW x = false := by
  have : decide (0 < x.1.length) = false := by simpa using h
  simp [validW, this]
theorem validW_no3 {x : Wt} (h : ¬ (0 ≤ x.2.1 ∧ x.2.1 ≤ 1000000)) : validW x = false := by
  have : decide (0 ≤ x.2.1 ∧ x.2.1 ≤ 1000000) = false := decide_eq_false h
  unfold validW; rw [this]; simp
theorem validW_no4 {x : Wt} (h : ¬ (0 ≤ x.2.2.1 ∧ x.2.2.1 ≤ 16)) : validW x = false := by
  have : decide (0 ≤ x.2.2.1 ∧ x.2.2.1 ≤ 16) = false := decide_eq_false h
  unfold validW; rw [this]; simp
theorem validW_no5 {x : Wt} (h : ¬ (1 ≤ x.2.2.2 ∧ x.2.2.2 ≤ 20)) : validW x = false := by
  have : decide (1 ≤ x.2.2.2 ∧ x.2.2.2 ≤ 20) = false := decide_eq_false h
  unfold validW; rw [this]; simp
theorem validW_yes {x : Wt} (h1 : validN x.1 = true) (h2 : 0 < x.1.length) (h3 : 0 ≤ x.2.1 ∧ x.2.1 ≤ 1000000) (h4 : 0 ≤ x.2.2.1 ∧ x.2.2.1 ≤ 16) (h5 : 1 ≤ x.2.2.2 ∧ x.2.2.2 ≤ 20) : validW x = true := by
  simp [validW, h1, h2, h3, h4, h5]

set_option maxHeartbeats 4000000 in
theorem specValidInterest (v : Value) (x : Wt) (w : World) (h : Holds Value.string w v x.1) (hl : bulk x.1 ≤ 9000000) :
    Calls Tryd.prog 29 #[.agg (wc v x.2.1 x.2.2.1 x.2.2.2)] w fun e w' => e = .returned (.bool (validW x)) ∧ Below w.heap.size w w' := by
  obtain ⟨l, a, b, c⟩ := x
  simp only at h hl ⊢
  obtain ⟨y, q, cy, rfl, hq, hcy, hg⟩ := h.shapeN
  have hb0 := (Below.refl w.heap.size w).alloc (Nat.le_refl _) (.cells (wc (.slice y q cy) a b c) 28)
  have HB := Lib.hid hb0
  have HG := Lib.hid (hg.on hb0)
  have X0 := Lib.hid (Ret.Blk.new w (wc (.slice y q cy) a b c) 28)
  have HQ := Lib.hid hq
  clear h hg hq hb0
  obtain ⟨ok, hok⟩ : ∃ z, validN l = z := ⟨_, rfl⟩
  have HOK := Lib.hid hok
  go_enter Tryd.func29, Tryd.ntmps29
  go_wp2_with fail
  refine (specValidName _ l _ HG.out (by omega)).mono ?_
  rintro e w1 ⟨rfl, hb⟩
  rw [hok]
  have Y0 := Lib.hid (X0.out.on hb)
  have HB2 := Lib.hid (HB.out.trans (hb.mono HB.out.size)); clear hb X0 hok
  have q0 : w1.cell? ⟨w.heap.size, 0, none⟩ = some (.slice y q cy) := Y0.out.cell 0
  have q1 : w1.cell? ⟨w.heap.size, 1, none⟩ = some (.int .i64 a) := Y0.out.cell 1
  have q2 : w1.cell? ⟨w.heap.size, 2, none⟩ = some (.int .i64 b) := Y0.out.cell 2
  have q3 : w1.cell? ⟨w.heap.size, 3, none⟩ = some (.int .i64 c) := Y0.out.cell 3
  cases ok with
  | false =>
    have HV := Lib.hid (validW_no1 (x := (l, a, b, c)) HOK.out)
    go_wp2_with fail
    go_ret
    exact ⟨ret_bool HV.out.symm, HB2.out⟩
  | true =>
    by_cases h2 : 0 < q
    · have hd2 : decide ((0 : Int) < (q : Int)) = true := by simp; omega
      by_cases h3 : 0 ≤ a ∧ a ≤ 1000000
      · have HI3 := Lib.hid (fun wx => Num.specIn_true h3.1 h3.2 wx)
        have H3 := Lib.hid h3
        clear h3
        go_wp2_with fail
        refine (HI3.out _).mono ?_
        rintro e w' ⟨rfl, rfl⟩
        by_cases h4 : 0 ≤ b ∧ b ≤ 16
        · have HI4 := Lib.hid (fun wx => Num.specIn_true h4.1 h4.2 wx)
          have H4 := Lib.hid h4
          clear h4
          go_wp2_with fail
          refine (HI4.out _).mono ?_
          rintro e w' ⟨rfl, rfl⟩
          by_cases h5 : 1 ≤ c ∧ c ≤ 20
          · have HI5 := Lib.hid (fun wx => Num.specIn_true h5.1 h5.2 wx)
            have HV := Lib.hid (validW_yes (x := (l, a, b, c)) HOK.out (by rw [← HQ.out]; exact h2) H3.out H4.out h5)
            clear h5
            go_wp2_with fail
            refine (HI5.out _).mono ?_
            rintro e w' ⟨rfl, rfl⟩
            go_wp2_with fail
            go_ret
            exact ⟨ret_bool HV.out.symm, HB2.out⟩
          · have HI5 := Lib.hid (fun wx => Num.specIn_false h5 wx)
            have HV := Lib.hid (validW_no5 (x := (l, a, b, c)) h5)
            clear h5
            go_wp2_with fail
            refine (HI5.out _).mono ?_
            rintro e w' ⟨rfl, rfl⟩
            go_wp2_with fail
            go_ret
            exact ⟨ret_bool HV.out.symm, HB2.out⟩
        · have HI4 := Lib.hid (fun wx => Num.specIn_false h4 wx)
          have HV := Lib.hid (validW_no4 (x := (l, a, b, c)) h4)
          clear h4
          go_wp2_with fail
          refine (HI4.out _).mono ?_
          rintro e w' ⟨rfl, rfl⟩
          go_wp2_with fail
          go_ret
          exact ⟨ret_bool HV.out.symm, HB2.out⟩
      · have HI3 := Lib.hid (fun wx => Num.specIn_false h3 wx)
        have HV := Lib.hid (validW_no3 (x := (l, a, b, c)) h3)
        clear h3
        go_wp2_with fail
        refine (HI3.out _).mono ?_
        rintro e w' ⟨rfl, rfl⟩
        go_wp2_with fail
        go_ret
        exact ⟨ret_bool HV.out.symm, HB2.out⟩
    · have HV := Lib.hid (validW_no2 (x := (l, a, b, c)) (by rw [← HQ.out]; exact h2))
      have hd2 : decide ((0 : Int) < (q : Int)) = false := by simp; omega
      go_wp2_with fail
      go_ret
      exact ⟨ret_bool HV.out.symm, HB2.out⟩
/-- A result that is an interest whose name is the call's own. -/
def GivesW (w : World) (x : Wt) (e : Ending) (w' : World) : Prop := ∃ v', e = .returned (.agg (wc v' x.2.1 x.2.2.1 x.2.2.2)) ∧ Own 9 Value.string w.heap.size w' v' x.1 ∧ Below w.heap.size w w'
def GivesWB (w : World) (x : Wt) (z : Bool) (e : Ending) (w' : World) : Prop := ∃ v', e = .returned (.tuple #[.agg (wc v' x.2.1 x.2.2.1 x.2.2.2), .bool z]) ∧ Own 9 Value.string w.heap.size w' v' x.1 ∧ Below w.heap.size w w'

set_option maxHeartbeats 2000000 in
theorem l7Copy (v : Value) (x : Wt) (w : World) (h : Holds Value.string w v x.1) (hl : x.1.length ≤ 9000000) :
    Calls Tryd.prog 52 #[.agg (wc v x.2.1 x.2.2.1 x.2.2.2)] w (GivesW w x) := by
  obtain ⟨l, a, b, c⟩ := x
  unfold GivesW
  simp only at h hl ⊢
  obtain ⟨x, n, cap, rfl, hn, hcap, hh⟩ := h.shapeN
  have hb0 := (Below.refl w.heap.size w).alloc (Nat.le_refl _) (.cells (wc (.slice x n cap) a b c) 28)
  have hb1 := hb0.alloc (by simp) (.cells (wc (.slice none 0 0) 0 0 0) 28)
  have hb2 := hb1.alloc (by simp; omega) (.cells (wc (.slice x n cap) a b c) 28)
  have HB := Lib.hid hb2
  have HA := Lib.hid (hh.on hb2)
  have X0 := Lib.hid (((Ret.Blk.new w (wc (.slice x n cap) a b c) 28).on ((Below.refl _ _).alloc (Nat.le_refl _) (.cells (wc (.slice none 0 0) 0 0 0) 28))).on ((Below.refl _ _).alloc (Nat.le_refl _) (.cells (wc (.slice x n cap) a b c) 28)))
  have X1 := Lib.hid ((Ret.Blk.new' (w := w.alloc (.cells (wc (.slice x n cap) a b c) 28)) (n := w.heap.size + 1) (wc (.slice none 0 0) 0 0 0) 28 (by simp)).on ((Below.refl _ _).alloc (Nat.le_refl _) (.cells (wc (.slice x n cap) a b c) 28)))
  have X2 := Lib.hid (Ret.Blk.new' (w := (w.alloc (.cells (wc (.slice x n cap) a b c) 28)).alloc (.cells (wc (.slice none 0 0) 0 0 0) 28)) (n := w.heap.size + 1 + 1) (wc (.slice x n cap) a b c) 28 (by simp))
  clear hh h hn hb0 hb1 hb2
  go_enter Tryd.func52, Tryd.ntmps52
  go_wp2_with fail
  refine (l4Copy _ l _ HA.out (by omega)).mono ?_
  rintro e w1 ⟨v1, rfl, ho, hb⟩
  obtain ⟨x1, n1, c1, rfl, -, hc1, ho1⟩ := ho.shapeN
  have HO := Lib.hid ho1
  have Y1 := Lib.hid (X1.out.on hb); have Y2 := Lib.hid (X2.out.on hb)
  have HB1 := Lib.hid (HB.out.trans (hb.mono HB.out.size))
  clear ho ho1 hb X0 X1 X2
  have r0 : w1.cell? ⟨w.heap.size + 1, 0, none⟩ = some (.slice none 0 0) := Y1.out.cell 0
  have r1 : w1.cell? ⟨w.heap.size + 1, 1, none⟩ = some (.int .i64 0) := Y1.out.cell 1
  have r2 : w1.cell? ⟨w.heap.size + 1, 2, none⟩ = some (.int .i64 0) := Y1.out.cell 2
  have r3 : w1.cell? ⟨w.heap.size + 1, 3, none⟩ = some (.int .i64 0) := Y1.out.cell 3
  have s0 : w1.cell? ⟨w.heap.size + 1 + 1, 0, none⟩ = some (.slice x n cap) := Y2.out.cell 0
  have s1 : w1.cell? ⟨w.heap.size + 1 + 1, 1, none⟩ = some (.int .i64 a) := Y2.out.cell 1
  have s2 : w1.cell? ⟨w.heap.size + 1 + 1, 2, none⟩ = some (.int .i64 b) := Y2.out.cell 2
  have s3 : w1.cell? ⟨w.heap.size + 1 + 1, 3, none⟩ = some (.int .i64 c) := Y2.out.cell 3
  have t0 := Y1.out.frozen 0; have t1 := Y1.out.frozen 1; have t2 := Y1.out.frozen 2; have t3 := Y1.out.frozen 3
  have k0_ := Y2.out.frozen 0
  have Z1 := Lib.hid (((((Y1.out.other (a := ⟨w.heap.size + 1 + 1, 0, none⟩) (by simp) (.slice x1 n1 c1)).set 0 (.slice x1 n1 c1)).set 1 (.int .i64 a)).set 2 (.int .i64 b)).set 3 (.int .i64 c))
  have Z2 := Lib.hid (own_set (g := w.heap.size + 1) (i := 3) (u := (.int .i64 c)) (own_set (g := w.heap.size + 1) (i := 2) (u := (.int .i64 b)) (own_set (g := w.heap.size + 1) (i := 1) (u := (.int .i64 a)) (own_set (g := w.heap.size + 1) (i := 0) (u := (.slice x1 n1 c1)) (own_set (g := w.heap.size + 1 + 1) (i := 0) (u := (.slice x1 n1 c1)) HO.out (by simp)) (by simp)) (by simp)) (by simp)) (by simp))
  have Z3 := Lib.hid (((((HB1.out.setCell (p := ⟨w.heap.size + 1 + 1, 0, none⟩) (by simp; omega) (.slice x1 n1 c1)).setCell (p := ⟨w.heap.size + 1, 0, none⟩) (by simp) (.slice x1 n1 c1)).setCell (p := ⟨w.heap.size + 1, 1, none⟩) (by simp) (.int .i64 a)).setCell (p := ⟨w.heap.size + 1, 2, none⟩) (by simp) (.int .i64 b)).setCell (p := ⟨w.heap.size + 1, 3, none⟩) (by simp) (.int .i64 c))
  clear Y1 Y2
  go_wp2_with fail
  refine bodyPost_ret (Ret.results_c rfl _ _ (w.heap.size + 1) (wc (.slice x1 n1 c1) a b c).toList rfl aggW Z1.out.cells) rfl ?_
  exact ⟨_, rfl, Z2.out.mono (by simp; omega), Z3.out⟩

def decW (x : Wt) : Wt := if x.2.2.1 < 1 then x else (x.1, x.2.1, x.2.2.1 - 1, x.2.2.2)
def decOk (x : Wt) : Bool := decide (1 ≤ x.2.2.1)
/-- A row of the call's own is left by a store into a variable that was not there when the row was made. -/
theorem own_set' {α : Type} [Inhabited α] {enc : α → Value} {e : TypeId} {B g i : Nat} {w : World} {v u : Value} {l : List α} (h : Own e enc B w v l) (hg : ∀ b, v.ownBlock = some b → b < g) : Own e enc B (w.setCell ⟨g, i, none⟩ u) v l := by
  refine h.grown (Ret.grownBy_set w ⟨g, i, none⟩ u) ?_
  cases hv : v.ownBlock with
  | none => exact Or.inl rfl
  | some b => exact Or.inr fun e => absurd (hg b hv) (by have h2 : b = g := by simpa using e
                                                         omega)

set_option maxHeartbeats 4000000 in
theorem specDecrementHops (v : Value) (x : Wt) (w : World) (h : Holds Value.string w v x.1) (hl : x.1.length ≤ 9000000) (hb : x.2.2.1 ≤ 9223372036854775807) :
    Calls Tryd.prog 18 #[.agg (wc v x.2.1 x.2.2.1 x.2.2.2)] w (GivesWB w (decW x) (decOk x)) := by
  obtain ⟨l, a, b, c⟩ := x
  unfold GivesWB
  simp only at h hl hb ⊢
  obtain ⟨x, n, cap, rfl, hn, hcap, hh⟩ := h.shapeN
  have hb0 := (Below.refl w.heap.size w).alloc (Nat.le_refl _) (.cells (wc (.slice x n cap) a b c) 28)
  have hb1 := hb0.alloc (by simp) (.cells (wc (.slice none 0 0) 0 0 0) 28)
  have HB := Lib.hid hb1
  have HA := Lib.hid (hh.on hb1)
  have X0 := Lib.hid ((Ret.Blk.new w (wc (.slice x n cap) a b c) 28).on ((Below.refl _ _).alloc (Nat.le_refl _) (.cells (wc (.slice none 0 0) 0 0 0) 28)))
  have X1 := Lib.hid (Ret.Blk.new' (w := w.alloc (.cells (wc (.slice x n cap) a b c) 28)) (n := w.heap.size + 1) (wc (.slice none 0 0) 0 0 0) 28 (by simp))
  clear hh h hn hb0 hb1
  go_enter Tryd.func18, Tryd.ntmps18
  go_wp2_with fail
  refine (l7Copy _ (l, a, b, c) _ HA.out hl).mono ?_
  rintro e w1 ⟨v1, rfl, ho, hb⟩
  simp only at ho
  obtain ⟨x1, n1, c1, rfl, -, hc1, ho1⟩ := ho.shapeN
  have hal : Below w1.heap.size w1 (w1.alloc (.cells (wc (.slice x1 n1 c1) a b c) 28)) := (Below.refl _ _).alloc (Nat.le_refl _) _
  have HO := Lib.hid (ho1.on hal)
  have HLT := Lib.hid (fun b e => (ho1.lt b e).2)
  have Y0 := Lib.hid ((X0.out.on hb).on hal); have Y1 := Lib.hid ((X1.out.on hb).on hal)
  have Y2 := Lib.hid (Ret.Blk.new w1 (wc (.slice x1 n1 c1) a b c) 28)
  have HB1 := Lib.hid ((HB.out.trans (hb.mono HB.out.size)).trans (hal.mono (Nat.le_trans HB.out.size hb.size)))
  have hsz := hb.size
  simp only [World.size_alloc] at hsz
  have hne : (⟨w1.heap.size, 2, none⟩ : Addr).block ≠ w.heap.size + 1 := by show w1.heap.size ≠ _; omega
  have hge : w.heap.size ≤ (⟨w1.heap.size, 2, none⟩ : Addr).block := by show _ ≤ w1.heap.size; omega
  have hn1 : ¬ w1.heap.size = w.heap.size + 1 := by omega
  have hn2 : ¬ w.heap.size + 1 = w1.heap.size := by omega
  have hn3 : ¬ w1.heap.size = w.heap.size := by omega
  have hn4 : ¬ w.heap.size = w1.heap.size := by omega
  clear ho ho1 hb X0 X1 hal hc1
  have p2 := Y0.out.cell 2
  have r0 := Y1.out.cell 0; have r1 := Y1.out.cell 1; have r2 := Y1.out.cell 2; have r3 := Y1.out.cell 3
  have s0 := Y2.out.cell 0; have s1 := Y2.out.cell 1; have s2 := Y2.out.cell 2; have s3 := Y2.out.cell 3
  have t0 := Y1.out.frozen 0; have t1 := Y1.out.frozen 1; have t2 := Y1.out.frozen 2; have t3 := Y1.out.frozen 3
  have k2_ := Y2.out.frozen 2
  simp only [wc, List.getElem?_toArray, List.getElem?_cons_zero, List.getElem?_cons_succ] at p2 r0 r1 r2 r3 s0 s1 s2 s3
  go_upto_region 2 with fail
  generalize w1.alloc (.cells (wc (.slice x1 n1 c1) a b c) 28) = W at *
  generalize w1.heap.size = g at *
  by_cases hlt : b < 1
  · have HD : Hid (decW (l, a, b, c) = (l, a, b, c) ∧ decOk (l, a, b, c) = false) := Lib.hid ⟨if_pos hlt, decide_eq_false (by show ¬ 1 ≤ b; omega)⟩
    have Z1 := Lib.hid ((((Y1.out.set 0 (.slice x1 n1 c1)).set 1 (.int .i64 a)).set 2 (.int .i64 b)).set 3 (.int .i64 c))
    have Z2 := Lib.hid (own_set (g := w.heap.size + 1) (i := 3) (u := (.int .i64 c)) (own_set (g := w.heap.size + 1) (i := 2) (u := (.int .i64 b)) (own_set (g := w.heap.size + 1) (i := 1) (u := (.int .i64 a)) (own_set (g := w.heap.size + 1) (i := 0) (u := (.slice x1 n1 c1)) HO.out (by simp)) (by simp)) (by simp)) (by simp))
    have Z3 := Lib.hid ((((HB1.out.setCell (p := ⟨w.heap.size + 1, 0, none⟩) (by simp) (.slice x1 n1 c1)).setCell (p := ⟨w.heap.size + 1, 1, none⟩) (by simp) (.int .i64 a)).setCell (p := ⟨w.heap.size + 1, 2, none⟩) (by simp) (.int .i64 b)).setCell (p := ⟨w.heap.size + 1, 3, none⟩) (by simp) (.int .i64 c))
    clear Y0 Y1 Y2
    go_wp2_with fail
    refine bodyPost_ret (Ret.results_ct rfl _ _ (w.heap.size + 1) (wc (.slice x1 n1 c1) a b c).toList rfl aggW Z1.out.cells) rfl ?_
    rw [HD.out.1, HD.out.2]
    exact ⟨_, rfl, Z2.out.mono (by simp; omega), Z3.out⟩
  · have HD : Hid (decW (l, a, b, c) = (l, a, b - 1, c) ∧ decOk (l, a, b, c) = true) := Lib.hid ⟨if_neg hlt, decide_eq_true (by show 1 ≤ b; omega)⟩
    have hw : IntKind.i64.wrap (b - 1) = b - 1 := by rw [IntKind.wrap_i64]; omega
    have Z1 := Lib.hid (((((Y1.out.other (a := ⟨g, 2, none⟩) hne (.int .i64 (b - 1))).set 0 (.slice x1 n1 c1)).set 1 (.int .i64 a)).set 2 (.int .i64 (b - 1))).set 3 (.int .i64 c))
    have Z2 := Lib.hid (own_set (g := w.heap.size + 1) (i := 3) (u := (.int .i64 c)) (own_set (g := w.heap.size + 1) (i := 2) (u := (.int .i64 (b - 1))) (own_set (g := w.heap.size + 1) (i := 1) (u := (.int .i64 a)) (own_set (g := w.heap.size + 1) (i := 0) (u := (.slice x1 n1 c1)) (own_set' (g := g) (i := 2) (u := .int .i64 (b - 1)) HO.out HLT.out) (by simp)) (by simp)) (by simp)) (by simp))
    have Z3 := Lib.hid (((((HB1.out.setCell (p := ⟨g, 2, none⟩) hge (.int .i64 (b - 1))).setCell (p := ⟨w.heap.size + 1, 0, none⟩) (by simp) (.slice x1 n1 c1)).setCell (p := ⟨w.heap.size + 1, 1, none⟩) (by simp) (.int .i64 a)).setCell (p := ⟨w.heap.size + 1, 2, none⟩) (by simp) (.int .i64 (b - 1))).setCell (p := ⟨w.heap.size + 1, 3, none⟩) (by simp) (.int .i64 c))
    clear Y0 Y1 Y2
    go_wp2_with fail
    refine bodyPost_ret (Ret.results_ct rfl _ _ (w.heap.size + 1) (wc (.slice x1 n1 c1) a (b - 1) c).toList rfl aggW Z1.out.cells) rfl ?_
    rw [HD.out.1, HD.out.2]
    exact ⟨_, rfl, Z2.out.mono (by simp; omega), Z3.out⟩
end Go.Proofs.YtnnhgcfelkcpfaaDoor.Row
/- Contract of the model's EncodeInterest. No conditions but that lengths fit. -/
namespace Go.Proofs.YtnnhgcfelkcpfaaDoor.Sl
open Go.ChangeShapes Go.WideShapes Go.ChangeAt Go.RowKit Go.Instr
set_option linter.unusedVariables false
/-- append to a slice of numbers of the call's own, as a step of a statement that draws its order. -/
theorem step_app2 {P : Program} {ops : Array Oper} {o : Oper} {a : Act} {w : World} {K : Act → World → Prop} {Q : Exit → Act → World → Prop} {E : Prop} {k : IntKind} {e t : TypeId} {bytes : Nat} {z : Value}
    (hg : o.guard = none) (s x : Operand) (hop : o.op = Op.call { callee := Callee.builtin Builtin.append, args := #[s, x], argTypes := #[t, t] }) (ht : P.underlying t = some (.slice e)) (hi : Elem P e z bytes) (hz : z.cells.size = 1)
    {B : Nat} {v : Value} {ad : Addr} {n c : Nat} {l m : List Int} (hs : a.eval s = v) (hx : a.eval x = .slice (some ad) n c) (hown : Own e k B w v l) (hsrc : Holds k w (.slice (some ad) n c) m) (hlen : (l.length + m.length) * 8 ≤ 140737488355328) (hby : bytes ≤ 8) (hB : B ≤ w.heap.size)
    (hK : ∀ v' w', Own e k B w' v' (l ++ m) → w.grownBy w' v.ownBlock → K (a.put o.dst v') w') :
    if Region.wanted o (yielded ops a.tmps) = true then Oper.wp P o a w K Q else E := by
  have hw : Region.wanted o (yielded ops a.tmps) = true := by simp [Region.wanted, hg]
  rw [if_pos hw]
  obtain ⟨i, h1, h2, h3, h4⟩ := info_parts hi
  have hbytes : (l.length + m.length) * bytes ≤ 140737488355328 := Nat.le_trans (Nat.mul_le_mul_left _ hby) hlen
  have h63 : l.length + m.length ≤ maxLen := by unfold maxLen; omega
  obtain rfl := hsrc.lenEq
  obtain ⟨v', w', hrun, r1, r2, _⟩ := run_append_own (P := P) w B t o.type e i z 1 bytes ht h1 h2 h3 h4 hz (by decide) v l.length (l.map (Value.int k)) hown ad m.length c (m.map (Value.int k)) (by simp) hsrc.cells (oneCell k m) h63 hbytes hB
  unfold Oper.wp
  simp [execOp, hop, resolve, invoke, builtin, hs, hx, hrun, Result.andThen]
  refine hK v' w' ?_ r2
  unfold Own
  rw [List.length_append, List.map_append]; exact r1
end Go.Proofs.YtnnhgcfelkcpfaaDoor.Sl
namespace Go.Proofs.YtnnhgcfelkcpfaaDoor.Row
open Go.ChangeShapes Go.WideShapes Go.ChangeAt Go.RowKit Go.Instr
set_option linter.unusedVariables false
set_option maxRecDepth 100000

def encW (x : Wt) : List Int := if validW x = true then appName [] x.1 ++ Sl.encs [x.2.1, x.2.2.1, x.2.2.2] else []
theorem holdsI3 (w : World) (a b c : Int) : Sl.Holds .i64 (w.alloc (.cells #[.int .i64 a, .int .i64 b, .int .i64 c] 3)) (.slice (some ⟨w.heap.size, 0, none⟩) 3 3) [a, b, c] := by
  refine ⟨_, 3, rfl, by simp, Or.inr ⟨_, _, rfl, fun j hj => ?_⟩⟩
  have hj : j < 3 := by simpa using hj
  rw [World.cell?_alloc_at _ _ _ _ rfl]
  rcases j with _ | _ | _ | j
  · rfl
  · rfl
  · rfl
  · omega
theorem some6 {B : Nat} {w : World} {v : Value} {l : List Int} (h : Sl.Own 5 .u8 B w v l) (hl : l ≠ []) : ∃ g c, v = .slice (some ⟨g, 0, none⟩) l.length c ∧ B ≤ g := by
  rcases h.form with ⟨_, h0⟩ | ⟨g, c, e, h1, _⟩
  · exact absurd h0 hl
  · exact ⟨g, c, e, h1⟩
theorem keepW {w w1 W : World} {v : Value} {a b c : Int} {t : TypeId} (h : Ret.Blk w1 w.heap.size (wc v a b c) t) (hb : Below w1.heap.size w1 W) : W.cell? ⟨w.heap.size, 0, none⟩ = some v ∧ W.cell? ⟨w.heap.size, 1, none⟩ = some (.int .i64 a) ∧ W.cell? ⟨w.heap.size, 2, none⟩ = some (.int .i64 b) ∧ W.cell? ⟨w.heap.size, 3, none⟩ = some (.int .i64 c) :=
  ⟨(h.on hb).cell 0, (h.on hb).cell 1, (h.on hb).cell 2, (h.on hb).cell 3⟩
theorem appName_len (l : List ByteArray) : (appName [] l).length ≤ 6 + 6 * bulk l := by
  have h1 := encPs_len l
  have h2 := Var.var_len l.length
  unfold appName encN
  split
  · simp only [List.nil_append, List.length_append]; omega
  · simp
theorem validW_in {x : Wt} (h : validW x = true) : 0 ≤ x.2.1 ∧ x.2.1 ≤ 1000000 := by
  by_cases h3 : 0 ≤ x.2.1 ∧ x.2.1 ≤ 1000000
  · exact h3
  · rw [validW_no3 h3] at h; cases h

set_option maxHeartbeats 8000000 in
theorem specEncodeInterest (v : Value) (x : Wt) (w : World) (h : Holds Value.string w v x.1) (hl : bulk x.1 ≤ 1200000) :
    Calls Tryd.prog 20 #[.agg (wc v x.2.1 x.2.2.1 x.2.2.2)] w (Sl.GivesB w (encW x)) := by
  obtain ⟨l, a, b, c⟩ := x
  simp only at h hl ⊢
  obtain ⟨y, q, cy, rfl, hq, hcy, hg⟩ := h.shapeN
  have hb0 := (Below.refl w.heap.size w).alloc (Nat.le_refl _) (.cells (wc (.slice y q cy) a b c) 28)
  have HB := Lib.hid hb0
  have HG := Lib.hid (hg.on hb0)
  have HG0 := Lib.hid hg
  have X0 := Lib.hid (Ret.Blk.new w (wc (.slice y q cy) a b c) 28)
  have HBL := Lib.hid hl
  obtain ⟨ok, hok⟩ : ∃ z, validW (l, a, b, c) = z := ⟨_, rfl⟩
  have HOK := Lib.hid hok
  clear h hg hq hb0
  go_enter Tryd.func20, Tryd.ntmps20
  go_wp2_with fail
  refine (specValidInterest _ (l, a, b, c) _ HG.out (show bulk l ≤ 9000000 by omega)).mono ?_
  rintro e w1 ⟨rfl, hb⟩
  rw [hok]
  have Y0 := Lib.hid (X0.out.on hb)
  have HBW := Lib.hid (HB.out.trans (hb.mono HB.out.size))
  have HG1 := Lib.hid (HG0.out.on HBW.out)
  clear hb X0 hok HG HG0
  have q0 : w1.cell? ⟨w.heap.size, 0, none⟩ = some (.slice y q cy) := Y0.out.cell 0
  have q1 : w1.cell? ⟨w.heap.size, 1, none⟩ = some (.int .i64 a) := Y0.out.cell 1
  have q2 : w1.cell? ⟨w.heap.size, 2, none⟩ = some (.int .i64 b) := Y0.out.cell 2
  have q3 : w1.cell? ⟨w.heap.size, 3, none⟩ = some (.int .i64 c) := Y0.out.cell 3
  cases ok with
  | false =>
    have HV : Hid (encW (l, a, b, c) = []) := Lib.hid (if_neg (by rw [HOK.out]; simp))
    have HE := Lib.hid (Sl.own_empty .u8 5 w1)
    have HBE := Lib.hid (HBW.out.alloc HBW.out.size (.cells #[] 5))
    go_wp2_with fail
    go_ret
    exact ⟨_, rfl, by rw [HV.out]; exact HE.out.mono HBW.out.size, HBE.out⟩
  | true =>
    have HV : Hid (encW (l, a, b, c) = appName [] l ++ Sl.encs [a, b, c]) := Lib.hid (if_pos HOK.out)
    have hin : 0 ≤ a ∧ a ≤ 1000000 := validW_in HOK.out
    have HEN := Lib.hid (show Sl.encs [a, b, c] ≠ [] from fun e => by
      have h1 : (Sl.encs [a, b, c]).length = 0 := by rw [e]; rfl
      have h2 := Var.enc_pos a.toNat
      have h3 : Sl.encs [a, b, c] = Var.var a ++ (Var.var b ++ Var.var c) := by simp [Sl.encs]
      rw [h3, Var.var_in hin.1 (by omega), List.length_append] at h1
      omega)
    have HLM := Lib.hid (show ((appName [] l).length + (Sl.encs [a, b, c]).length) * 8 ≤ 140737488355328 by
      have h1 := appName_len l
      have h2 := Sl.encs_len [a, b, c]
      have h3 : [a, b, c].length = 3 := rfl
      have h4 := HBL.out
      omega)
    have HBD := Lib.hid (show Below w1.heap.size w1 w1.drew from (Below.refl _ _).drew)
    have HB1 := Lib.hid (show Below w1.heap.size w1 (w1.alloc (.cells #[] 5)).drew from ((Below.refl _ _).alloc (Nat.le_refl _) _).drew)
    have HBI := Lib.hid (show Below w1.heap.size w1 (w1.alloc (.cells #[.int .i64 a, .int .i64 b, .int .i64 c] 3)).drew from ((Below.refl _ _).alloc (Nat.le_refl _) _).drew)
    have HB2 := Lib.hid (show Below w1.heap.size w1 ((w1.alloc (.cells #[] 5)).alloc (.cells #[.int .i64 a, .int .i64 b, .int .i64 c] 3)).drew from (((Below.refl _ _).alloc (Nat.le_refl _) _).alloc (by simp) _).drew)
    have HB3 := Lib.hid (show Below w1.heap.size w1 ((w1.alloc (.cells #[.int .i64 a, .int .i64 b, .int .i64 c] 3)).alloc (.cells #[] 5)).drew from (((Below.refl _ _).alloc (Nat.le_refl _) _).alloc (by simp) _).drew)
    have HN1 := Lib.hid (HG1.out.on HB1.out)
    have HN2 := Lib.hid (HG1.out.on HB2.out)
    have HN3 := Lib.hid (HG1.out.on HB3.out)
    have hi2 := holdsI3 (w1.alloc (.cells #[] 5)) a b c
    rw [World.size_alloc] at hi2
    have HI2 := Lib.hid (show Sl.Holds .i64 ((w1.alloc (.cells #[] 5)).alloc (.cells #[.int .i64 a, .int .i64 b, .int .i64 c] 3)).drew (.slice (some ⟨w1.heap.size + 1, 0, none⟩) 3 3) [a, b, c] from hi2.on (Below.refl _ _).drew)
    have HI3 := Lib.hid (show Sl.Holds .i64 ((w1.alloc (.cells #[.int .i64 a, .int .i64 b, .int .i64 c] 3)).alloc (.cells #[] 5)).drew (.slice (some ⟨w1.heap.size, 0, none⟩) 3 3) [a, b, c] from ((holdsI3 w1 a b c).on ((Below.refl _ _).alloc (Nat.le_refl _) (.cells #[] 5))).on (Below.refl _ _).drew)
    clear hi2 hin
    go_wp2_with fail
    go_region_held3 (fun w' => w'.cell? ⟨w.heap.size, 0, none⟩ = some (.slice y q cy) ∧ w'.cell? ⟨w.heap.size, 1, none⟩ = some (.int .i64 a) ∧ w'.cell? ⟨w.heap.size, 2, none⟩ = some (.int .i64 b) ∧ w'.cell? ⟨w.heap.size, 3, none⟩ = some (.int .i64 c)) (first | with_reducible exact keepW Y0.out HBD.out | with_reducible exact keepW Y0.out HB1.out | with_reducible exact keepW Y0.out HBI.out | with_reducible exact keepW Y0.out HB2.out | with_reducible exact keepW Y0.out HB3.out | with_reducible exact keepW Y0.out HB7.out | with_reducible exact keepW Y0.out HB6.out | with_reducible exact keepW Y0.out HE5.out | with_reducible exact keepW Y0.out HB5.out) (first | (refine Sl.step_app2 (k := .u8) (B := w1.heap.size) (v := v5) (l := appName [] l) (m := Sl.encs [a, b, c]) rfl _ _ (by rfl) Tryd.underlying22 Sl.elemBYTE rfl (by rfl) (by rfl) ?_ ?_ HLM.out (by decide) ?_ ?_; (with_reducible exact HO6.out); (with_reducible exact HS6.out); (exact HB6.out.size); intro v7 w7 ho7 hg7; have HB7 := Lib.hid (HB6.out.grown hg7 HB6.out.size (fun g e => (HO6.out.lt g e).1)); have HO7 := Lib.hid ho7; clear ho7 hg7) | (go_at_call 55; refine (Sl.specEncodeInts _ [a, b, c] _ ?_ (by simp)).mono ?_; (with_reducible exact HI5.out); rintro e w6 ⟨v6, rfl, ho6, hb6⟩; obtain ⟨g6, c6, rfl, -⟩ := some6 ho6 HEN.out; have HB6 := Lib.hid (HE5.out.trans (hb6.mono HE5.out.size)); have HO6 := Lib.hid (HO5.out.on hb6); have HS6 := Lib.hid ho6.holds; clear ho6 hb6) | (go_at_call 23; refine (specAppendName (.slice _ 0 0) _ [] l _ (Sl.holds_empty _ _ _ _) ?_ (by simp) HBL.out).mono ?_; (with_reducible exact HN1.out); rintro e w5 ⟨v5, rfl, ho5, hb5⟩; have HB5 := Lib.hid (HB1.out.trans (hb5.mono HB1.out.size)); have HO5 := Lib.hid ((ho5.mono HB1.out.size).on ((Below.refl _ _).alloc (Nat.le_refl _) (.cells #[.int .i64 a, .int .i64 b, .int .i64 c] 3))); have HE5 := Lib.hid (HB5.out.alloc HB5.out.size (.cells #[.int .i64 a, .int .i64 b, .int .i64 c] 3)); have HI5 := Lib.hid (holdsI3 w5 a b c); clear ho5 hb5) | (go_at_call 23; refine (specAppendName (.slice _ 0 0) _ [] l _ (Sl.holds_empty _ _ _ _) ?_ (by simp) HBL.out).mono ?_; (with_reducible exact HN2.out); rintro e w5 ⟨v5, rfl, ho5, hb5⟩; have HB5 := Lib.hid (HB2.out.trans (hb5.mono HB2.out.size)); have HO5 := Lib.hid (ho5.mono HB2.out.size); have HE5 := HB5; have HI5 := Lib.hid (HI2.out.on hb5); clear ho5 hb5) | (go_at_call 23; refine (specAppendName (.slice _ 0 0) _ [] l _ (Sl.holds_empty _ _ _ _) ?_ (by simp) HBL.out).mono ?_; (with_reducible exact HN3.out); rintro e w5 ⟨v5, rfl, ho5, hb5⟩; have HB5 := Lib.hid (HB3.out.trans (hb5.mono HB3.out.size)); have HO5 := Lib.hid (ho5.mono HB3.out.size); have HE5 := HB5; have HI5 := Lib.hid (HI3.out.on hb5); clear ho5 hb5))
    all_goals
      go_wp2_with fail
      go_ret
      exact ⟨_, rfl, by rw [HV.out]; exact HO7.out.mono HBW.out.size, HBW.out.trans (HB7.out.mono HBW.out.size)⟩
end Go.Proofs.YtnnhgcfelkcpfaaDoor.Row
/- Contract of the model's ReadName. No conditions but that lengths fit. -/
namespace Go.Proofs.YtnnhgcfelkcpfaaDoor.Row
open Go.ChangeShapes Go.WideShapes Go.ChangeAt Go.RowKit Go.Instr
set_option linter.unusedVariables false
set_option maxRecDepth 100000

/-- So many parts are read from place i on, behind those that were read. -/
def rdP : Nat → List Int → Int → List ByteArray → Option (List ByteArray × Int)
  | 0, _, i, acc => some (acc, i)
  | k + 1, b, i, acc => if (Sl.readB b i 8).2.2 = true then rdP k b (Sl.readB b i 8).2.1 (acc ++ [strOfNums (Sl.readB b i 8).1]) else none
def rdN (b : List Int) (i : Int) : List ByteArray × Int × Bool :=
  if (Var.readV b i).2.2 = false ∨ 6 < (Var.readV b i).1 then ([], 0, false)
  else match rdP (Var.readV b i).1.toNat b (Var.readV b i).2.1 [] with
    | none => ([], 0, false)
    | some (l, j) => if validN l = true then (l, j, true) else ([], 0, false)
theorem rdN_no {b : List Int} {i : Int} (h : (Var.readV b i).2.2 = false ∨ 6 < (Var.readV b i).1) : rdN b i = ([], 0, false) := if_pos h
theorem rdN_go {b : List Int} {i : Int} (h : ¬ ((Var.readV b i).2.2 = false ∨ 6 < (Var.readV b i).1)) : rdN b i = match rdP (Var.readV b i).1.toNat b (Var.readV b i).2.1 [] with
    | none => ([], 0, false)
    | some (l, j) => if validN l = true then (l, j, true) else ([], 0, false) := if_neg h
def GivesN3 (w : World) (l : List ByteArray) (n : Int) (ok : Bool) (e : Ending) (w' : World) : Prop := ∃ v, e = .returned (.tuple #[.agg #[v], .int .i64 n, .bool ok]) ∧ Own 9 Value.string w.heap.size w' v l ∧ Below w.heap.size w w'
theorem ret_n3 {v : Value} {n m : Int} {a b : Bool} (h : n = m) (g : a = b) : Ending.returned (.tuple #[.agg #[v], .int .i64 n, .bool a]) = .returned (.tuple #[.agg #[v], .int .i64 m, .bool b]) := by rw [h, g]
end Go.Proofs.YtnnhgcfelkcpfaaDoor.Row
namespace Go.Proofs.YtnnhgcfelkcpfaaDoor.Ret
variable {P : Program}
theorem results_ctt {fn : Func} {p u u2 : Tmp} {ty : TypeId} (h : fn.results = #[.cell p ty, .tmp u, .tmp u2]) (tmps : Array Value) (w : World) (b : Nat) (cs : List Value) (hp : tmps.getD p undef = .pointer (some ⟨b, 0, none⟩))
    (ha : AggOf P ty cs.length) (hc : ∀ j v, cs[j]? = some v → w.cell? ⟨b, j, none⟩ = some v) : (results fn tmps).run P w = .ok (.tuple #[.agg cs.toArray, tmps.getD u undef, tmps.getD u2 undef]) w := by
  have hp' : tmps[p]?.getD undef = .pointer (some ⟨b, 0, none⟩) := by simpa using hp
  have hl := run_loadVar_cells (P := P) w b ty cs hc ha
  simp [results, h, hp', asAddr, hl, Result.andThen]
end Go.Proofs.YtnnhgcfelkcpfaaDoor.Ret
namespace Go.Proofs.YtnnhgcfelkcpfaaDoor.Row
open Go.ChangeShapes Go.WideShapes Go.ChangeAt Go.RowKit Go.Instr
set_option linter.unusedVariables false
set_option maxRecDepth 100000
/-- Nothing is read: the result cell is as it was made, or made so again. -/
theorem end0 {w W : World} (hX : Ret.Box W w.heap.size (.slice none 0 0) 26) (hb : Below w.heap.size w W) : (W.setCell ⟨w.heap.size, 0, none⟩ (.slice none 0 0)).cell? ⟨w.heap.size, 0, none⟩ = some (.slice none 0 0) ∧ Own 9 Value.string w.heap.size (W.setCell ⟨w.heap.size, 0, none⟩ (.slice none 0 0)) (.slice none 0 0) [] ∧ Below w.heap.size w (W.setCell ⟨w.heap.size, 0, none⟩ (.slice none 0 0)) :=
  ⟨Ret.set_same hX.cell, Own.nil _ _ _ _, hb.setCell (p := ⟨w.heap.size, 0, none⟩) (Nat.le_refl _) _⟩

theorem readB8 (b : List Int) (i : Int) : (Sl.readB b i 8).1.length ≤ 8 := by
  by_cases h : (Var.readV b i).2.2 = false ∨ 8 < (Var.readV b i).1 ∨ (b.length : Int) - (Var.readV b i).2.1 < (Var.readV b i).1
  · rw [Sl.readB_no h]; simp
  · rw [Sl.readB_yes h]
    simp only [List.length_take]
    omega

set_option maxHeartbeats 8000000 in
theorem specReadName (v : Value) (b : List Int) (i : Int) (w : World) (h : Sl.Holds .u8 w v b) (hB : Sl.Byt b) (hl : b.length ≤ 100000000) :
    Calls Tryd.prog 14 #[v, .int .i64 i] w (GivesN3 w (rdN b i).1 (rdN b i).2.1 (rdN b i).2.2) := by
  obtain ⟨x, cx, rfl, hcx, hh⟩ := h.shape
  obtain ⟨m, hm⟩ : ∃ m, m = b.length := ⟨_, rfl⟩
  rw [← hm] at hcx hh hl ⊢
  have hb0 := (Below.refl w.heap.size w).alloc (Nat.le_refl _) (.cells #[.slice none 0 0] 26)
  have HB0 := Lib.hid hb0
  have HX0 := Lib.hid (Ret.Box.new w (.slice none 0 0) 26)
  have HH0 := Lib.hid hh
  have HBY := Lib.hid hB
  have HM := Lib.hid hm
  have HR := Lib.hid (Sl.specReadV _ b i _ (hh.on hb0) hB (by rw [← hm]; exact hl))
  clear h hh hB hb0 hm
  obtain ⟨n, hn⟩ : ∃ n, n = (Var.readV b i).1 := ⟨_, rfl⟩
  obtain ⟨j, hj⟩ : ∃ j, j = (Var.readV b i).2.1 := ⟨_, rfl⟩
  obtain ⟨ok, hok⟩ : ∃ z, z = (Var.readV b i).2.2 := ⟨_, rfl⟩
  have hrd : Sl.rdV (Var.readV b i) = .tuple #[.int .i64 n, .int .i64 j, .bool ok] := by rw [hn, hj, hok]; rfl
  rw [hrd] at HR
  have HNN := Lib.hid hn; have HJ := Lib.hid hj; have HOK := Lib.hid hok
  clear hrd hn hj hok
  go_enter Tryd.func14, Tryd.ntmps14
  go_wp2_with fail
  refine HR.out.mono ?_
  rintro e w1 ⟨rfl, rfl⟩
  have hx0 := HX0.out.cell
  have hf0 := HX0.out.frozen
  cases ok with
  | false =>
    have HV := Lib.hid (rdN_no (b := b) (i := i) (Or.inl HOK.out.symm))
    go_wp2_with fail
    refine bodyPost_ret (Ret.results_ctt rfl _ _ w.heap.size [_] rfl aggN (Ret.one HX0.out.cell)) rfl ?_
    rw [HV.out]
    exact ⟨_, rfl, Own.nil _ _ _ _, HB0.out⟩
  | true =>
    by_cases h6 : 6 < n
    · have HV := Lib.hid (rdN_no (b := b) (i := i) (Or.inr (by rw [← HNN.out]; exact h6)))
      go_wp2_with fail
      refine bodyPost_ret (Ret.results_ctt rfl _ _ w.heap.size [_] rfl aggN (Ret.one HX0.out.cell)) rfl ?_
      rw [HV.out]
      exact ⟨_, rfl, Own.nil _ _ _ _, HB0.out⟩
    · have hbd := Sl.readV_bounds (l := b) (i := i) HBY.out HOK.out.symm
      rw [← HNN.out, ← HJ.out, ← HM.out] at hbd
      obtain ⟨n, rfl⟩ := Int.eq_ofNat_of_zero_le hbd.1
      obtain ⟨j, rfl⟩ := Int.eq_ofNat_of_zero_le (show 0 ≤ j by omega)
      have HV : Hid (rdN b i = match rdP n b j [] with
        | none => ([], 0, false)
        | some (l, j) => if validN l = true then (l, j, true) else ([], 0, false)) := Lib.hid (by
          rw [rdN_go (by rw [← HNN.out, ← HOK.out]; simp; omega), ← HNN.out, ← HJ.out]; rfl)
      have hn6 : n ≤ 6 := by omega
      have hal := (Below.refl (w.alloc (.cells #[.slice none 0 0] 26)).heap.size (w.alloc (.cells #[.slice none 0 0] 26))).alloc (Nat.le_refl _) (.cells #[.slice none 0 0] 26)
      have HX1 := Lib.hid (HX0.out.on hal)
      have HY1 := Lib.hid (Ret.Box.new' (w := w.alloc (.cells #[.slice none 0 0] 26)) (n := w.heap.size + 1) (.slice none 0 0) 26 (by simp))
      have HB1 := Lib.hid (HB0.out.trans (hal.mono (by simp)))
      clear hal hbd h6 hx0 hf0 HR
      go_wp2_with fail
      go_loopw [8, 11] (fun jv iv wr => ∃ (k : Nat) (jj : Int) (acc : List ByteArray) (xa : Option Addr) (na ca : Nat), k ≤ n ∧ iv = .int .i64 k ∧ jv = .int .i64 jj ∧ Hid (na = k) ∧ bulk acc ≤ 9 * k ∧ Hid (na = acc.length) ∧ Hid (rdP n b j [] = rdP (n - k) b jj acc) ∧ Hid (Own 9 Value.string (w.heap.size + 2) wr (.slice xa na ca) acc) ∧ Hid (Ret.Box wr (w.heap.size + 1) (.slice xa na ca) 26) ∧ Hid (Ret.Box wr w.heap.size (.slice none 0 0) 26) ∧ Hid (Below w.heap.size w wr)) (fun _ iv _ => n - (intOf iv).toNat)
      case atStart => exact ⟨0, j, [], none, 0, 0, Nat.zero_le _, rfl, rfl, Lib.hid rfl, by simp [bulk_nil], Lib.hid rfl, Lib.hid rfl, Lib.hid (Own.nil _ _ _ _), HY1, HX1, HB1⟩
      case round =>
        obtain ⟨k, jj, acc, xa, na, ca, hk, rfl, rfl, hna, hbk, HNA, HRD, HO, HY, HX, HB⟩ := hrel
        have hy := HY.out.cell
        have hyf := HY.out.frozen
        have hx := HX.out.cell
        have hxf := HX.out.frozen
        by_cases hlt : k < n
        · have HRB := Lib.hid (Sl.specReadBytes _ b jj 8 wr (HH0.out.on HB.out) HBY.out (by rw [← HM.out]; exact hl))
          go_wp2_with fail
          refine HRB.out.mono ?_
          rintro e w2 ⟨v2, rfl, ho2, hb2⟩
          have h8 := readB8 b jj
          obtain ⟨bs, hbs⟩ : ∃ bs, bs = (Sl.readB b jj 8).1 := ⟨_, rfl⟩
          obtain ⟨j2, hj2⟩ : ∃ j2, j2 = (Sl.readB b jj 8).2.1 := ⟨_, rfl⟩
          obtain ⟨o2, ho2'⟩ : ∃ o2, o2 = (Sl.readB b jj 8).2.2 := ⟨_, rfl⟩
          rw [← hbs] at ho2 h8
          rw [← hj2, ← ho2']
          have HBS := Lib.hid hbs; have HJ2 := Lib.hid hj2; have HO2' := Lib.hid ho2'
          obtain ⟨x2, c2, rfl, hc2, ho2s⟩ := ho2.holds.shape
          have hcv := Sl.conv_holds (w := w2) ho2s
          have HCV := Lib.hid hcv
          have HY2 := Lib.hid (HY.out.on hb2); have HX2 := Lib.hid (HX.out.on hb2); have HO2 := Lib.hid (HO.out.on hb2)
          have HB2 := Lib.hid (HB.out.trans (hb2.mono HB.out.size))
          clear ho2 hb2 hbs hj2 ho2' ho2s hy hyf hx hxf HRB
          have hy2 := HY2.out.cell
          have hyf2 := HY2.out.frozen
          have hx2 := HX2.out.cell
          have hxf2 := HX2.out.frozen
          cases o2 with
          | false =>
            have HV2 : Hid (rdN b i = ([], 0, false)) := Lib.hid (by
              rw [HV.out, HRD.out, show n - k = (n - (k + 1)) + 1 by omega, rdP, if_neg (by rw [← HO2'.out]; simp)])
            have HE := Lib.hid (end0 HX2.out HB2.out)
            go_wp2_with fail
            refine bodyPost_ret (Ret.results_ctt rfl _ _ w.heap.size [_] rfl aggN (Ret.one HE.out.1)) rfl ?_
            rw [HV2.out]
            exact ⟨_, rfl, HE.out.2.1, HE.out.2.2⟩
          | true =>
            have HST := Lib.hid (show rdP (n - k) b jj acc = rdP (n - (k + 1)) b j2 (acc ++ [strOfNums bs]) by
              rw [show n - k = (n - (k + 1)) + 1 by omega, rdP, if_pos HO2'.out.symm, ← HJ2.out, ← HBS.out])
            have hal := (Below.refl w2.heap.size w2).alloc (Nat.le_refl _) (.cells #[.string (strOfNums bs)] 9)
            have HOA := Lib.hid (HO2.out.on hal)
            have HYA := Lib.hid (HY2.out.on hal)
            have HXA := Lib.hid (HX2.out.on hal)
            have HBA := Lib.hid (HB2.out.trans (hal.mono HB2.out.size))
            have HLM := Lib.hid (show (acc.length + [strOfNums bs].length) * 16 ≤ 140737488355328 by rw [← HNA.out, hna.out]; simp; omega)
            have HLX := Lib.hid (show acc.length + [strOfNums bs].length ≤ maxLen by rw [← HNA.out, hna.out]; unfold maxLen; simp; omega)
            have HSB := Lib.hid (show w.heap.size + 2 ≤ (w2.alloc (.cells #[.string (strOfNums bs)] 9)).heap.size by have := HY2.out.lt; simp; omega)
            clear hal
            go_wp2_with (at_builtin; refine wpList_app (enc := Value.string) (B := w.heap.size + 2) (l := acc) (m := [strOfNums bs]) rfl _ _ rfl Tryd.underlying24 elemSTR rfl rfl rfl HOA.out (holds_one Value.string 9 w2 _) oneStr HLM.out HLX.out HSB.out ?_)
            intro v3 w3 ho3 hg3
            obtain ⟨x3, n3, c3, rfl, hn3, -, ho3⟩ := ho3.shapeN
            have HN3 := Lib.hid hn3
            have hn3' : n3 = k + 1 := by rw [hn3, List.length_append, ← HNA.out, hna.out]; rfl
            have HY3 := Lib.hid (HYA.out.grown hg3 (Own.notBox HOA.out HYA.out (by decide)))
            have HX3 := Lib.hid (HXA.out.grown hg3 (Own.notBox HOA.out HXA.out (by decide)))
            have HB3 := Lib.hid (HBA.out.grown hg3 HBA.out.size (fun g e => by have := (HOA.out.lt g e).1; omega))
            have HO3 := Lib.hid ho3
            have hy3 := HY3.out.cell
            have hyf3 := HY3.out.frozen
            have HY4 := Lib.hid (Ret.Box.set HY3.out (.slice x3 n3 c3))
            have HX4 := Lib.hid (HX3.out.grown (Ret.grownBy_set w3 ⟨w.heap.size + 1, 0, none⟩ (.slice x3 n3 c3)) (by simp))
            have HO4 := Lib.hid (own_set (g := w.heap.size + 1) (i := 0) (u := .slice x3 n3 c3) HO3.out (by omega))
            have HB4 := Lib.hid (HB3.out.setCell (p := ⟨w.heap.size + 1, 0, none⟩) (by simp) (.slice x3 n3 c3))
            have HRD4 := Lib.hid (HRD.out.trans HST.out)
            have hbk4 : bulk (acc ++ [strOfNums bs]) ≤ 9 * (k + 1) := by
              rw [bulk_append, bulk_one, strOfNums_size]; omega
            have HNE := Lib.hid hn3'
            clear ho3 hg3 hn3 hn3' hcv hy2 hyf2 hx2 hxf2
            go_wp2_with fail
            go_roundw
            case rel => exact ⟨k + 1, j2, _, x3, n3, c3, by omega, by go_num, rfl, HNE, hbk4, HN3, HRD4, HO4, HY4, HX4, HB4⟩
            case measure => simp [intOf]; omega
        · obtain rfl : k = n := by omega
          clear hlt
          have HRF : Hid (rdP k b j [] = some (acc, jj)) := Lib.hid (by rw [HRD.out, Nat.sub_self]; rfl)
          obtain ⟨z, hz⟩ : ∃ z, validN acc = z := ⟨_, rfl⟩
          have HZ := Lib.hid hz
          have HNM := Lib.hid HO.out.holds
          go_wp2_with fail
          refine (specValidName _ acc _ HNM.out (by omega)).mono ?_
          rintro e w2 ⟨rfl, hb2⟩
          rw [hz]
          have HY2 := Lib.hid (HY.out.on hb2); have HX2 := Lib.hid (HX.out.on hb2); have HO2 := Lib.hid (HO.out.on hb2)
          have HB2 := Lib.hid (HB.out.trans (hb2.mono HB.out.size))
          clear hb2 hz hy hyf hx hxf
          have hy2 := HY2.out.cell
          have hx2 := HX2.out.cell
          have hxf2 := HX2.out.frozen
          cases z with
          | false =>
            have HV2 : Hid (rdN b i = ([], 0, false)) := Lib.hid (by
              rw [HV.out, HRF.out]
              show (if validN acc = true then _ else _) = _
              rw [if_neg (by rw [HZ.out]; simp)])
            have HE := Lib.hid (end0 HX2.out HB2.out)
            go_wp2_with fail
            refine bodyPost_ret (Ret.results_ctt rfl _ _ w.heap.size [_] rfl aggN (Ret.one HE.out.1)) rfl ?_
            rw [HV2.out]
            exact ⟨_, rfl, HE.out.2.1, HE.out.2.2⟩
          | true =>
            have HV2 : Hid (rdN b i = (acc, jj, true)) := Lib.hid (by
              rw [HV.out, HRF.out]
              show (if validN acc = true then _ else _) = _
              rw [if_pos HZ.out])
            have HE1 := Lib.hid (Ret.set_same (v := .slice xa na ca) HX2.out.cell)
            have HE2 := Lib.hid ((own_set (g := w.heap.size) (i := 0) (u := .slice xa na ca) HO2.out (by omega)).mono (show w.heap.size ≤ w.heap.size + 2 by omega))
            have HE3 := Lib.hid (HB2.out.setCell (p := ⟨w.heap.size, 0, none⟩) (Nat.le_refl _) (.slice xa na ca))
            go_wp2_with fail
            refine bodyPost_ret (Ret.results_ctt rfl _ _ w.heap.size [_] rfl aggN (Ret.one HE1.out)) rfl ?_
            rw [HV2.out]
            exact ⟨_, rfl, HE2.out, HE3.out⟩
end Go.Proofs.YtnnhgcfelkcpfaaDoor.Row
/- Contracts of the program's functions on interests: validity, AppendName, the numbers, copy, the hop limit. No conditions but that lengths fit. -/
namespace Go.Proofs.YtnnhgcfelkcpfaaDoor.Row
open Go.ChangeShapes Go.WideShapes Go.ChangeAt Go.RowKit Go.Instr
set_option linter.unusedVariables false
set_option maxRecDepth 100000

set_option maxHeartbeats 4000000 in
theorem implValidInterest (v : Value) (x : Wt) (w : World) (h : Holds Value.string w v x.1) (hl : bulk x.1 ≤ 9000000) :
    Calls Tryd.prog 28 #[.agg (wc v x.2.1 x.2.2.1 x.2.2.2)] w fun e w' => e = .returned (.bool (validW x)) ∧ Below w.heap.size w w' := by
  obtain ⟨l, a, b, c⟩ := x
  simp only at h hl ⊢
  obtain ⟨y, q, cy, rfl, hq, hcy, hg⟩ := h.shapeN
  have hb0 := (Below.refl w.heap.size w).alloc (Nat.le_refl _) (.cells (wc (.slice y q cy) a b c) 28)
  have HB := Lib.hid hb0
  have HG := Lib.hid (hg.on hb0)
  have X0 := Lib.hid (Ret.Blk.new w (wc (.slice y q cy) a b c) 28)
  have HQ := Lib.hid hq
  clear h hg hq hb0
  obtain ⟨ok, hok⟩ : ∃ z, validN l = z := ⟨_, rfl⟩
  have HOK := Lib.hid hok
  go_enter Tryd.func28, Tryd.ntmps28
  go_wp2_with fail
  refine (implValidName _ l _ HG.out (by omega)).mono ?_
  rintro e w1 ⟨rfl, hb⟩
  rw [hok]
  have Y0 := Lib.hid (X0.out.on hb)
  have HB2 := Lib.hid (HB.out.trans (hb.mono HB.out.size)); clear hb X0 hok
  have q0 : w1.cell? ⟨w.heap.size, 0, none⟩ = some (.slice y q cy) := Y0.out.cell 0
  have q1 : w1.cell? ⟨w.heap.size, 1, none⟩ = some (.int .i64 a) := Y0.out.cell 1
  have q2 : w1.cell? ⟨w.heap.size, 2, none⟩ = some (.int .i64 b) := Y0.out.cell 2
  have q3 : w1.cell? ⟨w.heap.size, 3, none⟩ = some (.int .i64 c) := Y0.out.cell 3
  cases ok with
  | false =>
    have HV := Lib.hid (validW_no1 (x := (l, a, b, c)) HOK.out)
    go_wp2_with fail
    go_ret
    exact ⟨ret_bool HV.out.symm, HB2.out⟩
  | true =>
    by_cases h2 : 0 < q
    · have hd2 : decide ((0 : Int) < (q : Int)) = true := by simp; omega
      by_cases h3 : 0 ≤ a ∧ a ≤ 1000000
      · have HI3 := Lib.hid (fun wx => Num.implIn_true h3.1 h3.2 wx)
        have H3 := Lib.hid h3
        clear h3
        go_wp2_with fail
        refine (HI3.out _).mono ?_
        rintro e w' ⟨rfl, rfl⟩
        by_cases h4 : 0 ≤ b ∧ b ≤ 16
        · have HI4 := Lib.hid (fun wx => Num.implIn_true h4.1 h4.2 wx)
          have H4 := Lib.hid h4
          clear h4
          go_wp2_with fail
          refine (HI4.out _).mono ?_
          rintro e w' ⟨rfl, rfl⟩
          by_cases h5 : 1 ≤ c ∧ c ≤ 20
          · have HI5 := Lib.hid (fun wx => Num.implIn_true h5.1 h5.2 wx)
            have HV := Lib.hid (validW_yes (x := (l, a, b, c)) HOK.out (by rw [← HQ.out]; exact h2) H3.out H4.out h5)
            clear h5
            go_wp2_with fail
            refine (HI5.out _).mono ?_
            rintro e w' ⟨rfl, rfl⟩
            go_wp2_with fail
            go_ret
            exact ⟨ret_bool HV.out.symm, HB2.out⟩
          · have HI5 := Lib.hid (fun wx => Num.implIn_false h5 wx)
            have HV := Lib.hid (validW_no5 (x := (l, a, b, c)) h5)
            clear h5
            go_wp2_with fail
            refine (HI5.out _).mono ?_
            rintro e w' ⟨rfl, rfl⟩
            go_wp2_with fail
            go_ret
            exact ⟨ret_bool HV.out.symm, HB2.out⟩
        · have HI4 := Lib.hid (fun wx => Num.implIn_false h4 wx)
          have HV := Lib.hid (validW_no4 (x := (l, a, b, c)) h4)
          clear h4
          go_wp2_with fail
          refine (HI4.out _).mono ?_
          rintro e w' ⟨rfl, rfl⟩
          go_wp2_with fail
          go_ret
          exact ⟨ret_bool HV.out.symm, HB2.out⟩
      · have HI3 := Lib.hid (fun wx => Num.implIn_false h3 wx)
        have HV := Lib.hid (validW_no3 (x := (l, a, b, c)) h3)
        clear h3
        go_wp2_with fail
        refine (HI3.out _).mono ?_
        rintro e w' ⟨rfl, rfl⟩
        go_wp2_with fail
        go_ret
        exact ⟨ret_bool HV.out.symm, HB2.out⟩
    · have HV := Lib.hid (validW_no2 (x := (l, a, b, c)) (by rw [← HQ.out]; exact h2))
      have hd2 : decide ((0 : Int) < (q : Int)) = false := by simp; omega
      go_wp2_with fail
      go_ret
      exact ⟨ret_bool HV.out.symm, HB2.out⟩

set_option maxHeartbeats 4000000 in
theorem implAppendName (v u : Value) (b : List Int) (l : List ByteArray) (w : World) (h : Sl.Holds .u8 w v b) (g : Holds Value.string w u l) (hb : b.length ≤ 2000000) (hl : bulk l ≤ 1200000) :
    Calls Tryd.prog 22 #[v, .agg #[u]] w (Sl.GivesB w (appName b l)) := by
  obtain ⟨x, cx, rfl, hcx, hh⟩ := h.shape
  obtain ⟨y, q, cy, rfl, hq, hcy, hg⟩ := g.shapeN
  obtain ⟨m, hm⟩ : ∃ m, m = b.length := ⟨_, rfl⟩
  rw [← hm] at hcx hh hb ⊢
  have HM := Lib.hid hm; have HQ := Lib.hid hq
  have hb0 := (Below.refl w.heap.size w).alloc (Nat.le_refl _) (.cells #[.slice y q cy] 26)
  have HB1 := Lib.hid hb0
  have HH := Lib.hid hh
  have HG := Lib.hid (hg.on hb0)
  have HX := Lib.hid (Ret.Box.new w (.slice y q cy) 26)
  have HBL := Lib.hid hl
  have HG0 := Lib.hid hg
  have hql : q ≤ 1200000 := by rw [hq]; exact Nat.le_trans (bulk_len l) hl
  clear hh h g hg hm hq hb0
  obtain ⟨ok, hok⟩ : ∃ z, validN l = z := ⟨_, rfl⟩
  have HOK := Lib.hid hok
  go_enter Tryd.func22, Tryd.ntmps22
  go_wp2_with fail
  refine (implValidName _ l _ HG.out (by omega)).mono ?_
  rintro e w2 ⟨rfl, hb2⟩
  rw [hok]
  have HB2 := Lib.hid (HB1.out.trans (hb2.mono HB1.out.size))
  have HX2 := Lib.hid (HX.out.on hb2)
  have HH2 := Lib.hid (HH.out.on HB2.out)
  have hx2 := HX2.out.cell
  clear hb2 hok
  cases ok with
  | false =>
    have HV : Hid (appName b l = b) := Lib.hid (by unfold appName; rw [if_neg (by rw [HOK.out]; simp)])
    have HOE := Lib.hid (Sl.own_empty .u8 5 w2)
    have HHE := Lib.hid (HH2.out.on ((Below.refl _ _).alloc (Nat.le_refl _) (.cells #[] 5)))
    have HBE := Lib.hid (HB2.out.alloc HB2.out.size (.cells #[] 5))
    go_wp2_with (at_builtin; refine Sl.wpList_app (k := .u8) (B := w2.heap.size) (l := []) (m := b) rfl _ _ rfl Tryd.underlying22 Sl.elemBYTE rfl rfl rfl HOE.out HHE.out ?_ (by decide) ?_ ?_)
    · have := HM.out; simp; omega
    · simp
    intro v1 w1 ho hg
    have HB := Lib.hid (HBE.out.grown hg HBE.out.size (fun g e => by cases e; exact HB2.out.size))
    have HO := Lib.hid (show Sl.Own 5 .u8 w.heap.size w1 v1 b from ho.mono HB2.out.size)
    clear ho hg
    go_wp2_with fail
    go_ret
    exact ⟨_, rfl, by rw [HV.out]; exact HO.out, HB.out⟩
  | true =>
    have HV : Hid (appName b l = b ++ encN l) := Lib.hid (by unfold appName; rw [if_pos HOK.out])
    go_wp2_with fail
    refine (Sl.implAppendVarint _ b q _ HH2.out (by rw [← HM.out]; omega)).mono ?_
    rintro e w3 ⟨v3, rfl, ho3, hb3⟩
    have HO3 := Lib.hid (show Sl.Own 5 .u8 w.heap.size w3 v3 (b ++ Var.var q ++ encPs (l.take 0)) by rw [List.take_zero, show encPs [] = [] from rfl, List.append_nil]; exact ho3.mono HB2.out.size)
    have HB3 := Lib.hid (HB2.out.trans (hb3.mono HB2.out.size))
    have HX3 := Lib.hid (HX2.out.on hb3)
    clear ho3 hb3 hx2
    have hx3 := HX3.out.cell
    go_wp2_with fail
    go_loopw [0, 6, 21] (fun tv pv iv wr => ∃ k : Nat, k ≤ q ∧ iv = .int .i64 k ∧ Hid (Sl.Own 5 .u8 w.heap.size wr tv (b ++ Var.var q ++ encPs (l.take k))) ∧ Hid (Below w.heap.size w wr)) (fun _ _ iv _ => q - (intOf iv).toNat)
    case atStart => exact ⟨0, Nat.zero_le _, rfl, HO3, HB3⟩
    case round =>
      obtain ⟨k, hk, rfl, hO, hB⟩ := hrel
      by_cases hlt : k < q
      · obtain ⟨b0, off0, hy, hc⟩ := (HG0.out.on hB.out).at (j := k) (by rw [← HQ.out]; exact hlt)
        subst hy
        have hsz : (nth l k).size ≤ 1200000 := by
          have h2 := size_bulk (l := l) (k := k) (by rw [← HQ.out]; exact hlt)
          have h3 := HBL.out
          omega
        have hle : (encPs (l.take k)).length ≤ 7200000 := by
          have h1 := encPs_len (l.take k)
          have h2 := bulk_take_le l k
          have h3 := HBL.out
          omega
        have hll : (b ++ Var.var q ++ encPs (l.take k)).length ≤ 10000000 := by
          have h1 := Var.var_len q
          rw [List.length_append, List.length_append, ← HM.out]; omega
        have HN := Lib.hid (encPs_next (l := l) (k := k) (by rw [← HQ.out]; exact hlt))
        obtain ⟨cp, wc', e0, h0, b0'⟩ := Sl.conv_bytes wr (nth l k)
        have H0 := Lib.hid h0; have B0 := Lib.hid b0'
        have HLL := Lib.hid hll
        clear h0 b0' hle hll
        go_wp2_with fail
        refine (Sl.implAppendBytes _ _ (b ++ Var.var q ++ encPs (l.take k)) (Sl.bytesOf (nth l k)) wc' (hO.out.on B0.out).holds H0.out HLL.out (by rw [Sl.bytesOf_length]; omega)).mono ?_
        rintro e w4 ⟨v4, rfl, ho4, hb4⟩
        have HB4 := Lib.hid ((hB.out.trans (B0.out.mono hB.out.size)).trans (hb4.mono (Nat.le_trans hB.out.size B0.out.size)))
        have HO4 := Lib.hid (show Sl.Own 5 .u8 w.heap.size w4 v4 (b ++ Var.var q ++ encPs (l.take (k + 1))) by
          have h9 := ho4.mono (Nat.le_trans hB.out.size B0.out.size)
          rw [HN.out, ← List.append_assoc, ← Sl.bytesOf_length, ← List.append_assoc]
          exact h9)
        clear ho4 hb4 e0 hc
        go_wp2_with fail
        go_roundw
        case rel => exact ⟨k + 1, by omega, by go_num, HO4, HB4⟩
        case measure => simp [intOf]; omega
      · obtain rfl : k = q := by omega
        clear hlt
        go_wp2_with fail
        go_ret
        refine ⟨_, rfl, ?_, hB.out⟩
        have h9 := hO.out
        rw [HQ.out, List.take_length] at h9
        rw [HV.out]
        unfold encN
        rw [← List.append_assoc]
        exact h9
end Go.Proofs.YtnnhgcfelkcpfaaDoor.Row
/- Contracts of the program's functions on interests: the numbers, copy, the hop limit. No conditions but that lengths fit. -/
namespace Go.Proofs.YtnnhgcfelkcpfaaDoor.Row
open Go.ChangeShapes Go.WideShapes Go.ChangeAt Go.RowKit Go.Instr
set_option linter.unusedVariables false
set_option maxRecDepth 100000

theorem ownI3 (w : World) (a b c : Int) : Sl.Own 3 .i64 w.heap.size (w.alloc (.cells #[.int .i64 a, .int .i64 b, .int .i64 c] 3)) (.slice (some ⟨w.heap.size, 0, none⟩) 3 3) [a, b, c] := World.ownsRow_lit w #[.int .i64 a, .int .i64 b, .int .i64 c] 3 (Nat.le_refl _) (by unfold maxLen; omega) rfl

set_option maxHeartbeats 2000000 in
theorem numbers (v : Value) (a b c : Int) (w : World) (hv : ∃ x n cap, v = .slice x n cap) :
    Calls Tryd.prog 36 #[.agg (wc v a b c)] w (Sl.GivesI w [a, b, c]) := by
  obtain ⟨x, n, cap, rfl⟩ := hv
  have hb0 := (Below.refl w.heap.size w).alloc (Nat.le_refl _) (.cells (wc (.slice x n cap) a b c) 28)
  have HB := Lib.hid (hb0.alloc (by simp) (.cells #[.int .i64 a, .int .i64 b, .int .i64 c] 3))
  have HO := Lib.hid (ownI3 (w.alloc (.cells (wc (.slice x n cap) a b c) 28)) a b c)
  clear hb0
  go_enter Tryd.func36, Tryd.ntmps36
  go_wp2_with fail
  go_ret
  exact ⟨_, rfl, by have h := HO.out; simp only [World.size_alloc] at h; exact h.mono (by omega), HB.out⟩

set_option maxHeartbeats 2000000 in
theorem cloneW (v : Value) (x : Wt) (w : World) (h : Holds Value.string w v x.1) (hl : x.1.length ≤ 9000000) :
    Calls Tryd.prog 53 #[.agg (wc v x.2.1 x.2.2.1 x.2.2.2)] w (GivesW w x) := by
  obtain ⟨l, a, b, c⟩ := x
  unfold GivesW
  simp only at h hl ⊢
  obtain ⟨x, n, cap, rfl, hn, hcap, hh⟩ := h.shapeN
  have hb0 := (Below.refl w.heap.size w).alloc (Nat.le_refl _) (.cells (wc (.slice x n cap) a b c) 28)
  have hb1 := hb0.alloc (by simp) (.cells (wc (.slice none 0 0) 0 0 0) 28)
  have HB := Lib.hid hb1
  have HA := Lib.hid (hh.on hb1)
  have X0 := Lib.hid ((Ret.Blk.new w (wc (.slice x n cap) a b c) 28).on ((Below.refl _ _).alloc (Nat.le_refl _) (.cells (wc (.slice none 0 0) 0 0 0) 28)))
  have X1 := Lib.hid (Ret.Blk.new' (w := w.alloc (.cells (wc (.slice x n cap) a b c) 28)) (n := w.heap.size + 1) (wc (.slice none 0 0) 0 0 0) 28 (by simp))
  clear hh h hn hb0 hb1
  go_enter Tryd.func53, Tryd.ntmps53
  go_wp2_with fail
  refine (cloneName _ l _ HA.out hl).mono ?_
  rintro e w1 ⟨v1, rfl, ho, hb⟩
  obtain ⟨x1, n1, c1, rfl, -, hc1, ho1⟩ := ho.shapeN
  have HO := Lib.hid ho1
  have Y0 := Lib.hid (X0.out.on hb); have Y1 := Lib.hid (X1.out.on hb)
  have HB1 := Lib.hid (HB.out.trans (hb.mono HB.out.size))
  clear ho ho1 hb X0 X1
  have r0 : w1.cell? ⟨w.heap.size, 0, none⟩ = some (.slice x n cap) := Y0.out.cell 0
  have r1 : w1.cell? ⟨w.heap.size, 1, none⟩ = some (.int .i64 a) := Y0.out.cell 1
  have r2 : w1.cell? ⟨w.heap.size, 2, none⟩ = some (.int .i64 b) := Y0.out.cell 2
  have r3 : w1.cell? ⟨w.heap.size, 3, none⟩ = some (.int .i64 c) := Y0.out.cell 3
  have s0 : w1.cell? ⟨w.heap.size + 1, 0, none⟩ = some (.slice none 0 0) := Y1.out.cell 0
  have s1 : w1.cell? ⟨w.heap.size + 1, 1, none⟩ = some (.int .i64 0) := Y1.out.cell 1
  have s2 : w1.cell? ⟨w.heap.size + 1, 2, none⟩ = some (.int .i64 0) := Y1.out.cell 2
  have s3 : w1.cell? ⟨w.heap.size + 1, 3, none⟩ = some (.int .i64 0) := Y1.out.cell 3
  have t0 := Y1.out.frozen 0; have t1 := Y1.out.frozen 1; have t2 := Y1.out.frozen 2; have t3 := Y1.out.frozen 3
  have k0_ := Y0.out.frozen 0
  have Z1 := Lib.hid (((((Y1.out.other (a := ⟨w.heap.size, 0, none⟩) (by simp) (.slice x1 n1 c1)).set 0 (.slice x1 n1 c1)).set 1 (.int .i64 a)).set 2 (.int .i64 b)).set 3 (.int .i64 c))
  have Z2 := Lib.hid (own_set (g := w.heap.size + 1) (i := 3) (u := (.int .i64 c)) (own_set (g := w.heap.size + 1) (i := 2) (u := (.int .i64 b)) (own_set (g := w.heap.size + 1) (i := 1) (u := (.int .i64 a)) (own_set (g := w.heap.size + 1) (i := 0) (u := (.slice x1 n1 c1)) (own_set (g := w.heap.size) (i := 0) (u := (.slice x1 n1 c1)) HO.out (by simp; omega)) (by simp)) (by simp)) (by simp)) (by simp))
  have Z3 := Lib.hid (((((HB1.out.setCell (p := ⟨w.heap.size, 0, none⟩) (by simp) (.slice x1 n1 c1)).setCell (p := ⟨w.heap.size + 1, 0, none⟩) (by simp) (.slice x1 n1 c1)).setCell (p := ⟨w.heap.size + 1, 1, none⟩) (by simp) (.int .i64 a)).setCell (p := ⟨w.heap.size + 1, 2, none⟩) (by simp) (.int .i64 b)).setCell (p := ⟨w.heap.size + 1, 3, none⟩) (by simp) (.int .i64 c))
  clear Y0 Y1
  go_wp2_with fail
  refine bodyPost_ret (Ret.results_c rfl _ _ (w.heap.size + 1) (wc (.slice x1 n1 c1) a b c).toList rfl aggW Z1.out.cells) rfl ?_
  exact ⟨_, rfl, Z2.out.mono (by simp; omega), Z3.out⟩

set_option maxHeartbeats 4000000 in
theorem fewerW (v : Value) (x : Wt) (w : World) (h : Holds Value.string w v x.1) (hl : x.1.length ≤ 9000000) (hb0 : 1 ≤ x.2.2.1) (hb1 : x.2.2.1 ≤ 9223372036854775807) :
    Calls Tryd.prog 54 #[.agg (wc v x.2.1 x.2.2.1 x.2.2.2)] w (GivesW w (x.1, x.2.1, x.2.2.1 - 1, x.2.2.2)) := by
  obtain ⟨l, a, b, c⟩ := x
  unfold GivesW
  simp only at h hl hb0 hb1 ⊢
  obtain ⟨x, n, cap, rfl, hn, hcap, hh⟩ := h.shapeN
  have hw : IntKind.i64.wrap (b - 1) = b - 1 := by rw [IntKind.wrap_i64]; omega
  have h0 := (Below.refl w.heap.size w).alloc (Nat.le_refl _) (.cells (wc (.slice x n cap) a b c) 28)
  have h1 := h0.alloc (by simp) (.cells (wc (.slice none 0 0) 0 0 0) 28)
  have HB := Lib.hid h1
  have HA := Lib.hid (hh.on h1)
  have X1 := Lib.hid (Ret.Blk.new' (w := w.alloc (.cells (wc (.slice x n cap) a b c) 28)) (n := w.heap.size + 1) (wc (.slice none 0 0) 0 0 0) 28 (by simp))
  clear hh h hn h0 h1
  go_enter Tryd.func54, Tryd.ntmps54
  go_wp2_with fail
  refine (cloneW _ (l, a, b, c) _ HA.out hl).mono ?_
  rintro e w1 ⟨v1, rfl, ho, hb⟩
  simp only at ho
  obtain ⟨x1, n1, c1, rfl, -, hc1, ho1⟩ := ho.shapeN
  have hal : Below w1.heap.size w1 (w1.alloc (.cells (wc (.slice x1 n1 c1) a b c) 28)) := (Below.refl _ _).alloc (Nat.le_refl _) _
  have HO := Lib.hid (ho1.on hal)
  have HLT := Lib.hid (fun b e => (ho1.lt b e).2)
  have Y1 := Lib.hid ((X1.out.on hb).on hal)
  have Y2 := Lib.hid (Ret.Blk.new w1 (wc (.slice x1 n1 c1) a b c) 28)
  have HB1 := Lib.hid ((HB.out.trans (hb.mono HB.out.size)).trans (hal.mono (Nat.le_trans HB.out.size hb.size)))
  have hsz := hb.size
  simp only [World.size_alloc] at hsz
  have hne : (⟨w1.heap.size, 2, none⟩ : Addr).block ≠ w.heap.size + 1 := by show w1.heap.size ≠ _; omega
  have hge : w.heap.size ≤ (⟨w1.heap.size, 2, none⟩ : Addr).block := by show _ ≤ w1.heap.size; omega
  have hn1 : ¬ w1.heap.size = w.heap.size + 1 := by omega
  have hn2 : ¬ w.heap.size + 1 = w1.heap.size := by omega
  clear ho ho1 hb X1 hal hc1
  have r0 := Y1.out.cell 0; have r1 := Y1.out.cell 1; have r2 := Y1.out.cell 2; have r3 := Y1.out.cell 3
  have s0 := Y2.out.cell 0; have s1 := Y2.out.cell 1; have s2 := Y2.out.cell 2; have s3 := Y2.out.cell 3
  have t0 := Y1.out.frozen 0; have t1 := Y1.out.frozen 1; have t2 := Y1.out.frozen 2; have t3 := Y1.out.frozen 3
  have k2_ := Y2.out.frozen 2
  simp only [wc, List.getElem?_toArray, List.getElem?_cons_zero, List.getElem?_cons_succ] at r0 r1 r2 r3 s0 s1 s2 s3
  go_upto_region 2 with fail
  generalize w1.alloc (.cells (wc (.slice x1 n1 c1) a b c) 28) = W at *
  generalize w1.heap.size = g at *
  have Z1 := Lib.hid (((((Y1.out.other (a := ⟨g, 2, none⟩) hne (.int .i64 (b - 1))).set 0 (.slice x1 n1 c1)).set 1 (.int .i64 a)).set 2 (.int .i64 (b - 1))).set 3 (.int .i64 c))
  have Z2 := Lib.hid (own_set (g := w.heap.size + 1) (i := 3) (u := (.int .i64 c)) (own_set (g := w.heap.size + 1) (i := 2) (u := (.int .i64 (b - 1))) (own_set (g := w.heap.size + 1) (i := 1) (u := (.int .i64 a)) (own_set (g := w.heap.size + 1) (i := 0) (u := (.slice x1 n1 c1)) (own_set' (g := g) (i := 2) (u := .int .i64 (b - 1)) HO.out HLT.out) (by simp)) (by simp)) (by simp)) (by simp))
  have Z3 := Lib.hid (((((HB1.out.setCell (p := ⟨g, 2, none⟩) hge (.int .i64 (b - 1))).setCell (p := ⟨w.heap.size + 1, 0, none⟩) (by simp) (.slice x1 n1 c1)).setCell (p := ⟨w.heap.size + 1, 1, none⟩) (by simp) (.int .i64 a)).setCell (p := ⟨w.heap.size + 1, 2, none⟩) (by simp) (.int .i64 (b - 1))).setCell (p := ⟨w.heap.size + 1, 3, none⟩) (by simp) (.int .i64 c))
  clear Y1 Y2
  go_wp2_with fail
  refine bodyPost_ret (Ret.results_c rfl _ _ (w.heap.size + 1) (wc (.slice x1 n1 c1) a (b - 1) c).toList rfl aggW Z1.out.cells) rfl ?_
  exact ⟨_, rfl, Z2.out.mono (by simp; omega), Z3.out⟩

set_option maxHeartbeats 4000000 in
theorem implDecrementHops (v : Value) (x : Wt) (w : World) (h : Holds Value.string w v x.1) (hl : x.1.length ≤ 9000000) (hb : x.2.2.1 ≤ 9223372036854775807) :
    Calls Tryd.prog 17 #[.agg (wc v x.2.1 x.2.2.1 x.2.2.2)] w (GivesWB w (decW x) (decOk x)) := by
  have hmf : ∀ (fn : Fn) (first cap : Array Value) (w : World), (Instr.makeFunc fn first cap).run Tryd.prog w = .ok (.func fn first cap) w := fun _ _ _ _ => rfl
  obtain ⟨l, a, b, c⟩ := x
  unfold GivesWB
  simp only at h hl hb ⊢
  obtain ⟨x, n, cap, rfl, hn, hcap, hh⟩ := h.shapeN
  have hb0 := (Below.refl w.heap.size w).alloc (Nat.le_refl _) (.cells (wc (.slice x n cap) a b c) 28)
  have hb1 := hb0.alloc (by simp) (.cells (wc (.slice none 0 0) 0 0 0) 28)
  have HB := Lib.hid hb1
  have HA := Lib.hid (hh.on hb1)
  have X1 := Lib.hid (Ret.Blk.new' (w := w.alloc (.cells (wc (.slice x n cap) a b c) 28)) (n := w.heap.size + 1) (wc (.slice none 0 0) 0 0 0) 28 (by simp))
  have HC := Lib.hid (cloneW (.slice x n cap) (l, a, b, c) _ HA.out hl)
  clear hh h hn hb0 hb1
  go_enter Tryd.func17, Tryd.ntmps17
  by_cases hlt : 1 ≤ b
  · have HD : Hid (decW (l, a, b, c) = (l, a, b - 1, c) ∧ decOk (l, a, b, c) = true) := Lib.hid ⟨if_neg (by show ¬ b < 1; omega), decide_eq_true (by show 1 ≤ b; omega)⟩
    have hd : decide (1 ≤ b) = true := decide_eq_true hlt
    have HF := Lib.hid (fewerW (.slice x n cap) (l, a, b, c) _ HA.out hl hlt hb)
    clear hlt
    go_wp2_with fail
    refine HF.out.mono ?_
    rintro e w1 ⟨v1, rfl, ho, hbb⟩
    simp only at ho
    obtain ⟨x1, n1, c1, rfl, -, hc1, ho1⟩ := ho.shapeN
    have HO := Lib.hid ho1
    have Y1 := Lib.hid (X1.out.on hbb)
    have HB1 := Lib.hid (HB.out.trans (hbb.mono HB.out.size))
    clear ho ho1 hbb X1
    have r0 : w1.cell? ⟨w.heap.size + 1, 0, none⟩ = some (.slice none 0 0) := Y1.out.cell 0
    have r1 : w1.cell? ⟨w.heap.size + 1, 1, none⟩ = some (.int .i64 0) := Y1.out.cell 1
    have r2 : w1.cell? ⟨w.heap.size + 1, 2, none⟩ = some (.int .i64 0) := Y1.out.cell 2
    have r3 : w1.cell? ⟨w.heap.size + 1, 3, none⟩ = some (.int .i64 0) := Y1.out.cell 3
    have t0 := Y1.out.frozen 0; have t1 := Y1.out.frozen 1; have t2 := Y1.out.frozen 2; have t3 := Y1.out.frozen 3
    have Z1 := Lib.hid ((((Y1.out.set 0 (.slice x1 n1 c1)).set 1 (.int .i64 a)).set 2 (.int .i64 (b - 1))).set 3 (.int .i64 c))
    have Z2 := Lib.hid (own_set (g := w.heap.size + 1) (i := 3) (u := (.int .i64 c)) (own_set (g := w.heap.size + 1) (i := 2) (u := (.int .i64 (b - 1))) (own_set (g := w.heap.size + 1) (i := 1) (u := (.int .i64 a)) (own_set (g := w.heap.size + 1) (i := 0) (u := (.slice x1 n1 c1)) HO.out (by simp)) (by simp)) (by simp)) (by simp))
    have Z3 := Lib.hid ((((HB1.out.setCell (p := ⟨w.heap.size + 1, 0, none⟩) (by simp) (.slice x1 n1 c1)).setCell (p := ⟨w.heap.size + 1, 1, none⟩) (by simp) (.int .i64 a)).setCell (p := ⟨w.heap.size + 1, 2, none⟩) (by simp) (.int .i64 (b - 1))).setCell (p := ⟨w.heap.size + 1, 3, none⟩) (by simp) (.int .i64 c))
    clear Y1
    go_wp2_with fail
    refine bodyPost_ret (Ret.results_ct rfl _ _ (w.heap.size + 1) (wc (.slice x1 n1 c1) a (b - 1) c).toList rfl aggW Z1.out.cells) rfl ?_
    rw [HD.out.1, HD.out.2]
    exact ⟨_, rfl, Z2.out.mono (by simp; omega), Z3.out⟩
  · have HD : Hid (decW (l, a, b, c) = (l, a, b, c) ∧ decOk (l, a, b, c) = false) := Lib.hid ⟨if_pos (by show b < 1; omega), decide_eq_false (by show ¬ 1 ≤ b; omega)⟩
    have hd : decide (1 ≤ b) = false := decide_eq_false hlt
    clear hlt
    go_wp2_with fail
    refine HC.out.mono ?_
    rintro e w1 ⟨v1, rfl, ho, hbb⟩
    simp only at ho
    obtain ⟨x1, n1, c1, rfl, -, hc1, ho1⟩ := ho.shapeN
    have HO := Lib.hid ho1
    have Y1 := Lib.hid (X1.out.on hbb)
    have HB1 := Lib.hid (HB.out.trans (hbb.mono HB.out.size))
    clear ho ho1 hbb X1
    have r0 : w1.cell? ⟨w.heap.size + 1, 0, none⟩ = some (.slice none 0 0) := Y1.out.cell 0
    have r1 : w1.cell? ⟨w.heap.size + 1, 1, none⟩ = some (.int .i64 0) := Y1.out.cell 1
    have r2 : w1.cell? ⟨w.heap.size + 1, 2, none⟩ = some (.int .i64 0) := Y1.out.cell 2
    have r3 : w1.cell? ⟨w.heap.size + 1, 3, none⟩ = some (.int .i64 0) := Y1.out.cell 3
    have t0 := Y1.out.frozen 0; have t1 := Y1.out.frozen 1; have t2 := Y1.out.frozen 2; have t3 := Y1.out.frozen 3
    have Z1 := Lib.hid ((((Y1.out.set 0 (.slice x1 n1 c1)).set 1 (.int .i64 a)).set 2 (.int .i64 b)).set 3 (.int .i64 c))
    have Z2 := Lib.hid (own_set (g := w.heap.size + 1) (i := 3) (u := (.int .i64 c)) (own_set (g := w.heap.size + 1) (i := 2) (u := (.int .i64 b)) (own_set (g := w.heap.size + 1) (i := 1) (u := (.int .i64 a)) (own_set (g := w.heap.size + 1) (i := 0) (u := (.slice x1 n1 c1)) HO.out (by simp)) (by simp)) (by simp)) (by simp))
    have Z3 := Lib.hid ((((HB1.out.setCell (p := ⟨w.heap.size + 1, 0, none⟩) (by simp) (.slice x1 n1 c1)).setCell (p := ⟨w.heap.size + 1, 1, none⟩) (by simp) (.int .i64 a)).setCell (p := ⟨w.heap.size + 1, 2, none⟩) (by simp) (.int .i64 b)).setCell (p := ⟨w.heap.size + 1, 3, none⟩) (by simp) (.int .i64 c))
    clear Y1
    go_wp2_with fail
    refine bodyPost_ret (Ret.results_ct rfl _ _ (w.heap.size + 1) (wc (.slice x1 n1 c1) a b c).toList rfl aggW Z1.out.cells) rfl ?_
    rw [HD.out.1, HD.out.2]
    exact ⟨_, rfl, Z2.out.mono (by simp; omega), Z3.out⟩
end Go.Proofs.YtnnhgcfelkcpfaaDoor.Row
/- Contracts of the program's EncodeInterest and EqualInterests. No conditions but that lengths fit. -/
namespace Go.Proofs.YtnnhgcfelkcpfaaDoor.Row
open Go.ChangeShapes Go.WideShapes Go.ChangeAt Go.RowKit Go.Instr
set_option linter.unusedVariables false
set_option maxRecDepth 100000

theorem some3 {B : Nat} {w : World} {v : Value} {a b c : Int} (h : Sl.Own 3 .i64 B w v [a, b, c]) : ∃ g k, v = .slice (some ⟨g, 0, none⟩) 3 k ∧ B ≤ g := by
  rcases h.form with ⟨_, h0⟩ | ⟨g, c, e, h1, _⟩
  · cases h0
  · exact ⟨g, c, e, h1⟩
set_option maxHeartbeats 8000000 in
theorem implEncodeInterest (v : Value) (x : Wt) (w : World) (h : Holds Value.string w v x.1) (hl : bulk x.1 ≤ 1200000) :
    Calls Tryd.prog 7 #[.agg (wc v x.2.1 x.2.2.1 x.2.2.2)] w (Sl.GivesB w (encW x)) := by
  obtain ⟨l, a, b, c⟩ := x
  simp only at h hl ⊢
  obtain ⟨y, q, cy, rfl, hq, hcy, hg⟩ := h.shapeN
  have hb0 := (Below.refl w.heap.size w).alloc (Nat.le_refl _) (.cells (wc (.slice y q cy) a b c) 28)
  have HB := Lib.hid hb0
  have HG := Lib.hid (hg.on hb0)
  have HG0 := Lib.hid hg
  have X0 := Lib.hid (Ret.Blk.new w (wc (.slice y q cy) a b c) 28)
  have HBL := Lib.hid hl
  obtain ⟨ok, hok⟩ : ∃ z, validW (l, a, b, c) = z := ⟨_, rfl⟩
  have HOK := Lib.hid hok
  clear h hg hq hb0
  go_enter Tryd.func7, Tryd.ntmps7
  go_wp2_with fail
  refine (implValidInterest _ (l, a, b, c) _ HG.out (show bulk l ≤ 9000000 by omega)).mono ?_
  rintro e w1 ⟨rfl, hb⟩
  rw [hok]
  have Y0 := Lib.hid (X0.out.on hb)
  have HBW := Lib.hid (HB.out.trans (hb.mono HB.out.size))
  have HG1 := Lib.hid (HG0.out.on HBW.out)
  clear hb X0 hok HG HG0
  have q0 : w1.cell? ⟨w.heap.size, 0, none⟩ = some (.slice y q cy) := Y0.out.cell 0
  have q1 : w1.cell? ⟨w.heap.size, 1, none⟩ = some (.int .i64 a) := Y0.out.cell 1
  have q2 : w1.cell? ⟨w.heap.size, 2, none⟩ = some (.int .i64 b) := Y0.out.cell 2
  have q3 : w1.cell? ⟨w.heap.size, 3, none⟩ = some (.int .i64 c) := Y0.out.cell 3
  cases ok with
  | false =>
    have HV : Hid (encW (l, a, b, c) = []) := Lib.hid (if_neg (by rw [HOK.out]; simp))
    have HE := Lib.hid (Sl.own_empty .u8 5 w1)
    have HBE := Lib.hid (HBW.out.alloc HBW.out.size (.cells #[] 5))
    go_wp2_with fail
    go_ret
    exact ⟨_, rfl, by rw [HV.out]; exact HE.out.mono HBW.out.size, HBE.out⟩
  | true =>
    have HV : Hid (encW (l, a, b, c) = appName [] l ++ Sl.encs [a, b, c]) := Lib.hid (if_pos HOK.out)
    have hin : 0 ≤ a ∧ a ≤ 1000000 := validW_in HOK.out
    have HEN := Lib.hid (show Sl.encs [a, b, c] ≠ [] from fun e => by
      have h1 : (Sl.encs [a, b, c]).length = 0 := by rw [e]; rfl
      have h2 := Var.enc_pos a.toNat
      have h3 : Sl.encs [a, b, c] = Var.var a ++ (Var.var b ++ Var.var c) := by simp [Sl.encs]
      rw [h3, Var.var_in hin.1 (by omega), List.length_append] at h1
      omega)
    have HLM := Lib.hid (show ((appName [] l).length + (Sl.encs [a, b, c]).length) * 8 ≤ 140737488355328 by
      have h1 := appName_len l
      have h2 := Sl.encs_len [a, b, c]
      have h3 : [a, b, c].length = 3 := rfl
      have h4 := HBL.out
      omega)
    have HBD := Lib.hid (show Below w1.heap.size w1 w1.drew from (Below.refl _ _).drew)
    have HN1 := Lib.hid (HG1.out.on HBD.out)
    clear hin
    go_wp2_with fail
    go_region_held3 (fun w' => w'.cell? ⟨w.heap.size, 0, none⟩ = some (.slice y q cy) ∧ w'.cell? ⟨w.heap.size, 1, none⟩ = some (.int .i64 a) ∧ w'.cell? ⟨w.heap.size, 2, none⟩ = some (.int .i64 b) ∧ w'.cell? ⟨w.heap.size, 3, none⟩ = some (.int .i64 c)) (first | with_reducible exact keepW Y0.out HBD.out | with_reducible exact keepW Y0.out HB8.out | with_reducible exact keepW Y0.out HB7.out | with_reducible exact keepW Y0.out HB6.out | with_reducible exact keepW Y0.out HB5.out) (first | (refine Sl.step_app2 (k := .u8) (B := w1.heap.size) (v := v5) (l := appName [] l) (m := Sl.encs [a, b, c]) rfl _ _ (by rfl) Tryd.underlying22 Sl.elemBYTE rfl (by rfl) (by rfl) ?_ ?_ HLM.out (by decide) ?_ ?_; (with_reducible exact HO7.out); (with_reducible exact HS7.out); (exact HB7.out.size); intro v8 w8 ho8 hg8; have HB8 := Lib.hid (HB7.out.grown hg8 HB7.out.size (fun g e => (HO7.out.lt g e).1)); have HO8 := Lib.hid ho8; clear ho8 hg8) | (go_at_call 35; refine (Sl.implEncodeInts _ [a, b, c] _ ?_ (by simp)).mono ?_; (with_reducible exact HI6.out); rintro e w7 ⟨v7, rfl, ho7, hb7⟩; obtain ⟨g7, c7, rfl, -⟩ := some6 ho7 HEN.out; have HB7 := Lib.hid (HB6.out.trans (hb7.mono HB6.out.size)); have HO7 := Lib.hid (HO6.out.on hb7); have HS7 := Lib.hid ho7.holds; clear ho7 hb7) | (go_at_call 36; refine (numbers (.slice y q cy) a b c _ ⟨_, _, _, rfl⟩).mono ?_; rintro e w6 ⟨v6, rfl, ho6, hb6⟩; obtain ⟨g6, c6, rfl, -⟩ := some3 ho6; have HB6 := Lib.hid (HB5.out.trans (hb6.mono HB5.out.size)); have HO6 := Lib.hid (HO5.out.on hb6); have HI6 := Lib.hid ho6.holds; clear ho6 hb6) | (go_at_call 22; refine (implAppendName (.slice none 0 0) _ [] l _ (Sl.Holds.nil _ _) ?_ (by simp) HBL.out).mono ?_; (with_reducible exact HN1.out); rintro e w5 ⟨v5, rfl, ho5, hb5⟩; have HB5 := Lib.hid (HBD.out.trans (hb5.mono HBD.out.size)); have HO5 := Lib.hid (ho5.mono HBD.out.size); clear ho5 hb5))
    all_goals
      go_wp2_with fail
      go_ret
      exact ⟨_, rfl, by rw [HV.out]; exact HO8.out.mono HBW.out.size, HBW.out.trans (HB8.out.mono HBW.out.size)⟩

theorem eqNamesV (b : Bool) {v u : Value} {l m : List ByteArray} {w : World} (hb : eqB l m = b) (h : Holds Value.string w v l) (g : Holds Value.string w u m) (hl : l.length ≤ 9000000) (hm : m.length ≤ 9000000) :
    Calls Tryd.prog 62 #[.agg #[v], .agg #[u]] w fun e w' => e = .returned (.bool b) ∧ Below w.heap.size w w' := hb ▸ implEqualNames _ _ l m _ h g (by omega) (by omega)
theorem eqIntsV (b : Bool) {v u : Value} {l m : List Int} {w : World} (hb : Sl.eqB l m = b) (h : Sl.Holds .i64 w v l) (g : Sl.Holds .i64 w u m) (hl : l.length ≤ 9000000) (hm : m.length ≤ 9000000) :
    Calls Tryd.prog 63 #[v, u] w fun e w' => e = .returned (.bool b) ∧ Below w.heap.size w w' := hb ▸ Sl.implEqualInts _ _ l m _ h g (by omega) (by omega)

set_option maxRecDepth 100000 in
set_option maxHeartbeats 4000000 in
theorem regW1 {Q : Exit → Act → World → Prop} {v0 v1 v4 v5 v6 v7 v8 v9 v10 v11 v12 v13 v14 v15 v16 : Value} {w : World} {p q na ca nb cb : Nat} {xa xb : Option Addr} {a1 a2 a3 b1 b2 b3 : Int} {la lb : List ByteArray} (K0 : Hid (w.cell? ⟨p, 0, none⟩ = some (.slice xa na ca))) (K1 : Hid (w.cell? ⟨p, 1, none⟩ = some (.int .i64 a1))) (K2 : Hid (w.cell? ⟨p, 2, none⟩ = some (.int .i64 a2))) (K3 : Hid (w.cell? ⟨p, 3, none⟩ = some (.int .i64 a3))) (M0 : Hid (w.cell? ⟨q, 0, none⟩ = some (.slice xb nb cb))) (M1 : Hid (w.cell? ⟨q, 1, none⟩ = some (.int .i64 b1))) (M2 : Hid (w.cell? ⟨q, 2, none⟩ = some (.int .i64 b2))) (M3 : Hid (w.cell? ⟨q, 3, none⟩ = some (.int .i64 b3))) (H_a : Hid (Holds Value.string w (.slice xa na ca) la)) (H_b : Hid (Holds Value.string w (.slice xb nb cb) lb)) (HL : Hid (la.length ≤ 9000000)) (HM : Hid (lb.length ≤ 9000000)) (HV : Hid (eqB la lb = false))
    (hQ : ∀ (u5 u6 u7 u8 u9 u10 u11 u12 u13 u14 u15 u16 : Value) (wx : World), Below w.heap.size w wx → Q .normal ⟨#[v0, v1, .pointer (some ⟨p, 0, none⟩), .pointer (some ⟨q, 0, none⟩), .bool false, u5, u6, u7, u8, u9, u10, u11, u12, u13, u14, u15, u16], []⟩ wx) :
    (Code.region 1 #[{ dst := some 5, op := Op.fieldAddr 28 (Operand.tmp 2) 0, type := 0, pos := "l07_want.go:107", after := #[], guard := none },
      { dst := some 6, op := Op.load 26 (Operand.tmp 5), type := 26, pos := "l07_want.go:107", after := #[{ on := 0, ground := Ground.data }], guard := none },
      { dst := some 7, op := Op.fieldAddr 28 (Operand.tmp 3) 0, type := 0, pos := "l07_want.go:107", after := #[], guard := none },
      { dst := some 8, op := Op.load 26 (Operand.tmp 7), type := 26, pos := "l07_want.go:107", after := #[{ on := 2, ground := Ground.data }], guard := none },
      { dst := some 9, op := Op.call { callee := Callee.value (Operand.func 62), args := #[Operand.tmp 6, Operand.tmp 8], argTypes := #[26, 26] }, type := 4, pos := "l07_want.go:107", after := #[{ on := 1, ground := Ground.data }, { on := 3, ground := Ground.data }], guard := none },
      { dst := some 10, op := Op.move (Operand.tmp 9), type := 4, pos := "l07_want.go:107", after := #[{ on := 4, ground := Ground.data }, { on := 4, ground := Ground.chain }], guard := none },
      { dst := some 11, op := Op.load 28 (Operand.tmp 2), type := 28, pos := "l07_want.go:107", after := #[{ on := 5, ground := Ground.guard }], guard := some (5, true) },
      { dst := some 12, op := Op.call { callee := Callee.value (Operand.func 36), args := #[Operand.tmp 11], argTypes := #[28] }, type := 59, pos := "l07_want.go:107", after := #[{ on := 6, ground := Ground.data }, { on := 5, ground := Ground.chain }, { on := 5, ground := Ground.guard }], guard := some (5, true) },
      { dst := some 13, op := Op.load 28 (Operand.tmp 3), type := 28, pos := "l07_want.go:107", after := #[{ on := 5, ground := Ground.guard }], guard := some (5, true) },
      { dst := some 14, op := Op.call { callee := Callee.value (Operand.func 36), args := #[Operand.tmp 13], argTypes := #[28] }, type := 59, pos := "l07_want.go:107", after := #[{ on := 8, ground := Ground.data }, { on := 7, ground := Ground.chain }, { on := 5, ground := Ground.guard }], guard := some (5, true) },
      { dst := some 15, op := Op.call { callee := Callee.value (Operand.func 63), args := #[Operand.tmp 12, Operand.tmp 14], argTypes := #[59, 59] }, type := 4, pos := "l07_want.go:107", after := #[{ on := 7, ground := Ground.data }, { on := 9, ground := Ground.data }, { on := 9, ground := Ground.chain }, { on := 5, ground := Ground.guard }], guard := some (5, true) },
      { dst := some 16, op := Op.pick (Operand.tmp 10) (Operand.tmp 15) (Operand.const (Value.bool false)), type := 4, pos := "l07_want.go:107", after := #[{ on := 5, ground := Ground.data }, { on := 10, ground := Ground.data }], guard := none },
      { dst := some 4, op := Op.assign (Operand.tmp 16), type := 4, pos := "l07_want.go:107", after := #[{ on := 11, ground := Ground.data }, { on := 10, ground := Ground.chain }, { on := 0, ground := Ground.phase }, { on := 1, ground := Ground.phase }, { on := 2, ground := Ground.phase }, { on := 3, ground := Ground.phase }, { on := 4, ground := Ground.phase }, { on := 5, ground := Ground.phase }, { on := 6, ground := Ground.phase }, { on := 7, ground := Ground.phase }, { on := 8, ground := Ground.phase }, { on := 9, ground := Ground.phase }, { on := 10, ground := Ground.phase }, { on := 11, ground := Ground.phase }], guard := none }] true).wp Tryd.prog Q ⟨#[v0, v1, .pointer (some ⟨p, 0, none⟩), .pointer (some ⟨q, 0, none⟩), v4, v5, v6, v7, v8, v9, v10, v11, v12, v13, v14, v15, v16], []⟩ w := by
  have HQ := Lib.hid hQ; clear hQ
  have hdr : Below w.heap.size w w.drew := (Below.refl _ _).drew
  have Hd_a := Lib.hid (H_a.out.on hdr)
  have Hd_b := Lib.hid (H_b.out.on hdr)
  replace K0 := Lib.hid ((hdr.cell (cell_lt K0.out)).trans K0.out)
  replace K1 := Lib.hid ((hdr.cell (cell_lt K1.out)).trans K1.out)
  replace K2 := Lib.hid ((hdr.cell (cell_lt K2.out)).trans K2.out)
  replace K3 := Lib.hid ((hdr.cell (cell_lt K3.out)).trans K3.out)
  replace M0 := Lib.hid ((hdr.cell (cell_lt M0.out)).trans M0.out)
  replace M1 := Lib.hid ((hdr.cell (cell_lt M1.out)).trans M1.out)
  replace M2 := Lib.hid ((hdr.cell (cell_lt M2.out)).trans M2.out)
  replace M3 := Lib.hid ((hdr.cell (cell_lt M3.out)).trans M3.out)
  have BB := Lib.hid hdr; clear hdr
  refine wp_region_noPanic ?_
  refine wp_region_held_drew (S := (fun w' => w'.cell? ⟨p, 0, none⟩ = some (.slice xa na ca) ∧ w'.cell? ⟨p, 1, none⟩ = some (.int .i64 a1) ∧ w'.cell? ⟨p, 2, none⟩ = some (.int .i64 a2) ∧ w'.cell? ⟨p, 3, none⟩ = some (.int .i64 a3) ∧ w'.cell? ⟨q, 0, none⟩ = some (.slice xb nb cb) ∧ w'.cell? ⟨q, 1, none⟩ = some (.int .i64 b1) ∧ w'.cell? ⟨q, 2, none⟩ = some (.int .i64 b2) ∧ w'.cell? ⟨q, 3, none⟩ = some (.int .i64 b3))) (by kernel_rfl) ?_ (fun hHeld => ?_)
  · exact ⟨K0.out, K1.out, K2.out, K3.out, M0.out, M1.out, M2.out, M3.out⟩
  refine wpAnyH_take (i := 0) (oi := { dst := some 5, op := Op.fieldAddr 28 (Operand.tmp 2) 0, type := 0, pos := "l07_want.go:107", after := #[], guard := none }) (v := ?_) rfl (by kernel_rfl) (by kernel_rfl) (by kernel_rfl) (fun _ _ _ h => h) (Or.inl ⟨by rfl, ?_⟩) (by assumption) ?_
  rotate_left
  · intro w' hSw; (try dsimp only at hSw); first | (go_simp; done) | (go_simp; with_reducible rfl)
  (try simp only [Act.put, List.setIfInBounds_toArray, List.set_cons_zero, List.set_cons_succ])
  refine wpAnyH_take (i := 1) (oi := { dst := some 6, op := Op.load 26 (Operand.tmp 5), type := 26, pos := "l07_want.go:107", after := #[{ on := 0, ground := Ground.data }], guard := none }) (v := ?_) rfl (by kernel_rfl) (by kernel_rfl) (by kernel_rfl) (fun _ _ _ h => h) (Or.inl ⟨by rfl, ?_⟩) (by assumption) ?_
  rotate_left
  · intro w' hSw; (try dsimp only at hSw); first | (go_simp; done) | (go_simp; with_reducible rfl)
  (try simp only [Act.put, List.setIfInBounds_toArray, List.set_cons_zero, List.set_cons_succ])
  refine wpAnyH_take (i := 2) (oi := { dst := some 7, op := Op.fieldAddr 28 (Operand.tmp 3) 0, type := 0, pos := "l07_want.go:107", after := #[], guard := none }) (v := ?_) rfl (by kernel_rfl) (by kernel_rfl) (by kernel_rfl) (fun _ _ _ h => h) (Or.inl ⟨by rfl, ?_⟩) (by assumption) ?_
  rotate_left
  · intro w' hSw; (try dsimp only at hSw); first | (go_simp; done) | (go_simp; with_reducible rfl)
  (try simp only [Act.put, List.setIfInBounds_toArray, List.set_cons_zero, List.set_cons_succ])
  refine wpAnyH_take (i := 3) (oi := { dst := some 8, op := Op.load 26 (Operand.tmp 7), type := 26, pos := "l07_want.go:107", after := #[{ on := 2, ground := Ground.data }], guard := none }) (v := ?_) rfl (by kernel_rfl) (by kernel_rfl) (by kernel_rfl) (fun _ _ _ h => h) (Or.inl ⟨by rfl, ?_⟩) (by assumption) ?_
  rotate_left
  · intro w' hSw; (try dsimp only at hSw); first | (go_simp; done) | (go_simp; with_reducible rfl)
  (try simp only [Act.put, List.setIfInBounds_toArray, List.set_cons_zero, List.set_cons_succ])
  refine wpAnyH_ready (rs := [4]) (by kernel_rfl) (by simp) ?_
  refine AllReadyH.cons (o := { dst := some 9, op := Op.call { callee := Callee.value (Operand.func 62), args := #[Operand.tmp 6, Operand.tmp 8], argTypes := #[26, 26] }, type := 4, pos := "l07_want.go:107", after := #[{ on := 1, ground := Ground.data }, { on := 3, ground := Ground.data }], guard := none }) rfl (fun K hK => ?_) AllReadyH.nil
  go_simp
  refine (eqNamesV false HV.out Hd_a.out Hd_b.out HL.out HM.out).mono ?_
  rintro e wx ⟨rfl, hb⟩
  replace Hd_a := Lib.hid (Hd_a.out.on hb)
  replace Hd_b := Lib.hid (Hd_b.out.on hb)
  replace K0 := Lib.hid ((hb.cell (cell_lt K0.out)).trans K0.out)
  replace K1 := Lib.hid ((hb.cell (cell_lt K1.out)).trans K1.out)
  replace K2 := Lib.hid ((hb.cell (cell_lt K2.out)).trans K2.out)
  replace K3 := Lib.hid ((hb.cell (cell_lt K3.out)).trans K3.out)
  replace M0 := Lib.hid ((hb.cell (cell_lt M0.out)).trans M0.out)
  replace M1 := Lib.hid ((hb.cell (cell_lt M1.out)).trans M1.out)
  replace M2 := Lib.hid ((hb.cell (cell_lt M2.out)).trans M2.out)
  replace M3 := Lib.hid ((hb.cell (cell_lt M3.out)).trans M3.out)
  replace BB := Lib.hid (BB.out.trans (hb.mono BB.out.size)); clear hb
  (try go_wp2_with fail)
  clear hHeld
  refine hK.out _ _ ?_ (fun hHeld => ?_)
  · (try dsimp only); exact ⟨K0.out, K1.out, K2.out, K3.out, M0.out, M1.out, M2.out, M3.out⟩
  clear hK K
  (try simp only [Act.put, List.setIfInBounds_toArray, List.set_cons_zero, List.set_cons_succ])
  refine wpAnyH_take (i := 5) (oi := { dst := some 10, op := Op.move (Operand.tmp 9), type := 4, pos := "l07_want.go:107", after := #[{ on := 4, ground := Ground.data }, { on := 4, ground := Ground.chain }], guard := none }) (v := ?_) rfl (by kernel_rfl) (by kernel_rfl) (by kernel_rfl) (fun _ _ _ h => h) (Or.inl ⟨by rfl, ?_⟩) (by assumption) ?_
  rotate_left
  · intro w' hSw; (try dsimp only at hSw); first | (go_simp; done) | (go_simp; with_reducible rfl)
  (try simp only [Act.put, List.setIfInBounds_toArray, List.set_cons_zero, List.set_cons_succ])
  refine wpAnyH_take (i := 6) (oi := { dst := some 11, op := Op.load 28 (Operand.tmp 2), type := 28, pos := "l07_want.go:107", after := #[{ on := 5, ground := Ground.guard }], guard := some (5, true) }) (v := undef) rfl (by kernel_rfl) (by kernel_rfl) (by kernel_rfl) (fun _ _ _ h => h) (Or.inr ⟨by rfl, rfl⟩) (by assumption) ?_
  (try simp only [Act.put, List.setIfInBounds_toArray, List.set_cons_zero, List.set_cons_succ])
  refine wpAnyH_take (i := 7) (oi := { dst := some 12, op := Op.call { callee := Callee.value (Operand.func 36), args := #[Operand.tmp 11], argTypes := #[28] }, type := 59, pos := "l07_want.go:107", after := #[{ on := 6, ground := Ground.data }, { on := 5, ground := Ground.chain }, { on := 5, ground := Ground.guard }], guard := some (5, true) }) (v := undef) rfl (by kernel_rfl) (by kernel_rfl) (by kernel_rfl) (fun _ _ _ h => h) (Or.inr ⟨by rfl, rfl⟩) (by assumption) ?_
  (try simp only [Act.put, List.setIfInBounds_toArray, List.set_cons_zero, List.set_cons_succ])
  refine wpAnyH_take (i := 8) (oi := { dst := some 13, op := Op.load 28 (Operand.tmp 3), type := 28, pos := "l07_want.go:107", after := #[{ on := 5, ground := Ground.guard }], guard := some (5, true) }) (v := undef) rfl (by kernel_rfl) (by kernel_rfl) (by kernel_rfl) (fun _ _ _ h => h) (Or.inr ⟨by rfl, rfl⟩) (by assumption) ?_
  (try simp only [Act.put, List.setIfInBounds_toArray, List.set_cons_zero, List.set_cons_succ])
  refine wpAnyH_take (i := 9) (oi := { dst := some 14, op := Op.call { callee := Callee.value (Operand.func 36), args := #[Operand.tmp 13], argTypes := #[28] }, type := 59, pos := "l07_want.go:107", after := #[{ on := 8, ground := Ground.data }, { on := 7, ground := Ground.chain }, { on := 5, ground := Ground.guard }], guard := some (5, true) }) (v := undef) rfl (by kernel_rfl) (by kernel_rfl) (by kernel_rfl) (fun _ _ _ h => h) (Or.inr ⟨by rfl, rfl⟩) (by assumption) ?_
  (try simp only [Act.put, List.setIfInBounds_toArray, List.set_cons_zero, List.set_cons_succ])
  refine wpAnyH_take (i := 10) (oi := { dst := some 15, op := Op.call { callee := Callee.value (Operand.func 63), args := #[Operand.tmp 12, Operand.tmp 14], argTypes := #[59, 59] }, type := 4, pos := "l07_want.go:107", after := #[{ on := 7, ground := Ground.data }, { on := 9, ground := Ground.data }, { on := 9, ground := Ground.chain }, { on := 5, ground := Ground.guard }], guard := some (5, true) }) (v := undef) rfl (by kernel_rfl) (by kernel_rfl) (by kernel_rfl) (fun _ _ _ h => h) (Or.inr ⟨by rfl, rfl⟩) (by assumption) ?_
  (try simp only [Act.put, List.setIfInBounds_toArray, List.set_cons_zero, List.set_cons_succ])
  refine wpAnyH_take (i := 11) (oi := { dst := some 16, op := Op.pick (Operand.tmp 10) (Operand.tmp 15) (Operand.const (Value.bool false)), type := 4, pos := "l07_want.go:107", after := #[{ on := 5, ground := Ground.data }, { on := 10, ground := Ground.data }], guard := none }) (v := ?_) rfl (by kernel_rfl) (by kernel_rfl) (by kernel_rfl) (fun _ _ _ h => h) (Or.inl ⟨by rfl, ?_⟩) (by assumption) ?_
  rotate_left
  · intro w' hSw; (try dsimp only at hSw); first | (go_simp; done) | (go_simp; with_reducible rfl)
  (try simp only [Act.put, List.setIfInBounds_toArray, List.set_cons_zero, List.set_cons_succ])
  refine wpAnyH_take (i := 12) (oi := { dst := some 4, op := Op.assign (Operand.tmp 16), type := 4, pos := "l07_want.go:107", after := #[{ on := 11, ground := Ground.data }, { on := 10, ground := Ground.chain }, { on := 0, ground := Ground.phase }, { on := 1, ground := Ground.phase }, { on := 2, ground := Ground.phase }, { on := 3, ground := Ground.phase }, { on := 4, ground := Ground.phase }, { on := 5, ground := Ground.phase }, { on := 6, ground := Ground.phase }, { on := 7, ground := Ground.phase }, { on := 8, ground := Ground.phase }, { on := 9, ground := Ground.phase }, { on := 10, ground := Ground.phase }, { on := 11, ground := Ground.phase }], guard := none }) (v := ?_) rfl (by kernel_rfl) (by kernel_rfl) (by kernel_rfl) (fun _ _ _ h => h) (Or.inl ⟨by rfl, ?_⟩) (by assumption) ?_
  rotate_left
  · intro w' hSw; (try dsimp only at hSw); first | (go_simp; done) | (go_simp; with_reducible rfl)
  (try simp only [Act.put, List.setIfInBounds_toArray, List.set_cons_zero, List.set_cons_succ])
  refine wpAnyH_done (by kernel_rfl) ?_ _
  exact NoPanic.normal (HQ.out _ _ _ _ _ _ _ _ _ _ _ _ _ BB.out)

set_option maxRecDepth 100000 in
set_option maxHeartbeats 4000000 in
theorem regW2 {Q : Exit → Act → World → Prop} {v0 v1 v4 v5 v6 v7 v8 v9 v10 v11 v12 v13 v14 v15 v16 : Value} {w : World} {z : Bool} {p q na ca nb cb : Nat} {xa xb : Option Addr} {a1 a2 a3 b1 b2 b3 : Int} {la lb : List ByteArray} (K0 : Hid (w.cell? ⟨p, 0, none⟩ = some (.slice xa na ca))) (K1 : Hid (w.cell? ⟨p, 1, none⟩ = some (.int .i64 a1))) (K2 : Hid (w.cell? ⟨p, 2, none⟩ = some (.int .i64 a2))) (K3 : Hid (w.cell? ⟨p, 3, none⟩ = some (.int .i64 a3))) (M0 : Hid (w.cell? ⟨q, 0, none⟩ = some (.slice xb nb cb))) (M1 : Hid (w.cell? ⟨q, 1, none⟩ = some (.int .i64 b1))) (M2 : Hid (w.cell? ⟨q, 2, none⟩ = some (.int .i64 b2))) (M3 : Hid (w.cell? ⟨q, 3, none⟩ = some (.int .i64 b3))) (H_a : Hid (Holds Value.string w (.slice xa na ca) la)) (H_b : Hid (Holds Value.string w (.slice xb nb cb) lb)) (HL : Hid (la.length ≤ 9000000)) (HM : Hid (lb.length ≤ 9000000)) (HV : Hid (eqB la lb = true)) (HZ : Hid (Sl.eqB [a1, a2, a3] [b1, b2, b3] = z))
    (hQ : ∀ (u5 u6 u7 u8 u9 u10 u11 u12 u13 u14 u15 u16 : Value) (wx : World), Below w.heap.size w wx → Q .normal ⟨#[v0, v1, .pointer (some ⟨p, 0, none⟩), .pointer (some ⟨q, 0, none⟩), .bool z, u5, u6, u7, u8, u9, u10, u11, u12, u13, u14, u15, u16], []⟩ wx) :
    (Code.region 1 #[{ dst := some 5, op := Op.fieldAddr 28 (Operand.tmp 2) 0, type := 0, pos := "l07_want.go:107", after := #[], guard := none },
      { dst := some 6, op := Op.load 26 (Operand.tmp 5), type := 26, pos := "l07_want.go:107", after := #[{ on := 0, ground := Ground.data }], guard := none },
      { dst := some 7, op := Op.fieldAddr 28 (Operand.tmp 3) 0, type := 0, pos := "l07_want.go:107", after := #[], guard := none },
      { dst := some 8, op := Op.load 26 (Operand.tmp 7), type := 26, pos := "l07_want.go:107", after := #[{ on := 2, ground := Ground.data }], guard := none },
      { dst := some 9, op := Op.call { callee := Callee.value (Operand.func 62), args := #[Operand.tmp 6, Operand.tmp 8], argTypes := #[26, 26] }, type := 4, pos := "l07_want.go:107", after := #[{ on := 1, ground := Ground.data }, { on := 3, ground := Ground.data }], guard := none },
      { dst := some 10, op := Op.move (Operand.tmp 9), type := 4, pos := "l07_want.go:107", after := #[{ on := 4, ground := Ground.data }, { on := 4, ground := Ground.chain }], guard := none },
      { dst := some 11, op := Op.load 28 (Operand.tmp 2), type := 28, pos := "l07_want.go:107", after := #[{ on := 5, ground := Ground.guard }], guard := some (5, true) },
      { dst := some 12, op := Op.call { callee := Callee.value (Operand.func 36), args := #[Operand.tmp 11], argTypes := #[28] }, type := 59, pos := "l07_want.go:107", after := #[{ on := 6, ground := Ground.data }, { on := 5, ground := Ground.chain }, { on := 5, ground := Ground.guard }], guard := some (5, true) },
      { dst := some 13, op := Op.load 28 (Operand.tmp 3), type := 28, pos := "l07_want.go:107", after := #[{ on := 5, ground := Ground.guard }], guard := some (5, true) },
      { dst := some 14, op := Op.call { callee := Callee.value (Operand.func 36), args := #[Operand.tmp 13], argTypes := #[28] }, type := 59, pos := "l07_want.go:107", after := #[{ on := 8, ground := Ground.data }, { on := 7, ground := Ground.chain }, { on := 5, ground := Ground.guard }], guard := some (5, true) },
      { dst := some 15, op := Op.call { callee := Callee.value (Operand.func 63), args := #[Operand.tmp 12, Operand.tmp 14], argTypes := #[59, 59] }, type := 4, pos := "l07_want.go:107", after := #[{ on := 7, ground := Ground.data }, { on := 9, ground := Ground.data }, { on := 9, ground := Ground.chain }, { on := 5, ground := Ground.guard }], guard := some (5, true) },
      { dst := some 16, op := Op.pick (Operand.tmp 10) (Operand.tmp 15) (Operand.const (Value.bool false)), type := 4, pos := "l07_want.go:107", after := #[{ on := 5, ground := Ground.data }, { on := 10, ground := Ground.data }], guard := none },
      { dst := some 4, op := Op.assign (Operand.tmp 16), type := 4, pos := "l07_want.go:107", after := #[{ on := 11, ground := Ground.data }, { on := 10, ground := Ground.chain }, { on := 0, ground := Ground.phase }, { on := 1, ground := Ground.phase }, { on := 2, ground := Ground.phase }, { on := 3, ground := Ground.phase }, { on := 4, ground := Ground.phase }, { on := 5, ground := Ground.phase }, { on := 6, ground := Ground.phase }, { on := 7, ground := Ground.phase }, { on := 8, ground := Ground.phase }, { on := 9, ground := Ground.phase }, { on := 10, ground := Ground.phase }, { on := 11, ground := Ground.phase }], guard := none }] true).wp Tryd.prog Q ⟨#[v0, v1, .pointer (some ⟨p, 0, none⟩), .pointer (some ⟨q, 0, none⟩), v4, v5, v6, v7, v8, v9, v10, v11, v12, v13, v14, v15, v16], []⟩ w := by
  have HQ := Lib.hid hQ; clear hQ
  have hdr : Below w.heap.size w w.drew := (Below.refl _ _).drew
  have Hd_a := Lib.hid (H_a.out.on hdr)
  have Hd_b := Lib.hid (H_b.out.on hdr)
  replace K0 := Lib.hid ((hdr.cell (cell_lt K0.out)).trans K0.out)
  replace K1 := Lib.hid ((hdr.cell (cell_lt K1.out)).trans K1.out)
  replace K2 := Lib.hid ((hdr.cell (cell_lt K2.out)).trans K2.out)
  replace K3 := Lib.hid ((hdr.cell (cell_lt K3.out)).trans K3.out)
  replace M0 := Lib.hid ((hdr.cell (cell_lt M0.out)).trans M0.out)
  replace M1 := Lib.hid ((hdr.cell (cell_lt M1.out)).trans M1.out)
  replace M2 := Lib.hid ((hdr.cell (cell_lt M2.out)).trans M2.out)
  replace M3 := Lib.hid ((hdr.cell (cell_lt M3.out)).trans M3.out)
  have BB := Lib.hid hdr; clear hdr
  refine wp_region_noPanic ?_
  refine wp_region_held_drew (S := (fun w' => w'.cell? ⟨p, 0, none⟩ = some (.slice xa na ca) ∧ w'.cell? ⟨p, 1, none⟩ = some (.int .i64 a1) ∧ w'.cell? ⟨p, 2, none⟩ = some (.int .i64 a2) ∧ w'.cell? ⟨p, 3, none⟩ = some (.int .i64 a3) ∧ w'.cell? ⟨q, 0, none⟩ = some (.slice xb nb cb) ∧ w'.cell? ⟨q, 1, none⟩ = some (.int .i64 b1) ∧ w'.cell? ⟨q, 2, none⟩ = some (.int .i64 b2) ∧ w'.cell? ⟨q, 3, none⟩ = some (.int .i64 b3))) (by kernel_rfl) ?_ (fun hHeld => ?_)
  · exact ⟨K0.out, K1.out, K2.out, K3.out, M0.out, M1.out, M2.out, M3.out⟩
  refine wpAnyH_take (i := 0) (oi := { dst := some 5, op := Op.fieldAddr 28 (Operand.tmp 2) 0, type := 0, pos := "l07_want.go:107", after := #[], guard := none }) (v := ?_) rfl (by kernel_rfl) (by kernel_rfl) (by kernel_rfl) (fun _ _ _ h => h) (Or.inl ⟨by rfl, ?_⟩) (by assumption) ?_
  rotate_left
  · intro w' hSw; (try dsimp only at hSw); first | (go_simp; done) | (go_simp; with_reducible rfl)
  (try simp only [Act.put, List.setIfInBounds_toArray, List.set_cons_zero, List.set_cons_succ])
  refine wpAnyH_take (i := 1) (oi := { dst := some 6, op := Op.load 26 (Operand.tmp 5), type := 26, pos := "l07_want.go:107", after := #[{ on := 0, ground := Ground.data }], guard := none }) (v := ?_) rfl (by kernel_rfl) (by kernel_rfl) (by kernel_rfl) (fun _ _ _ h => h) (Or.inl ⟨by rfl, ?_⟩) (by assumption) ?_
  rotate_left
  · intro w' hSw; (try dsimp only at hSw); first | (go_simp; done) | (go_simp; with_reducible rfl)
  (try simp only [Act.put, List.setIfInBounds_toArray, List.set_cons_zero, List.set_cons_succ])
  refine wpAnyH_take (i := 2) (oi := { dst := some 7, op := Op.fieldAddr 28 (Operand.tmp 3) 0, type := 0, pos := "l07_want.go:107", after := #[], guard := none }) (v := ?_) rfl (by kernel_rfl) (by kernel_rfl) (by kernel_rfl) (fun _ _ _ h => h) (Or.inl ⟨by rfl, ?_⟩) (by assumption) ?_
  rotate_left
  · intro w' hSw; (try dsimp only at hSw); first | (go_simp; done) | (go_simp; with_reducible rfl)
  (try simp only [Act.put, List.setIfInBounds_toArray, List.set_cons_zero, List.set_cons_succ])
  refine wpAnyH_take (i := 3) (oi := { dst := some 8, op := Op.load 26 (Operand.tmp 7), type := 26, pos := "l07_want.go:107", after := #[{ on := 2, ground := Ground.data }], guard := none }) (v := ?_) rfl (by kernel_rfl) (by kernel_rfl) (by kernel_rfl) (fun _ _ _ h => h) (Or.inl ⟨by rfl, ?_⟩) (by assumption) ?_
  rotate_left
  · intro w' hSw; (try dsimp only at hSw); first | (go_simp; done) | (go_simp; with_reducible rfl)
  (try simp only [Act.put, List.setIfInBounds_toArray, List.set_cons_zero, List.set_cons_succ])
  refine wpAnyH_ready (rs := [4]) (by kernel_rfl) (by simp) ?_
  refine AllReadyH.cons (o := { dst := some 9, op := Op.call { callee := Callee.value (Operand.func 62), args := #[Operand.tmp 6, Operand.tmp 8], argTypes := #[26, 26] }, type := 4, pos := "l07_want.go:107", after := #[{ on := 1, ground := Ground.data }, { on := 3, ground := Ground.data }], guard := none }) rfl (fun K hK => ?_) AllReadyH.nil
  go_simp
  refine (eqNamesV true HV.out Hd_a.out Hd_b.out HL.out HM.out).mono ?_
  rintro e wx ⟨rfl, hb⟩
  replace Hd_a := Lib.hid (Hd_a.out.on hb)
  replace Hd_b := Lib.hid (Hd_b.out.on hb)
  replace K0 := Lib.hid ((hb.cell (cell_lt K0.out)).trans K0.out)
  replace K1 := Lib.hid ((hb.cell (cell_lt K1.out)).trans K1.out)
  replace K2 := Lib.hid ((hb.cell (cell_lt K2.out)).trans K2.out)
  replace K3 := Lib.hid ((hb.cell (cell_lt K3.out)).trans K3.out)
  replace M0 := Lib.hid ((hb.cell (cell_lt M0.out)).trans M0.out)
  replace M1 := Lib.hid ((hb.cell (cell_lt M1.out)).trans M1.out)
  replace M2 := Lib.hid ((hb.cell (cell_lt M2.out)).trans M2.out)
  replace M3 := Lib.hid ((hb.cell (cell_lt M3.out)).trans M3.out)
  replace BB := Lib.hid (BB.out.trans (hb.mono BB.out.size)); clear hb
  (try go_wp2_with fail)
  clear hHeld
  refine hK.out _ _ ?_ (fun hHeld => ?_)
  · (try dsimp only); exact ⟨K0.out, K1.out, K2.out, K3.out, M0.out, M1.out, M2.out, M3.out⟩
  clear hK K
  (try simp only [Act.put, List.setIfInBounds_toArray, List.set_cons_zero, List.set_cons_succ])
  refine wpAnyH_take (i := 5) (oi := { dst := some 10, op := Op.move (Operand.tmp 9), type := 4, pos := "l07_want.go:107", after := #[{ on := 4, ground := Ground.data }, { on := 4, ground := Ground.chain }], guard := none }) (v := ?_) rfl (by kernel_rfl) (by kernel_rfl) (by kernel_rfl) (fun _ _ _ h => h) (Or.inl ⟨by rfl, ?_⟩) (by assumption) ?_
  rotate_left
  · intro w' hSw; (try dsimp only at hSw); first | (go_simp; done) | (go_simp; with_reducible rfl)
  (try simp only [Act.put, List.setIfInBounds_toArray, List.set_cons_zero, List.set_cons_succ])
  refine wpAnyH_take (i := 6) (oi := { dst := some 11, op := Op.load 28 (Operand.tmp 2), type := 28, pos := "l07_want.go:107", after := #[{ on := 5, ground := Ground.guard }], guard := some (5, true) }) (v := ?_) rfl (by kernel_rfl) (by kernel_rfl) (by kernel_rfl) (fun _ _ _ h => h) (Or.inl ⟨by rfl, ?_⟩) (by assumption) ?_
  rotate_left
  · intro w' hSw; (try dsimp only at hSw); first | (go_simp; done) | (go_simp; with_reducible rfl)
  (try simp only [Act.put, List.setIfInBounds_toArray, List.set_cons_zero, List.set_cons_succ])
  refine wpAnyH_take (i := 8) (oi := { dst := some 13, op := Op.load 28 (Operand.tmp 3), type := 28, pos := "l07_want.go:107", after := #[{ on := 5, ground := Ground.guard }], guard := some (5, true) }) (v := ?_) rfl (by kernel_rfl) (by kernel_rfl) (by kernel_rfl) (fun _ _ _ h => h) (Or.inl ⟨by rfl, ?_⟩) (by assumption) ?_
  rotate_left
  · intro w' hSw; (try dsimp only at hSw); first | (go_simp; done) | (go_simp; with_reducible rfl)
  (try simp only [Act.put, List.setIfInBounds_toArray, List.set_cons_zero, List.set_cons_succ])
  refine wpAnyH_ready (rs := [7]) (by kernel_rfl) (by simp) ?_
  refine AllReadyH.cons (o := { dst := some 12, op := Op.call { callee := Callee.value (Operand.func 36), args := #[Operand.tmp 11], argTypes := #[28] }, type := 59, pos := "l07_want.go:107", after := #[{ on := 6, ground := Ground.data }, { on := 5, ground := Ground.chain }, { on := 5, ground := Ground.guard }], guard := some (5, true) }) rfl (fun K hK => ?_) AllReadyH.nil
  go_simp
  refine (numbers (.slice xa na ca) a1 a2 a3 _ ⟨_, _, _, rfl⟩).mono ?_
  rintro e wx ⟨vx, rfl, hox, hb⟩
  obtain ⟨gx, cx, rfl, -⟩ := some3 hox
  have HX := Lib.hid hox.holds; clear hox
  replace Hd_a := Lib.hid (Hd_a.out.on hb)
  replace Hd_b := Lib.hid (Hd_b.out.on hb)
  replace K0 := Lib.hid ((hb.cell (cell_lt K0.out)).trans K0.out)
  replace K1 := Lib.hid ((hb.cell (cell_lt K1.out)).trans K1.out)
  replace K2 := Lib.hid ((hb.cell (cell_lt K2.out)).trans K2.out)
  replace K3 := Lib.hid ((hb.cell (cell_lt K3.out)).trans K3.out)
  replace M0 := Lib.hid ((hb.cell (cell_lt M0.out)).trans M0.out)
  replace M1 := Lib.hid ((hb.cell (cell_lt M1.out)).trans M1.out)
  replace M2 := Lib.hid ((hb.cell (cell_lt M2.out)).trans M2.out)
  replace M3 := Lib.hid ((hb.cell (cell_lt M3.out)).trans M3.out)
  replace BB := Lib.hid (BB.out.trans (hb.mono BB.out.size)); clear hb
  (try go_wp2_with fail)
  clear hHeld
  refine hK.out _ _ ?_ (fun hHeld => ?_)
  · (try dsimp only); exact ⟨K0.out, K1.out, K2.out, K3.out, M0.out, M1.out, M2.out, M3.out⟩
  clear hK K
  (try simp only [Act.put, List.setIfInBounds_toArray, List.set_cons_zero, List.set_cons_succ])
  refine wpAnyH_ready (rs := [9]) (by kernel_rfl) (by simp) ?_
  refine AllReadyH.cons (o := { dst := some 14, op := Op.call { callee := Callee.value (Operand.func 36), args := #[Operand.tmp 13], argTypes := #[28] }, type := 59, pos := "l07_want.go:107", after := #[{ on := 8, ground := Ground.data }, { on := 7, ground := Ground.chain }, { on := 5, ground := Ground.guard }], guard := some (5, true) }) rfl (fun K hK => ?_) AllReadyH.nil
  go_simp
  refine (numbers (.slice xb nb cb) b1 b2 b3 _ ⟨_, _, _, rfl⟩).mono ?_
  rintro e wx ⟨vy, rfl, hoy, hb⟩
  obtain ⟨gy, cy, rfl, -⟩ := some3 hoy
  have HY := Lib.hid hoy.holds; clear hoy
  replace HX := Lib.hid (HX.out.on hb)
  replace Hd_a := Lib.hid (Hd_a.out.on hb)
  replace Hd_b := Lib.hid (Hd_b.out.on hb)
  replace K0 := Lib.hid ((hb.cell (cell_lt K0.out)).trans K0.out)
  replace K1 := Lib.hid ((hb.cell (cell_lt K1.out)).trans K1.out)
  replace K2 := Lib.hid ((hb.cell (cell_lt K2.out)).trans K2.out)
  replace K3 := Lib.hid ((hb.cell (cell_lt K3.out)).trans K3.out)
  replace M0 := Lib.hid ((hb.cell (cell_lt M0.out)).trans M0.out)
  replace M1 := Lib.hid ((hb.cell (cell_lt M1.out)).trans M1.out)
  replace M2 := Lib.hid ((hb.cell (cell_lt M2.out)).trans M2.out)
  replace M3 := Lib.hid ((hb.cell (cell_lt M3.out)).trans M3.out)
  replace BB := Lib.hid (BB.out.trans (hb.mono BB.out.size)); clear hb
  (try go_wp2_with fail)
  clear hHeld
  refine hK.out _ _ ?_ (fun hHeld => ?_)
  · (try dsimp only); exact ⟨K0.out, K1.out, K2.out, K3.out, M0.out, M1.out, M2.out, M3.out⟩
  clear hK K
  (try simp only [Act.put, List.setIfInBounds_toArray, List.set_cons_zero, List.set_cons_succ])
  refine wpAnyH_ready (rs := [10]) (by kernel_rfl) (by simp) ?_
  refine AllReadyH.cons (o := { dst := some 15, op := Op.call { callee := Callee.value (Operand.func 63), args := #[Operand.tmp 12, Operand.tmp 14], argTypes := #[59, 59] }, type := 4, pos := "l07_want.go:107", after := #[{ on := 7, ground := Ground.data }, { on := 9, ground := Ground.data }, { on := 9, ground := Ground.chain }, { on := 5, ground := Ground.guard }], guard := some (5, true) }) rfl (fun K hK => ?_) AllReadyH.nil
  go_simp
  refine (eqIntsV z HZ.out HX.out HY.out (by simp) (by simp)).mono ?_
  rintro e wx ⟨rfl, hb⟩
  replace Hd_a := Lib.hid (Hd_a.out.on hb)
  replace Hd_b := Lib.hid (Hd_b.out.on hb)
  replace K0 := Lib.hid ((hb.cell (cell_lt K0.out)).trans K0.out)
  replace K1 := Lib.hid ((hb.cell (cell_lt K1.out)).trans K1.out)
  replace K2 := Lib.hid ((hb.cell (cell_lt K2.out)).trans K2.out)
  replace K3 := Lib.hid ((hb.cell (cell_lt K3.out)).trans K3.out)
  replace M0 := Lib.hid ((hb.cell (cell_lt M0.out)).trans M0.out)
  replace M1 := Lib.hid ((hb.cell (cell_lt M1.out)).trans M1.out)
  replace M2 := Lib.hid ((hb.cell (cell_lt M2.out)).trans M2.out)
  replace M3 := Lib.hid ((hb.cell (cell_lt M3.out)).trans M3.out)
  replace BB := Lib.hid (BB.out.trans (hb.mono BB.out.size)); clear hb
  (try go_wp2_with fail)
  clear hHeld
  refine hK.out _ _ ?_ (fun hHeld => ?_)
  · (try dsimp only); exact ⟨K0.out, K1.out, K2.out, K3.out, M0.out, M1.out, M2.out, M3.out⟩
  clear hK K
  (try simp only [Act.put, List.setIfInBounds_toArray, List.set_cons_zero, List.set_cons_succ])
  refine wpAnyH_take (i := 11) (oi := { dst := some 16, op := Op.pick (Operand.tmp 10) (Operand.tmp 15) (Operand.const (Value.bool false)), type := 4, pos := "l07_want.go:107", after := #[{ on := 5, ground := Ground.data }, { on := 10, ground := Ground.data }], guard := none }) (v := ?_) rfl (by kernel_rfl) (by kernel_rfl) (by kernel_rfl) (fun _ _ _ h => h) (Or.inl ⟨by rfl, ?_⟩) (by assumption) ?_
  rotate_left
  · intro w' hSw; (try dsimp only at hSw); first | (go_simp; done) | (go_simp; with_reducible rfl)
  (try simp only [Act.put, List.setIfInBounds_toArray, List.set_cons_zero, List.set_cons_succ])
  refine wpAnyH_take (i := 12) (oi := { dst := some 4, op := Op.assign (Operand.tmp 16), type := 4, pos := "l07_want.go:107", after := #[{ on := 11, ground := Ground.data }, { on := 10, ground := Ground.chain }, { on := 0, ground := Ground.phase }, { on := 1, ground := Ground.phase }, { on := 2, ground := Ground.phase }, { on := 3, ground := Ground.phase }, { on := 4, ground := Ground.phase }, { on := 5, ground := Ground.phase }, { on := 6, ground := Ground.phase }, { on := 7, ground := Ground.phase }, { on := 8, ground := Ground.phase }, { on := 9, ground := Ground.phase }, { on := 10, ground := Ground.phase }, { on := 11, ground := Ground.phase }], guard := none }) (v := ?_) rfl (by kernel_rfl) (by kernel_rfl) (by kernel_rfl) (fun _ _ _ h => h) (Or.inl ⟨by rfl, ?_⟩) (by assumption) ?_
  rotate_left
  · intro w' hSw; (try dsimp only at hSw); first | (go_simp; done) | (go_simp; with_reducible rfl)
  (try simp only [Act.put, List.setIfInBounds_toArray, List.set_cons_zero, List.set_cons_succ])
  refine wpAnyH_done (by kernel_rfl) ?_ _
  exact NoPanic.normal (HQ.out _ _ _ _ _ _ _ _ _ _ _ _ _ BB.out)

set_option maxHeartbeats 2000000 in
theorem implEqualInterests (v u : Value) (x y : Wt) (w : World) (q : Bool) (hq : decide (x = y) = q) (h : Holds Value.string w v x.1) (g : Holds Value.string w u y.1) (hl : x.1.length ≤ 9000000) (hm : y.1.length ≤ 9000000) :
    Calls Tryd.prog 25 #[.agg (wc v x.2.1 x.2.2.1 x.2.2.2), .agg (wc u y.2.1 y.2.2.1 y.2.2.2)] w fun e w' => e = .returned (.bool q) ∧ Below w.heap.size w w' := by
  obtain ⟨ps, a1, a2, a3⟩ := x
  obtain ⟨qs, b1, b2, b3⟩ := y
  simp only at h g hl hm ⊢
  obtain ⟨x, n, cap, rfl, -, hcap, hh⟩ := h.shapeN
  obtain ⟨y, m, cap', rfl, -, hcap', hg⟩ := g.shapeN
  have hb0 := (Below.refl w.heap.size w).alloc (Nat.le_refl _) (.cells (wc (.slice x n cap) a1 a2 a3) 28)
  have HB := Lib.hid (hb0.alloc (by simp) (.cells (wc (.slice y m cap') b1 b2 b3) 28))
  have HH := Lib.hid (hh.on HB.out); have HG := Lib.hid (hg.on HB.out)
  have X0 := Lib.hid ((Ret.Blk.new w (wc (.slice x n cap) a1 a2 a3) 28).on ((Below.refl _ _).alloc (Nat.le_refl _) (.cells (wc (.slice y m cap') b1 b2 b3) 28)))
  have X1 := Lib.hid (Ret.Blk.new' (w := w.alloc (.cells (wc (.slice x n cap) a1 a2 a3) 28)) (n := w.heap.size + 1) (wc (.slice y m cap') b1 b2 b3) 28 (by simp))
  have HQ := Lib.hid hq
  have HL := Lib.hid hl; have HM := Lib.hid hm
  clear hh hg h g hq hb0
  go_enter Tryd.func25, Tryd.ntmps25
  go_wp2_with fail
  by_cases he : ps = qs
  · obtain ⟨z, hz⟩ : ∃ z, Sl.eqB [a1, a2, a3] [b1, b2, b3] = z := ⟨_, rfl⟩
    have HE : Hid (q = z) := Lib.hid (by
      rw [← HQ.out, ← hz]
      simp [he, Sl.eqB])
    refine regW2 (Lib.hid (X0.out.cell 0)) (Lib.hid (X0.out.cell 1)) (Lib.hid (X0.out.cell 2)) (Lib.hid (X0.out.cell 3)) (Lib.hid (X1.out.cell 0)) (Lib.hid (X1.out.cell 1)) (Lib.hid (X1.out.cell 2)) (Lib.hid (X1.out.cell 3)) HH HG HL HM (Lib.hid (eqB_true he)) (Lib.hid hz) ?_
    intro u5 u6 u7 u8 u9 u10 u11 u12 u13 u14 u15 u16 wx hb
    have HB2 := Lib.hid (HB.out.trans (hb.mono HB.out.size))
    clear hb he hz
    go_wp2_with fail
    go_ret
    exact ⟨ret_bool HE.out.symm, HB2.out⟩
  · have HE : Hid (q = false) := Lib.hid (by rw [← HQ.out]; simp [he])
    refine regW1 (Lib.hid (X0.out.cell 0)) (Lib.hid (X0.out.cell 1)) (Lib.hid (X0.out.cell 2)) (Lib.hid (X0.out.cell 3)) (Lib.hid (X1.out.cell 0)) (Lib.hid (X1.out.cell 1)) (Lib.hid (X1.out.cell 2)) (Lib.hid (X1.out.cell 3)) HH HG HL HM (Lib.hid (eqB_false he)) ?_
    intro u5 u6 u7 u8 u9 u10 u11 u12 u13 u14 u15 u16 wx hb
    have HB2 := Lib.hid (HB.out.trans (hb.mono HB.out.size))
    clear hb he
    go_wp2_with fail
    go_ret
    exact ⟨ret_bool HE.out.symm, HB2.out⟩
end Go.Proofs.YtnnhgcfelkcpfaaDoor.Row
/- Contract of the program's ReadName. No conditions but that lengths fit. -/
namespace Go.Proofs.YtnnhgcfelkcpfaaDoor.Row
open Go.ChangeShapes Go.WideShapes Go.ChangeAt Go.RowKit Go.Instr
set_option linter.unusedVariables false
set_option maxRecDepth 100000

theorem rdP_more : ∀ (k : Nat) (b : List Int) (i : Int) (acc l : List ByteArray) (j : Int), rdP k b i acc = some (l, j) → ∃ r, l = acc ++ r
  | 0, _, _, acc, l, j, h => ⟨[], by simp only [rdP, Option.some.injEq, Prod.mk.injEq] at h; simp [h.1]⟩
  | k + 1, b, i, acc, l, j, h => by
    unfold rdP at h
    split at h
    · obtain ⟨r, hr⟩ := rdP_more k b _ _ l j h
      exact ⟨_, by rw [hr, List.append_assoc]⟩
    · cases h
/-- A part that is not valid: nothing is read. -/
theorem rdP_bad {k : Nat} {b : List Int} {i : Int} {acc : List ByteArray} {x : ByteArray} (hx : x ∈ acc) (hv : validP x = false) : (match rdP k b i acc with
    | none => (([], 0, false) : List ByteArray × Int × Bool)
    | some (l, j) => if validN l = true then (l, j, true) else ([], 0, false)) = ([], 0, false) := by
  cases h : rdP k b i acc with
  | none => rfl
  | some p =>
    obtain ⟨l, j⟩ := p
    obtain ⟨r, rfl⟩ := rdP_more k b i acc l j h
    show (if validN (acc ++ r) = true then _ else _) = _
    refine if_neg (fun e => ?_)
    have := (validN_iff.1 e).2 x (List.mem_append_left _ hx)
    rw [hv] at this; cases this
theorem own_setne {α : Type} [Inhabited α] {enc : α → Value} {e : TypeId} {B g i : Nat} {w : World} {v u : Value} {l : List α} (h : Own e enc B w v l) (hg : some g ≠ v.ownBlock) : Own e enc B (w.setCell ⟨g, i, none⟩ u) v l := h.grown (Ret.grownBy_set w ⟨g, i, none⟩ u) (Or.inr fun e => hg e.symm)

set_option maxHeartbeats 8000000 in
theorem implReadName (v : Value) (b : List Int) (i : Int) (w : World) (h : Sl.Holds .u8 w v b) (hB : Sl.Byt b) (hl : b.length ≤ 100000000) :
    Calls Tryd.prog 13 #[v, .int .i64 i] w (GivesN3 w (rdN b i).1 (rdN b i).2.1 (rdN b i).2.2) := by
  obtain ⟨x, cx, rfl, hcx, hh⟩ := h.shape
  obtain ⟨m, hm⟩ : ∃ m, m = b.length := ⟨_, rfl⟩
  rw [← hm] at hcx hh hl ⊢
  have hb0 := (Below.refl w.heap.size w).alloc (Nat.le_refl _) (.cells #[.slice none 0 0] 26)
  have HB0 := Lib.hid hb0
  have HX0 := Lib.hid (Ret.Box.new w (.slice none 0 0) 26)
  have HH0 := Lib.hid hh
  have HBY := Lib.hid hB
  have HM := Lib.hid hm
  have HR := Lib.hid (Sl.implReadVarint _ b i _ (hh.on hb0) hB (by rw [← hm]; exact hl))
  clear h hh hB hb0 hm
  obtain ⟨n, hn⟩ : ∃ n, n = (Var.readV b i).1 := ⟨_, rfl⟩
  obtain ⟨j, hj⟩ : ∃ j, j = (Var.readV b i).2.1 := ⟨_, rfl⟩
  obtain ⟨ok, hok⟩ : ∃ z, z = (Var.readV b i).2.2 := ⟨_, rfl⟩
  rw [← hn, ← hj, ← hok] at HR
  have HNN := Lib.hid hn; have HJ := Lib.hid hj; have HOK := Lib.hid hok
  obtain ⟨i0, hi, hz0, hz1, hz2⟩ := info_parts elemSTR
  have HI := Lib.hid hi; have HZ0 := Lib.hid hz0; have HZ1 := Lib.hid hz1; have HZ2 := Lib.hid hz2
  clear hn hj hok hi hz0 hz1 hz2
  go_enter Tryd.func13, Tryd.ntmps13
  go_wp2_with fail
  refine HR.out.mono ?_
  rintro e w1 ⟨rfl, hb1⟩
  have HXA := Lib.hid (HX0.out.on hb1)
  have HBA := Lib.hid (HB0.out.trans (hb1.mono HB0.out.size))
  clear hb1
  have hx0 := HXA.out.cell
  have hf0 := HXA.out.frozen
  cases ok with
  | false =>
    have HV := Lib.hid (rdN_no (b := b) (i := i) (Or.inl HOK.out.symm))
    have HE := Lib.hid (end0 HXA.out HBA.out)
    go_wp2_with fail
    refine bodyPost_ret (Ret.results_ctt rfl _ _ w.heap.size [_] rfl aggN (Ret.one HE.out.1)) rfl ?_
    rw [HV.out]
    exact ⟨_, rfl, HE.out.2.1, HE.out.2.2⟩
  | true =>
    by_cases h6 : 6 < n
    · have HV := Lib.hid (rdN_no (b := b) (i := i) (Or.inr (by rw [← HNN.out]; exact h6)))
      have HE := Lib.hid (end0 HXA.out HBA.out)
      go_wp2_with fail
      refine bodyPost_ret (Ret.results_ctt rfl _ _ w.heap.size [_] rfl aggN (Ret.one HE.out.1)) rfl ?_
      rw [HV.out]
      exact ⟨_, rfl, HE.out.2.1, HE.out.2.2⟩
    · have hbd := Sl.readV_bounds (l := b) (i := i) HBY.out HOK.out.symm
      rw [← HNN.out, ← HJ.out, ← HM.out] at hbd
      obtain ⟨n, rfl⟩ := Int.eq_ofNat_of_zero_le hbd.1
      obtain ⟨j, rfl⟩ := Int.eq_ofNat_of_zero_le (show 0 ≤ j by omega)
      have HV : Hid (rdN b i = match rdP n b j [] with
        | none => ([], 0, false)
        | some (l, j) => if validN l = true then (l, j, true) else ([], 0, false)) := Lib.hid (by
          rw [rdN_go (by rw [← HNN.out, ← HOK.out]; simp; omega), ← HNN.out, ← HJ.out]; rfl)
      have hn6 : n ≤ 6 := by omega
      have HSZ := Lib.hid (show w.heap.size < w1.heap.size by have := HXA.out.lt; omega)
      clear hbd h6 HR
      go_wp2_with (at_make; refine wpList_make_own _ rfl _ _ 24 rfl w1.heap.size 9 i0 (.string ByteArray.empty) 1 Tryd.underlying24 HI.out HZ0.out HZ1.out _ _ _ n rfl rfl rfl (by rw [HZ2.out]; omega) (by unfold maxLen; omega) (Nat.le_refl _) ?_)
      intro w2 hown hgrow
      have hb2 : Below w1.heap.size w1 w2 := (Below.refl _ _).grown hgrow (Nat.le_refl _) (fun k hk => by cases hk)
      have ho2 : Own 9 Value.string w1.heap.size w2 (.slice (some ⟨w1.heap.size, 0, none⟩) 0 n) [] := hown
      have hal := (Below.refl w2.heap.size w2).alloc (Nat.le_refl _) (.cells #[.slice (some ⟨w1.heap.size, 0, none⟩) 0 n] 26)
      have HO1 := Lib.hid (ho2.on hal)
      have HX1 := Lib.hid ((HXA.out.on hb2).on hal)
      have HY1 := Lib.hid (Ret.Box.new w2 (.slice (some ⟨w1.heap.size, 0, none⟩) 0 n) 26)
      have HB1 := Lib.hid ((HBA.out.trans (hb2.mono HBA.out.size)).trans (hal.mono (Nat.le_trans HBA.out.size hb2.size)))
      have HW12 := Lib.hid hb2.size
      have HGZ := Lib.hid (show w.heap.size < w2.heap.size from Nat.lt_of_lt_of_le HSZ.out hb2.size)
      clear hown hgrow hb2 ho2 hal hx0 hf0 HXA
      go_wp2_with fail
      go_loopw [1, 31] (fun jv iv wr => ∃ (k : Nat) (jj : Int) (acc : List ByteArray) (xa : Option Addr) (na ca : Nat), k ≤ n ∧ iv = .int .i64 k ∧ jv = .int .i64 jj ∧ Hid (na = k) ∧ Hid (bulk acc ≤ 9 * k) ∧ Hid (na = acc.length) ∧ Hid (∀ x ∈ acc, validP x = true) ∧ Hid (rdP n b j [] = rdP (n - k) b jj acc) ∧ Hid (Own 9 Value.string w1.heap.size wr (.slice xa na ca) acc) ∧ Hid (Ret.Box wr w2.heap.size (.slice xa na ca) 26) ∧ Hid (Ret.Box wr w.heap.size (.slice none 0 0) 26) ∧ Hid (Below w.heap.size w wr)) (fun _ iv _ => n - (intOf iv).toNat)
      case atStart => exact ⟨0, j, [], _, 0, n, Nat.zero_le _, rfl, rfl, Lib.hid rfl, Lib.hid (by simp [bulk_nil]), Lib.hid rfl, Lib.hid (fun x hx => by cases hx), Lib.hid rfl, HO1, HY1, HX1, HB1⟩
      case round =>
        obtain ⟨k, jj, acc, xa, na, ca, hk, rfl, rfl, hna, hbk, HNA, HAV, HRD, HO, HY, HX, HB⟩ := hrel
        have hy := HY.out.cell
        have hyf := HY.out.frozen
        have hx := HX.out.cell
        have hxf := HX.out.frozen
        by_cases hlt : k < n
        · have HRB := Lib.hid (Sl.implReadBytes _ b jj 8 wr (HH0.out.on HB.out) HBY.out (by rw [← HM.out]; exact hl))
          go_wp2_with fail
          refine HRB.out.mono ?_
          rintro e w3 ⟨v2, rfl, ho2, hb2⟩
          have h8 := readB8 b jj
          obtain ⟨bs, hbs⟩ : ∃ bs, bs = (Sl.readB b jj 8).1 := ⟨_, rfl⟩
          obtain ⟨j2, hj2⟩ : ∃ j2, j2 = (Sl.readB b jj 8).2.1 := ⟨_, rfl⟩
          obtain ⟨o2, ho2'⟩ : ∃ o2, o2 = (Sl.readB b jj 8).2.2 := ⟨_, rfl⟩
          rw [← hbs] at ho2 h8
          rw [← hj2, ← ho2']
          have HBS := Lib.hid hbs; have HJ2 := Lib.hid hj2; have HO2' := Lib.hid ho2'
          obtain ⟨x2, c2, rfl, hc2, ho2s⟩ := ho2.holds.shape
          have HCV := Lib.hid (fun wx (hx : Below w3.heap.size w3 wx) => Sl.conv_holds (w := wx) (ho2s.on hx))
          have hcv := HCV.out _ (Below.refl _ _)
          have HY2 := Lib.hid (HY.out.on hb2); have HX2 := Lib.hid (HX.out.on hb2); have HO2 := Lib.hid (HO.out.on hb2)
          have HB2 := Lib.hid (HB.out.trans (hb2.mono HB.out.size))
          clear ho2 hb2 hbs hj2 ho2' ho2s hy hyf hx hxf HRB
          have hy2 := HY2.out.cell
          have hyf2 := HY2.out.frozen
          have hx2 := HX2.out.cell
          have hxf2 := HX2.out.frozen
          cases o2 with
          | false =>
            have HV2 : Hid (rdN b i = ([], 0, false)) := Lib.hid (by
              rw [HV.out, HRD.out, show n - k = (n - (k + 1)) + 1 by omega, rdP, if_neg (by rw [← HO2'.out]; simp)])
            have HE := Lib.hid (end0 HX2.out HB2.out)
            go_wp2_with fail
            refine bodyPost_ret (Ret.results_ctt rfl _ _ w.heap.size [_] rfl aggN (Ret.one HE.out.1)) rfl ?_
            rw [HV2.out]
            exact ⟨_, rfl, HE.out.2.1, HE.out.2.2⟩
          | true =>
            have HST := Lib.hid (show rdP (n - k) b jj acc = rdP (n - (k + 1)) b j2 (acc ++ [strOfNums bs]) by
              rw [show n - k = (n - (k + 1)) + 1 by omega, rdP, if_pos HO2'.out.symm, ← HJ2.out, ← HBS.out])
            have HRD4 := Lib.hid (HRD.out.trans HST.out)
            obtain ⟨z, hz⟩ : ∃ z, validP (strOfNums bs) = z := ⟨_, rfl⟩
            have HZ := Lib.hid hz
            go_wp2_with fail
            refine (implValidPart (strOfNums bs) _ (by rw [strOfNums_size]; omega)).mono ?_
            rintro e w4 ⟨rfl, hb4⟩
            rw [hz]
            have HY3 := Lib.hid (HY2.out.on hb4); have HX3 := Lib.hid (HX2.out.on hb4); have HO3 := Lib.hid (HO2.out.on hb4)
            have HB3 := Lib.hid (HB2.out.trans (hb4.mono HB2.out.size))
            have hcv4 := HCV.out _ hb4
            clear hb4 hz hy2 hyf2 hx2 hxf2 hcv
            have hy3 := HY3.out.cell
            have hyf3 := HY3.out.frozen
            have hx3 := HX3.out.cell
            have hxf3 := HX3.out.frozen
            cases z with
            | false =>
              have HV2 : Hid (rdN b i = ([], 0, false)) := Lib.hid (by
                rw [HV.out, HRD4.out]
                exact rdP_bad (x := strOfNums bs) (by simp) HZ.out)
              have HE := Lib.hid (end0 HX3.out HB3.out)
              go_wp2_with fail
              refine bodyPost_ret (Ret.results_ctt rfl _ _ w.heap.size [_] rfl aggN (Ret.one HE.out.1)) rfl ?_
              rw [HV2.out]
              exact ⟨_, rfl, HE.out.2.1, HE.out.2.2⟩
            | true =>
              have hal := (Below.refl w4.heap.size w4).alloc (Nat.le_refl _) (.cells #[.string (strOfNums bs)] 9)
              have HOA := Lib.hid (HO3.out.on hal)
              have HYA := Lib.hid (HY3.out.on hal)
              have HXA := Lib.hid (HX3.out.on hal)
              have HBA := Lib.hid (HB3.out.trans (hal.mono HB3.out.size))
              have HLM := Lib.hid (show (acc.length + [strOfNums bs].length) * 16 ≤ 140737488355328 by rw [← HNA.out, hna.out]; simp; omega)
              have HLX := Lib.hid (show acc.length + [strOfNums bs].length ≤ maxLen by rw [← HNA.out, hna.out]; unfold maxLen; simp; omega)
              have HSB := Lib.hid (show w1.heap.size ≤ (w4.alloc (.cells #[.string (strOfNums bs)] 9)).heap.size by have h1 := HYA.out.lt; have h2 := HW12.out; omega)
              clear hal
              go_wp2_with (at_builtin; refine wpList_app (enc := Value.string) (B := w1.heap.size) (l := acc) (m := [strOfNums bs]) rfl _ _ rfl Tryd.underlying24 elemSTR rfl rfl rfl HOA.out (holds_one Value.string 9 w4 _) oneStr HLM.out HLX.out HSB.out ?_)
              intro v3 w5 ho3 hg3
              obtain ⟨x3, n3, c3, rfl, hn3, -, ho3⟩ := ho3.shapeN
              have HN3 := Lib.hid hn3
              have hn3' : n3 = k + 1 := by rw [hn3, List.length_append, ← HNA.out, hna.out]; rfl
              have HY5 := Lib.hid (HYA.out.grown hg3 (Own.notBox HOA.out HYA.out (by decide)))
              have HX5 := Lib.hid (HXA.out.grown hg3 (Own.notBox HOA.out HXA.out (by decide)))
              have HB5 := Lib.hid (HBA.out.grown hg3 HBA.out.size (fun g e => by have h1 := (HOA.out.lt g e).1; have h2 := HSZ.out; omega))
              have HO5 := Lib.hid ho3
              have hy5 := HY5.out.cell
              have hyf5 := HY5.out.frozen
              have HY6 := Lib.hid (Ret.Box.set HY5.out (.slice x3 n3 c3))
              have HX6 := Lib.hid (HX5.out.grown (Ret.grownBy_set w5 ⟨w2.heap.size, 0, none⟩ (.slice x3 n3 c3)) (by have := HGZ.out; simp; omega))
              have HO6 := Lib.hid (own_setne (g := w2.heap.size) (i := 0) (u := .slice x3 n3 c3) HO5.out (Own.notBox HO5.out HY5.out (by decide)))
              have HB6 := Lib.hid (HB5.out.setCell (p := ⟨w2.heap.size, 0, none⟩) (Nat.le_of_lt HGZ.out) (.slice x3 n3 c3))
              have HBK := Lib.hid (show bulk (acc ++ [strOfNums bs]) ≤ 9 * (k + 1) by
                have := hbk.out
                rw [bulk_append, bulk_one, strOfNums_size]; omega)
              have HAV6 := Lib.hid (show ∀ x ∈ acc ++ [strOfNums bs], validP x = true from fun x hx => (List.mem_append.1 hx).elim (HAV.out x) (fun e => by rw [List.mem_singleton.1 e]; exact HZ.out))
              have HNE := Lib.hid hn3'
              clear ho3 hg3 hn3 hn3' hcv4 hy3 hyf3 hx3 hxf3
              go_wp2_with fail
              go_roundw
              case rel => exact ⟨k + 1, j2, _, x3, n3, c3, by omega, by go_num, rfl, HNE, HBK, HN3, HAV6, HRD4, HO6, HY6, HX6, HB6⟩
              case measure => simp [intOf]; omega
        · obtain rfl : k = n := by omega
          clear hlt
          have HVN : Hid (validN acc = true) := Lib.hid (validN_iff.2 ⟨by rw [← HNA.out, hna.out]; exact hn6, HAV.out⟩)
          have HV2 : Hid (rdN b i = (acc, jj, true)) := Lib.hid (by
            rw [HV.out, HRD.out, Nat.sub_self]
            show (if validN acc = true then _ else _) = _
            rw [if_pos HVN.out])
          have HE1 := Lib.hid (Ret.set_same (v := .slice xa na ca) HX.out.cell)
          have HE2 := Lib.hid ((own_setne (g := w.heap.size) (i := 0) (u := .slice xa na ca) HO.out (Own.notBox HO.out HX.out (by decide))).mono (Nat.le_of_lt HSZ.out))
          have HE3 := Lib.hid (HB.out.setCell (p := ⟨w.heap.size, 0, none⟩) (Nat.le_refl _) (.slice xa na ca))
          go_wp2_with fail
          refine bodyPost_ret (Ret.results_ctt rfl _ _ w.heap.size [_] rfl aggN (Ret.one HE1.out)) rfl ?_
          rw [HV2.out]
          exact ⟨_, rfl, HE2.out, HE3.out⟩
end Go.Proofs.YtnnhgcfelkcpfaaDoor.Row
/- Contract of the model's DecodeInterest. No conditions but that lengths fit. -/
namespace Go.Proofs.YtnnhgcfelkcpfaaDoor.Row
open Go.ChangeShapes Go.WideShapes Go.ChangeAt Go.RowKit Go.Instr
set_option linter.unusedVariables false
set_option maxRecDepth 100000

def w0 : Wt := ([], 0, 0, 0)
/-- What DecodeInterest reads. -/
def gotW (b : List Int) : Wt := ((rdN b 0).1, Sl.nth (Sl.readIs b (rdN b 0).2.1 3).1 0, Sl.nth (Sl.readIs b (rdN b 0).2.1 3).1 1, Sl.nth (Sl.readIs b (rdN b 0).2.1 3).1 2)
def dcW (b : List Int) : Wt × Bool :=
  if (rdN b 0).2.2 = true ∧ (Sl.readIs b (rdN b 0).2.1 3).2.2 = true ∧ (Sl.readIs b (rdN b 0).2.1 3).2.1 = b.length ∧ validW (gotW b) = true then (gotW b, true) else (w0, false)
theorem dcW_no {b : List Int} (h : ¬ ((rdN b 0).2.2 = true ∧ (Sl.readIs b (rdN b 0).2.1 3).2.2 = true ∧ (Sl.readIs b (rdN b 0).2.1 3).2.1 = b.length ∧ validW (gotW b) = true)) : dcW b = (w0, false) := if_neg h
theorem dcW_yes {b : List Int} (h : (rdN b 0).2.2 = true ∧ (Sl.readIs b (rdN b 0).2.1 3).2.2 = true ∧ (Sl.readIs b (rdN b 0).2.1 3).2.1 = b.length ∧ validW (gotW b) = true) : dcW b = (gotW b, true) := if_pos h
theorem rdN_valid {b : List Int} {i : Int} (h : (rdN b i).2.2 = true) : validN (rdN b i).1 = true := by
  by_cases h0 : (Var.readV b i).2.2 = false ∨ 6 < (Var.readV b i).1
  · rw [rdN_no h0] at h; cases h
  · rw [rdN_go h0] at h ⊢
    cases hp : rdP (Var.readV b i).1.toNat b (Var.readV b i).2.1 [] with
    | none => rw [hp] at h; cases h
    | some p =>
      obtain ⟨l, j⟩ := p
      rw [hp] at h
      by_cases hv : validN l = true
      · simp only [hv, if_true]
      · simp [hv] at h
theorem readI3 {b : List Int} {i : Int} (h : (Sl.readIs b i 3).2.2 = true) : (Sl.readIs b i 3).1.length = 3 := by
  have := Var.readIs_full h
  omega
/-- An interest lies in its result cells. -/
theorem endW {w W : World} {v v1 : Value} {a b c a1 b1 c1 : Int} {l : List ByteArray} {B : Nat} (hX : Ret.Blk W w.heap.size (wc v1 a1 b1 c1) 28) (ho : Own 9 Value.string B W v l) (hB : w.heap.size < B ∨ l = [] ∧ v = .slice none 0 0) (hb : Below w.heap.size w W) :
    Ret.Blk ((((W.setCell ⟨w.heap.size, 0, none⟩ v).setCell ⟨w.heap.size, 1, none⟩ (.int .i64 a)).setCell ⟨w.heap.size, 2, none⟩ (.int .i64 b)).setCell ⟨w.heap.size, 3, none⟩ (.int .i64 c)) w.heap.size (wc v a b c) 28 ∧ Own 9 Value.string w.heap.size ((((W.setCell ⟨w.heap.size, 0, none⟩ v).setCell ⟨w.heap.size, 1, none⟩ (.int .i64 a)).setCell ⟨w.heap.size, 2, none⟩ (.int .i64 b)).setCell ⟨w.heap.size, 3, none⟩ (.int .i64 c)) v l ∧ Below w.heap.size w ((((W.setCell ⟨w.heap.size, 0, none⟩ v).setCell ⟨w.heap.size, 1, none⟩ (.int .i64 a)).setCell ⟨w.heap.size, 2, none⟩ (.int .i64 b)).setCell ⟨w.heap.size, 3, none⟩ (.int .i64 c)) := by
  refine ⟨(((hX.set 0 v).set 1 (.int .i64 a)).set 2 (.int .i64 b)).set 3 (.int .i64 c), ?_, (((hb.setCell (p := ⟨w.heap.size, 0, none⟩) (Nat.le_refl _) v).setCell (p := ⟨w.heap.size, 1, none⟩) (Nat.le_refl _) (.int .i64 a)).setCell (p := ⟨w.heap.size, 2, none⟩) (Nat.le_refl _) (.int .i64 b)).setCell (p := ⟨w.heap.size, 3, none⟩) (Nat.le_refl _) (.int .i64 c)⟩
  rcases hB with hB | ⟨rfl, rfl⟩
  · exact (own_set (own_set (own_set (own_set ho hB) hB) hB) hB).mono (Nat.le_of_lt hB)
  · exact Own.nil _ _ _ _

set_option maxHeartbeats 8000000 in
theorem specDecodeInterest (v : Value) (b : List Int) (w : World) (h : Sl.Holds .u8 w v b) (hB : Sl.Byt b) (hl : b.length ≤ 100000000) :
    Calls Tryd.prog 10 #[v] w (GivesWB w (dcW b).1 (dcW b).2) := by
  unfold GivesWB
  obtain ⟨x, cx, rfl, hcx, hh⟩ := h.shape
  obtain ⟨m, hm⟩ : ∃ m, m = b.length := ⟨_, rfl⟩
  rw [← hm] at hcx hh hl ⊢
  have hb0 := (Below.refl w.heap.size w).alloc (Nat.le_refl _) (.cells (wc (.slice none 0 0) 0 0 0) 28)
  have HB0 := Lib.hid hb0
  have HX0 := Lib.hid (Ret.Blk.new w (wc (.slice none 0 0) 0 0 0) 28)
  have HH0 := Lib.hid hh
  have HBY := Lib.hid hB
  have HM := Lib.hid hm
  have HR := Lib.hid (specReadName _ b 0 _ (hh.on hb0) hB (by rw [← hm]; exact hl))
  clear h hh hB hb0 hm
  obtain ⟨l, hl1⟩ : ∃ l, l = (rdN b 0).1 := ⟨_, rfl⟩
  obtain ⟨j, hj⟩ : ∃ j, j = (rdN b 0).2.1 := ⟨_, rfl⟩
  obtain ⟨ok, hok⟩ : ∃ z, z = (rdN b 0).2.2 := ⟨_, rfl⟩
  rw [← hl1, ← hj, ← hok] at HR
  have HL := Lib.hid hl1; have HJ := Lib.hid hj; have HOK := Lib.hid hok
  clear hl1 hj hok
  go_enter Tryd.func10, Tryd.ntmps10
  go_wp2_with fail
  refine HR.out.mono ?_
  rintro e w1 ⟨v1, rfl, ho1, hb1⟩
  obtain ⟨x1, n1, c1, rfl, -, hc1, ho1⟩ := ho1.shapeN
  have hal := (Below.refl w1.heap.size w1).alloc (Nat.le_refl _) (.cells #[.slice x1 n1 c1] 26)
  have hs1 := hb1.size
  simp only [World.size_alloc] at hs1
  have HSZ := Lib.hid (show w.heap.size < w1.heap.size by omega)
  have HO1 := Lib.hid ((ho1.on hal).mono (show w.heap.size + 1 ≤ _ by simp))
  have HX1 := Lib.hid ((HX0.out.on hb1).on hal)
  have HY1 := Lib.hid (Ret.Box.new w1 (.slice x1 n1 c1) 26)
  have HB1 := Lib.hid ((HB0.out.trans (hb1.mono HB0.out.size)).trans (hal.mono (Nat.le_trans HB0.out.size hb1.size)))
  clear ho1 hb1 hal hs1 HX0 HR
  have HD := Lib.hid (Sl.specDecodeInts _ b j 3 _ (HH0.out.on HB1.out) HBY.out (by rw [← HM.out]; exact hl))
  obtain ⟨is_, his⟩ : ∃ l, l = (Sl.readIs b j 3).1 := ⟨_, rfl⟩
  obtain ⟨nx, hnx⟩ : ∃ l, l = (Sl.readIs b j 3).2.1 := ⟨_, rfl⟩
  obtain ⟨k2, hk2⟩ : ∃ l, l = (Sl.readIs b j 3).2.2 := ⟨_, rfl⟩
  rw [← his, ← hnx, ← hk2] at HD
  have HIS := Lib.hid his; have HNX := Lib.hid hnx; have HK2 := Lib.hid hk2
  clear his hnx hk2
  go_wp2_with fail
  refine HD.out.mono ?_
  rintro e w2 ⟨v2, rfl, ho2, hb2⟩
  obtain ⟨x2, c2, rfl, hc2, ho2⟩ := ho2.holds.shape
  obtain ⟨n2, hn2⟩ : ∃ n, n = is_.length := ⟨_, rfl⟩
  rw [← hn2] at ho2
  have HN2 := Lib.hid hn2
  rw [← hn2]
  have HO2 := Lib.hid (HO1.out.on hb2)
  have HX2 := Lib.hid (HX1.out.on hb2)
  have HY2 := Lib.hid (HY1.out.on hb2)
  have HB2 := Lib.hid (HB1.out.trans (hb2.mono HB1.out.size))
  have HI2 := Lib.hid ho2
  clear ho2 hb2 hc2 hn2 HD HX1 HY1 HO1
  cases ok with
  | false =>
    have HV := Lib.hid (dcW_no (b := b) (fun e => by rw [← HOK.out] at e; cases e.1))
    have HE := Lib.hid (endW (a := 0) (b := 0) (c := 0) HX2.out (Own.nil _ _ (w.heap.size + 1) _) (Or.inl (Nat.lt_succ_self _)) HB2.out)
    have t0 := HX2.out.frozen 0; have t1 := HX2.out.frozen 1; have t2 := HX2.out.frozen 2; have t3 := HX2.out.frozen 3
    have r0 := HX2.out.cell 0; have r1 := HX2.out.cell 1; have r2 := HX2.out.cell 2; have r3 := HX2.out.cell 3
    simp only [wc, List.getElem?_toArray, List.getElem?_cons_zero, List.getElem?_cons_succ] at r0 r1 r2 r3
    go_wp2_with fail
    refine bodyPost_ret (Ret.results_ct rfl _ _ w.heap.size (wc (.slice none 0 0) 0 0 0).toList rfl aggW HE.out.1.cells) rfl ?_
    rw [HV.out]
    exact ⟨_, rfl, HE.out.2.1, HE.out.2.2⟩
  | true =>
    have HVN : Hid (validN l = true) := Lib.hid (by rw [HL.out]; exact rdN_valid HOK.out.symm)
    cases k2 with
    | false =>
      have HV := Lib.hid (dcW_no (b := b) (fun e => by have h9 := e.2.1; rw [← HJ.out, ← HK2.out] at h9; cases h9))
      have HE := Lib.hid (endW (a := 0) (b := 0) (c := 0) HX2.out (Own.nil _ _ (w.heap.size + 1) _) (Or.inl (Nat.lt_succ_self _)) HB2.out)
      have t0 := HX2.out.frozen 0; have t1 := HX2.out.frozen 1; have t2 := HX2.out.frozen 2; have t3 := HX2.out.frozen 3
      have r0 := HX2.out.cell 0; have r1 := HX2.out.cell 1; have r2 := HX2.out.cell 2; have r3 := HX2.out.cell 3
      simp only [wc, List.getElem?_toArray, List.getElem?_cons_zero, List.getElem?_cons_succ] at r0 r1 r2 r3
      go_wp2_with fail
      refine bodyPost_ret (Ret.results_ct rfl _ _ w.heap.size (wc (.slice none 0 0) 0 0 0).toList rfl aggW HE.out.1.cells) rfl ?_
      rw [HV.out]
      exact ⟨_, rfl, HE.out.2.1, HE.out.2.2⟩
    | true =>
      by_cases hnm : nx = (m : Int)
      · have hd : (nx != (m : Int)) = false := by simp [hnm]
        have h3 : n2 = 3 := by rw [HN2.out, HIS.out]; exact readI3 HK2.out.symm
        subst h3
        obtain ⟨bb, off, hx2, hc⟩ := HI2.out.at (j := 0) (by rw [← HN2.out]; omega)
        subst hx2
        obtain ⟨i0, hi0⟩ : ∃ z, z = Sl.nth is_ 0 := ⟨_, rfl⟩
        obtain ⟨i1, hi1⟩ : ∃ z, z = Sl.nth is_ 1 := ⟨_, rfl⟩
        obtain ⟨i2, hi2⟩ : ∃ z, z = Sl.nth is_ 2 := ⟨_, rfl⟩
        have q0 : w2.cell? ⟨bb, off, none⟩ = some (.int .i64 i0) := by rw [hi0]; exact hc
        have q1 : w2.cell? ⟨bb, off + 1, none⟩ = some (.int .i64 i1) := by
          obtain ⟨b', o', e, hc1⟩ := HI2.out.at (j := 1) (by rw [← HN2.out]; omega)
          cases e; rw [hi1]; exact hc1
        have q2 : w2.cell? ⟨bb, off + 2, none⟩ = some (.int .i64 i2) := by
          obtain ⟨b', o', e, hc1⟩ := HI2.out.at (j := 2) (by rw [← HN2.out]; omega)
          cases e; rw [hi2]; exact hc1
        have HG : Hid (gotW b = (l, i0, i1, i2)) := Lib.hid (by unfold gotW; rw [← HL.out, ← HJ.out, ← HIS.out, ← hi0, ← hi1, ← hi2])
        have hy2 := HY2.out.cell
        have HNM : Hid (nx = (b.length : Int)) := Lib.hid (by rw [hnm, HM.out])
        clear hc hi0 hi1 hi2 hnm
        have ha := (Below.refl w2.heap.size w2).alloc (Nat.le_refl _) (.cells #[.slice none 0 0, .int .i64 0, .int .i64 0, .int .i64 0] 28)
        have q0a := (ha.cell (cell_lt q0)).trans q0
        have q1a := (ha.cell (cell_lt q1)).trans q1
        have q2a := (ha.cell (cell_lt q2)).trans q2
        have hy2a := (ha.cell (cell_lt hy2)).trans hy2
        clear ha
        go_wp2_with fail
        go_region
        clear q0a q1a q2a hy2a q0 q1 q2 hy2 hd
        have haw : Below w2.heap.size w2 ((w2.alloc (.cells (wc (.slice x1 n1 c1) i0 i1 i2) 28)).drew) := ((Below.refl _ _).alloc (Nat.le_refl _) _).drew
        have HO3 := Lib.hid (HO2.out.on haw)
        have HX3 := Lib.hid (HX2.out.on haw)
        have HB3 := Lib.hid (HB2.out.trans (haw.mono HB2.out.size))
        have HZ3 := Lib.hid ((Ret.Blk.new w2 (wc (.slice x1 n1 c1) i0 i1 i2) 28).on (show Below _ _ ((w2.alloc (.cells (wc (.slice x1 n1 c1) i0 i1 i2) 28)).drew) from (Below.refl _ _).drew))
        have p0 := HZ3.out.cell 0; have p1 := HZ3.out.cell 1; have p2 := HZ3.out.cell 2; have p3 := HZ3.out.cell 3
        simp only [wc, List.getElem?_toArray, List.getElem?_cons_zero, List.getElem?_cons_succ] at p0 p1 p2 p3
        obtain ⟨z, hz⟩ : ∃ z, validW (l, i0, i1, i2) = z := ⟨_, rfl⟩
        have HZ := Lib.hid hz
        have HBK := Lib.hid (bulk_valid HVN.out)
        clear haw
        go_wp2_with fail
        refine (specValidInterest _ (l, i0, i1, i2) _ HO3.out.holds (by have := HBK.out; simp only; omega)).mono ?_
        rintro e w3 ⟨rfl, hb3⟩
        rw [hz]
        have HO4 := Lib.hid (HO3.out.on hb3)
        have HX4 := Lib.hid (HX3.out.on hb3)
        have HZ4 := Lib.hid (HZ3.out.on hb3)
        have HB4 := Lib.hid (HB3.out.trans (hb3.mono HB3.out.size))
        clear hb3 hz p0 p1 p2 p3
        cases z with
        | false =>
          have HV := Lib.hid (dcW_no (b := b) (fun e => by have h9 := e.2.2.2; rw [HG.out, HZ.out] at h9; cases h9))
          have HE := Lib.hid (endW (a := 0) (b := 0) (c := 0) HX4.out (Own.nil _ _ (w.heap.size + 1) _) (Or.inl (Nat.lt_succ_self _)) HB4.out)
          have t0 := HX4.out.frozen 0; have t1 := HX4.out.frozen 1; have t2 := HX4.out.frozen 2; have t3 := HX4.out.frozen 3
          have r0 := HX4.out.cell 0; have r1 := HX4.out.cell 1; have r2 := HX4.out.cell 2; have r3 := HX4.out.cell 3
          simp only [wc, List.getElem?_toArray, List.getElem?_cons_zero, List.getElem?_cons_succ] at r0 r1 r2 r3
          go_wp2_with fail
          refine bodyPost_ret (Ret.results_ct rfl _ _ w.heap.size (wc (.slice none 0 0) 0 0 0).toList rfl aggW HE.out.1.cells) rfl ?_
          rw [HV.out]
          exact ⟨_, rfl, HE.out.2.1, HE.out.2.2⟩
        | true =>
          have HV := Lib.hid (dcW_yes (b := b) ⟨HOK.out.symm, by rw [← HJ.out, ← HK2.out], by rw [← HJ.out, ← HNX.out]; exact HNM.out, by rw [HG.out]; exact HZ.out⟩)
          have HE := Lib.hid (endW (a := i0) (b := i1) (c := i2) HX4.out HO4.out (Or.inl (Nat.lt_succ_self _)) HB4.out)
          have t0 := HX4.out.frozen 0; have t1 := HX4.out.frozen 1; have t2 := HX4.out.frozen 2; have t3 := HX4.out.frozen 3
          have r0 := HX4.out.cell 0; have r1 := HX4.out.cell 1; have r2 := HX4.out.cell 2; have r3 := HX4.out.cell 3
          simp only [wc, List.getElem?_toArray, List.getElem?_cons_zero, List.getElem?_cons_succ] at r0 r1 r2 r3
          have p0 := HZ4.out.cell 0; have p1 := HZ4.out.cell 1; have p2 := HZ4.out.cell 2; have p3 := HZ4.out.cell 3
          simp only [wc, List.getElem?_toArray, List.getElem?_cons_zero, List.getElem?_cons_succ] at p0 p1 p2 p3
          go_wp2_with fail
          refine bodyPost_ret (Ret.results_ct rfl _ _ w.heap.size (wc (.slice x1 n1 c1) i0 i1 i2).toList rfl aggW HE.out.1.cells) rfl ?_
          rw [HV.out, HG.out]
          exact ⟨_, rfl, HE.out.2.1, HE.out.2.2⟩
      · have hd : (nx != (m : Int)) = true := by simpa using hnm
        have HV := Lib.hid (dcW_no (b := b) (fun e => hnm (by have h9 := e.2.2.1; rw [← HJ.out, ← HNX.out, ← HM.out] at h9; exact h9)))
        clear hnm
        have HE := Lib.hid (endW (a := 0) (b := 0) (c := 0) HX2.out (Own.nil _ _ (w.heap.size + 1) _) (Or.inl (Nat.lt_succ_self _)) HB2.out)
        have t0 := HX2.out.frozen 0; have t1 := HX2.out.frozen 1; have t2 := HX2.out.frozen 2; have t3 := HX2.out.frozen 3
        have r0 := HX2.out.cell 0; have r1 := HX2.out.cell 1; have r2 := HX2.out.cell 2; have r3 := HX2.out.cell 3
        simp only [wc, List.getElem?_toArray, List.getElem?_cons_zero, List.getElem?_cons_succ] at r0 r1 r2 r3
        go_wp2_with fail
        refine bodyPost_ret (Ret.results_ct rfl _ _ w.heap.size (wc (.slice none 0 0) 0 0 0).toList rfl aggW HE.out.1.cells) rfl ?_
        rw [HV.out]
        exact ⟨_, rfl, HE.out.2.1, HE.out.2.2⟩
end Go.Proofs.YtnnhgcfelkcpfaaDoor.Row
/- Contract of the program's DecodeInterest. No conditions but that lengths fit. -/
namespace Go.Proofs.YtnnhgcfelkcpfaaDoor.Row
open Go.ChangeShapes Go.WideShapes Go.ChangeAt Go.RowKit Go.Instr
set_option linter.unusedVariables false
set_option maxRecDepth 100000

set_option maxHeartbeats 8000000 in
theorem implDecodeInterest (v : Value) (b : List Int) (w : World) (h : Sl.Holds .u8 w v b) (hB : Sl.Byt b) (hl : b.length ≤ 100000000) :
    Calls Tryd.prog 9 #[v] w (GivesWB w (dcW b).1 (dcW b).2) := by
  unfold GivesWB
  obtain ⟨x, cx, rfl, hcx, hh⟩ := h.shape
  obtain ⟨m, hm⟩ : ∃ m, m = b.length := ⟨_, rfl⟩
  rw [← hm] at hcx hh hl ⊢
  have hb0 := (Below.refl w.heap.size w).alloc (Nat.le_refl _) (.cells (wc (.slice none 0 0) 0 0 0) 28)
  have HB0 := Lib.hid hb0
  have HX0 := Lib.hid (Ret.Blk.new w (wc (.slice none 0 0) 0 0 0) 28)
  have HH0 := Lib.hid hh
  have HBY := Lib.hid hB
  have HM := Lib.hid hm
  have HR := Lib.hid (implReadName _ b 0 _ (hh.on hb0) hB (by rw [← hm]; exact hl))
  clear h hh hB hb0 hm
  obtain ⟨l, hl1⟩ : ∃ l, l = (rdN b 0).1 := ⟨_, rfl⟩
  obtain ⟨j, hj⟩ : ∃ j, j = (rdN b 0).2.1 := ⟨_, rfl⟩
  obtain ⟨ok, hok⟩ : ∃ z, z = (rdN b 0).2.2 := ⟨_, rfl⟩
  rw [← hl1, ← hj, ← hok] at HR
  have HL := Lib.hid hl1; have HJ := Lib.hid hj; have HOK := Lib.hid hok
  clear hl1 hj hok
  go_enter Tryd.func9, Tryd.ntmps9
  go_wp2_with fail
  refine HR.out.mono ?_
  rintro e w1 ⟨v1, rfl, ho1, hb1⟩
  obtain ⟨x1, n1, c1, rfl, -, hc1, ho1⟩ := ho1.shapeN
  have hal := (Below.refl w1.heap.size w1).alloc (Nat.le_refl _) (.cells #[.slice x1 n1 c1] 26)
  have hs1 := hb1.size
  simp only [World.size_alloc] at hs1
  have HSZ := Lib.hid (show w.heap.size < w1.heap.size by omega)
  have HO1 := Lib.hid ((ho1.on hal).mono (show w.heap.size + 1 ≤ _ by simp))
  have HX1 := Lib.hid ((HX0.out.on hb1).on hal)
  have HY1 := Lib.hid (Ret.Box.new w1 (.slice x1 n1 c1) 26)
  have HB1 := Lib.hid ((HB0.out.trans (hb1.mono HB0.out.size)).trans (hal.mono (Nat.le_trans HB0.out.size hb1.size)))
  clear ho1 hb1 hal hs1 HX0 HR
  cases ok with
  | false =>
    have HV := Lib.hid (dcW_no (b := b) (fun e => by rw [← HOK.out] at e; cases e.1))
    have HE := Lib.hid (endW (a := 0) (b := 0) (c := 0) HX1.out (Own.nil _ _ (w.heap.size + 1) _) (Or.inl (Nat.lt_succ_self _)) HB1.out)
    have t0 := HX1.out.frozen 0; have t1 := HX1.out.frozen 1; have t2 := HX1.out.frozen 2; have t3 := HX1.out.frozen 3
    have r0 := HX1.out.cell 0; have r1 := HX1.out.cell 1; have r2 := HX1.out.cell 2; have r3 := HX1.out.cell 3
    simp only [wc, List.getElem?_toArray, List.getElem?_cons_zero, List.getElem?_cons_succ] at r0 r1 r2 r3
    go_wp2_with fail
    refine bodyPost_ret (Ret.results_ct rfl _ _ w.heap.size (wc (.slice none 0 0) 0 0 0).toList rfl aggW HE.out.1.cells) rfl ?_
    rw [HV.out]
    exact ⟨_, rfl, HE.out.2.1, HE.out.2.2⟩
  | true =>
    have HD := Lib.hid (Sl.implDecodeInts _ b j 3 _ (HH0.out.on HB1.out) HBY.out (by rw [← HM.out]; exact hl))
    obtain ⟨is_, his⟩ : ∃ l, l = (Sl.readIs b j 3).1 := ⟨_, rfl⟩
    obtain ⟨nx, hnx⟩ : ∃ l, l = (Sl.readIs b j 3).2.1 := ⟨_, rfl⟩
    obtain ⟨k2, hk2⟩ : ∃ l, l = (Sl.readIs b j 3).2.2 := ⟨_, rfl⟩
    rw [← his, ← hnx, ← hk2] at HD
    have HIS := Lib.hid his; have HNX := Lib.hid hnx; have HK2 := Lib.hid hk2
    clear his hnx hk2
    go_wp2_with fail
    refine HD.out.mono ?_
    rintro e w2 ⟨v2, rfl, ho2, hb2⟩
    obtain ⟨x2, c2, rfl, hc2, ho2⟩ := ho2.holds.shape
    obtain ⟨n2, hn2⟩ : ∃ n, n = is_.length := ⟨_, rfl⟩
    rw [← hn2] at ho2
    have HN2 := Lib.hid hn2
    rw [← hn2]
    have HO2 := Lib.hid (HO1.out.on hb2)
    have HX2 := Lib.hid (HX1.out.on hb2)
    have HY2 := Lib.hid (HY1.out.on hb2)
    have HB2 := Lib.hid (HB1.out.trans (hb2.mono HB1.out.size))
    have HI2 := Lib.hid ho2
    clear ho2 hb2 hc2 hn2 HD HX1 HY1 HO1
    have HVN : Hid (validN l = true) := Lib.hid (by rw [HL.out]; exact rdN_valid HOK.out.symm)
    cases k2 with
    | false =>
      have HV := Lib.hid (dcW_no (b := b) (fun e => by have h9 := e.2.1; rw [← HJ.out, ← HK2.out] at h9; cases h9))
      have HE := Lib.hid (endW (a := 0) (b := 0) (c := 0) HX2.out (Own.nil _ _ (w.heap.size + 1) _) (Or.inl (Nat.lt_succ_self _)) HB2.out)
      have t0 := HX2.out.frozen 0; have t1 := HX2.out.frozen 1; have t2 := HX2.out.frozen 2; have t3 := HX2.out.frozen 3
      have r0 := HX2.out.cell 0; have r1 := HX2.out.cell 1; have r2 := HX2.out.cell 2; have r3 := HX2.out.cell 3
      simp only [wc, List.getElem?_toArray, List.getElem?_cons_zero, List.getElem?_cons_succ] at r0 r1 r2 r3
      go_wp2_with fail
      refine bodyPost_ret (Ret.results_ct rfl _ _ w.heap.size (wc (.slice none 0 0) 0 0 0).toList rfl aggW HE.out.1.cells) rfl ?_
      rw [HV.out]
      exact ⟨_, rfl, HE.out.2.1, HE.out.2.2⟩
    | true =>
      by_cases hnm : nx = (m : Int)
      · have hd : (nx != (m : Int)) = false := by simp [hnm]
        have h3 : n2 = 3 := by rw [HN2.out, HIS.out]; exact readI3 HK2.out.symm
        subst h3
        obtain ⟨bb, off, hx2, hc⟩ := HI2.out.at (j := 0) (by rw [← HN2.out]; omega)
        subst hx2
        obtain ⟨i0, hi0⟩ : ∃ z, z = Sl.nth is_ 0 := ⟨_, rfl⟩
        obtain ⟨i1, hi1⟩ : ∃ z, z = Sl.nth is_ 1 := ⟨_, rfl⟩
        obtain ⟨i2, hi2⟩ : ∃ z, z = Sl.nth is_ 2 := ⟨_, rfl⟩
        have q0 : w2.cell? ⟨bb, off, none⟩ = some (.int .i64 i0) := by rw [hi0]; exact hc
        have q1 : w2.cell? ⟨bb, off + 1, none⟩ = some (.int .i64 i1) := by
          obtain ⟨b', o', e, hc1⟩ := HI2.out.at (j := 1) (by rw [← HN2.out]; omega)
          cases e; rw [hi1]; exact hc1
        have q2 : w2.cell? ⟨bb, off + 2, none⟩ = some (.int .i64 i2) := by
          obtain ⟨b', o', e, hc1⟩ := HI2.out.at (j := 2) (by rw [← HN2.out]; omega)
          cases e; rw [hi2]; exact hc1
        have HG : Hid (gotW b = (l, i0, i1, i2)) := Lib.hid (by unfold gotW; rw [← HL.out, ← HJ.out, ← HIS.out, ← hi0, ← hi1, ← hi2])
        have hy2 := HY2.out.cell
        have HNM : Hid (nx = (b.length : Int)) := Lib.hid (by rw [hnm, HM.out])
        clear hc hi0 hi1 hi2 hnm
        have ha := (Below.refl w2.heap.size w2).alloc (Nat.le_refl _) (.cells #[.slice none 0 0, .int .i64 0, .int .i64 0, .int .i64 0] 28)
        have q0a := (ha.cell (cell_lt q0)).trans q0
        have q1a := (ha.cell (cell_lt q1)).trans q1
        have q2a := (ha.cell (cell_lt q2)).trans q2
        have hy2a := (ha.cell (cell_lt hy2)).trans hy2
        clear ha
        go_wp2_with fail
        go_region
        clear q0a q1a q2a hy2a q0 q1 q2 hy2 hd
        have haw : Below w2.heap.size w2 ((w2.alloc (.cells (wc (.slice x1 n1 c1) i0 i1 i2) 28)).drew) := ((Below.refl _ _).alloc (Nat.le_refl _) _).drew
        have HO3 := Lib.hid (HO2.out.on haw)
        have HX3 := Lib.hid (HX2.out.on haw)
        have HB3 := Lib.hid (HB2.out.trans (haw.mono HB2.out.size))
        have HZ3 := Lib.hid ((Ret.Blk.new w2 (wc (.slice x1 n1 c1) i0 i1 i2) 28).on (show Below _ _ ((w2.alloc (.cells (wc (.slice x1 n1 c1) i0 i1 i2) 28)).drew) from (Below.refl _ _).drew))
        have p0 := HZ3.out.cell 0; have p1 := HZ3.out.cell 1; have p2 := HZ3.out.cell 2; have p3 := HZ3.out.cell 3
        simp only [wc, List.getElem?_toArray, List.getElem?_cons_zero, List.getElem?_cons_succ] at p0 p1 p2 p3
        obtain ⟨z, hz⟩ : ∃ z, validW (l, i0, i1, i2) = z := ⟨_, rfl⟩
        have HZ := Lib.hid hz
        have HBK := Lib.hid (bulk_valid HVN.out)
        clear haw
        go_wp2_with fail
        refine (implValidInterest _ (l, i0, i1, i2) _ HO3.out.holds (by have := HBK.out; simp only; omega)).mono ?_
        rintro e w3 ⟨rfl, hb3⟩
        rw [hz]
        have HO4 := Lib.hid (HO3.out.on hb3)
        have HX4 := Lib.hid (HX3.out.on hb3)
        have HZ4 := Lib.hid (HZ3.out.on hb3)
        have HB4 := Lib.hid (HB3.out.trans (hb3.mono HB3.out.size))
        clear hb3 hz p0 p1 p2 p3
        cases z with
        | false =>
          have HV := Lib.hid (dcW_no (b := b) (fun e => by have h9 := e.2.2.2; rw [HG.out, HZ.out] at h9; cases h9))
          have HE := Lib.hid (endW (a := 0) (b := 0) (c := 0) HX4.out (Own.nil _ _ (w.heap.size + 1) _) (Or.inl (Nat.lt_succ_self _)) HB4.out)
          have t0 := HX4.out.frozen 0; have t1 := HX4.out.frozen 1; have t2 := HX4.out.frozen 2; have t3 := HX4.out.frozen 3
          have r0 := HX4.out.cell 0; have r1 := HX4.out.cell 1; have r2 := HX4.out.cell 2; have r3 := HX4.out.cell 3
          simp only [wc, List.getElem?_toArray, List.getElem?_cons_zero, List.getElem?_cons_succ] at r0 r1 r2 r3
          go_wp2_with fail
          refine bodyPost_ret (Ret.results_ct rfl _ _ w.heap.size (wc (.slice none 0 0) 0 0 0).toList rfl aggW HE.out.1.cells) rfl ?_
          rw [HV.out]
          exact ⟨_, rfl, HE.out.2.1, HE.out.2.2⟩
        | true =>
          have HV := Lib.hid (dcW_yes (b := b) ⟨HOK.out.symm, by rw [← HJ.out, ← HK2.out], by rw [← HJ.out, ← HNX.out]; exact HNM.out, by rw [HG.out]; exact HZ.out⟩)
          have HE := Lib.hid (endW (a := i0) (b := i1) (c := i2) HX4.out HO4.out (Or.inl (Nat.lt_succ_self _)) HB4.out)
          have t0 := HX4.out.frozen 0; have t1 := HX4.out.frozen 1; have t2 := HX4.out.frozen 2; have t3 := HX4.out.frozen 3
          have r0 := HX4.out.cell 0; have r1 := HX4.out.cell 1; have r2 := HX4.out.cell 2; have r3 := HX4.out.cell 3
          simp only [wc, List.getElem?_toArray, List.getElem?_cons_zero, List.getElem?_cons_succ] at r0 r1 r2 r3
          have p0 := HZ4.out.cell 0; have p1 := HZ4.out.cell 1; have p2 := HZ4.out.cell 2; have p3 := HZ4.out.cell 3
          simp only [wc, List.getElem?_toArray, List.getElem?_cons_zero, List.getElem?_cons_succ] at p0 p1 p2 p3
          go_wp2_with fail
          refine bodyPost_ret (Ret.results_ct rfl _ _ w.heap.size (wc (.slice x1 n1 c1) i0 i1 i2).toList rfl aggW HE.out.1.cells) rfl ?_
          rw [HV.out, HG.out]
          exact ⟨_, rfl, HE.out.2.1, HE.out.2.2⟩
      · have hd : (nx != (m : Int)) = true := by simpa using hnm
        have HV := Lib.hid (dcW_no (b := b) (fun e => hnm (by have h9 := e.2.2.1; rw [← HJ.out, ← HNX.out, ← HM.out] at h9; exact h9)))
        clear hnm
        have HE := Lib.hid (endW (a := 0) (b := 0) (c := 0) HX2.out (Own.nil _ _ (w.heap.size + 1) _) (Or.inl (Nat.lt_succ_self _)) HB2.out)
        have t0 := HX2.out.frozen 0; have t1 := HX2.out.frozen 1; have t2 := HX2.out.frozen 2; have t3 := HX2.out.frozen 3
        have r0 := HX2.out.cell 0; have r1 := HX2.out.cell 1; have r2 := HX2.out.cell 2; have r3 := HX2.out.cell 3
        simp only [wc, List.getElem?_toArray, List.getElem?_cons_zero, List.getElem?_cons_succ] at r0 r1 r2 r3
        go_wp2_with fail
        refine bodyPost_ret (Ret.results_ct rfl _ _ w.heap.size (wc (.slice none 0 0) 0 0 0).toList rfl aggW HE.out.1.cells) rfl ?_
        rw [HV.out]
        exact ⟨_, rfl, HE.out.2.1, HE.out.2.2⟩
end Go.Proofs.YtnnhgcfelkcpfaaDoor.Row
/- Interests in the words of the exact laws: the kind; the laws' helpers for it; an interest that came in as an argument. No conditions but that lengths fit. -/
namespace Go.Proofs.YtnnhgcfelkcpfaaDoor.Row
open Go.ChangeShapes Go.WideShapes Go.ChangeAt Go.RowKit Go.Instr
set_option linter.unusedVariables false
set_option maxRecDepth 100000

def kW : Kd Wt (Rw ByteArray × Int × Int × Int) := (kNm 9).pair (kInt.pair (kInt.pair kInt))
section
variable {w : World} {v V : Value} {x : Wt} {B E : Nat}
theorem kW_at (h : kW.At w V x) : ∃ v, V = .agg (wc v x.2.1 x.2.2.1 x.2.2.2) ∧ Holds Value.string w v x.1 := by
  obtain ⟨⟨r, a, b, c⟩, rfl, rfl, h⟩ := h
  exact ⟨r.v, rfl, kNm_at (e := 9) ⟨r, rfl, rfl, h.1⟩⟩
theorem kW_of (h : Holds Value.string w v x.1) : kW.At w (.agg (wc v x.2.1 x.2.2.1 x.2.2.2)) x := by
  obtain ⟨l, a, b, c⟩ := x
  obtain ⟨m, rfl, e, h⟩ := kNm_of (e := 9) h
  exact ⟨(m, a, b, c), rfl, Prod.ext e rfl, h, trivial, trivial, trivial⟩
theorem kW_mk (h : Own 9 Value.string B w v x.1) (hE : ∀ g, v.ownBlock = some g → g < E) : kW.In B E w (.agg (wc v x.2.1 x.2.2.1 x.2.2.2)) x := by
  obtain ⟨l, a, b, c⟩ := x
  obtain ⟨m, rfl, e, h, hn, hl⟩ := kNm_mk h hE
  have hb : kW.blocks (m, a, b, c) = (kNm 9).blocks m := List.append_nil _
  exact ⟨(m, a, b, c), rfl, Prod.ext e rfl, ⟨h, trivial, trivial, trivial⟩, by rw [hb]; exact hn, by rw [hb]; exact hl⟩
theorem kW_own (h : Own 9 Value.string B w v x.1) : kW.In B w.heap.size w (.agg (wc v x.2.1 x.2.2.1 x.2.2.2)) x := kW_mk h (fun g hg => (h.lt g hg).2)
theorem kW_in (h : kW.In B E w V x) : ∃ v, V = .agg (wc v x.2.1 x.2.2.1 x.2.2.2) ∧ Own 9 Value.string B w v x.1 ∧ ∀ g, v.ownBlock = some g → g < E := by
  obtain ⟨⟨r, a, b, c⟩, rfl, rfl, h, hn, hl⟩ := h
  have hb : kW.blocks (r, a, b, c) = (kNm 9).blocks r := List.append_nil _
  rw [hb] at hn hl
  exact ⟨r.v, rfl, kNm_in (e := 9) ⟨r, rfl, rfl, h.1, hn, hl⟩⟩
theorem kW_shape (h : kW.In B E w V x) : ∃ a n c, V = .agg #[.slice a n c, .int .i64 x.2.1, .int .i64 x.2.2.1, .int .i64 x.2.2.2] ∧ kW.In B E w (.agg #[.slice a n c, .int .i64 x.2.1, .int .i64 x.2.2.1, .int .i64 x.2.2.2]) x := by
  obtain ⟨v, rfl, ho, -⟩ := kW_in h
  obtain ⟨a, n, c, rfl, -⟩ := ho.shapeN
  exact ⟨a, n, c, rfl, h⟩
theorem kW_shapeA (h : kW.At w V x) : ∃ a n c, V = .agg #[.slice a n c, .int .i64 x.2.1, .int .i64 x.2.2.1, .int .i64 x.2.2.2] ∧ kW.At w (.agg #[.slice a n c, .int .i64 x.2.1, .int .i64 x.2.2.1, .int .i64 x.2.2.2]) x := by
  obtain ⟨v, rfl, ho⟩ := kW_at h
  obtain ⟨a, n, c, rfl, -⟩ := ho.shapeN
  exact ⟨a, n, c, rfl, h⟩
end
/-- Its parts' sizes and its numbers fit. -/
def WfW (x : Wt) : Prop := (∀ y ∈ x.1, y.size ≤ maxLen) ∧ (Lit.int .i64 x.2.1).wf = true ∧ (Lit.int .i64 x.2.2.1).wf = true ∧ (Lit.int .i64 x.2.2.2).wf = true
theorem WfW.hop {x : Wt} (h : WfW x) : x.2.2.1 ≤ 9223372036854775807 := by
  have h2 := h.2.2.1
  simp [Lit.wf] at h2
  exact h2.2
theorem szWK (V : Value) (x : Wt) (w : World) (left : Int) (h : kW.At w V x) (hl : x.1.length ≤ 9223372036854775807) (hs : WfW x) (h0 : 0 ≤ left) (h1 : left ≤ 1048576) :
    Calls Tryd.prog 30 #[V, .int .i64 left] w fun e w' => e = .returned (.int .i64 (szL x.1 left)) ∧ Below w.heap.size w w' := by
  obtain ⟨v, rfl, h9⟩ := kW_at h
  exact szInterest v x.1 _ _ _ w left h9 hl hs.1 h0 h1
theorem toWK (V : Value) (x : Wt) (w : World) (h : kW.At w V x) (hl : x.1.length ≤ 100000000) :
    Calls Tryd.prog 31 #[V] w fun e w' => ∃ U, e = .returned U ∧ kW.In w.heap.size w'.heap.size w' U x ∧ Below w.heap.size w w' := by
  obtain ⟨v, rfl, h9⟩ := kW_at h
  exact (toInterest v x.1 _ _ _ w h9 hl).mono fun e w' ⟨v, a, b, c⟩ => ⟨_, a, kW_own b, c⟩
theorem sameWK (V U : Value) (x : Wt) (w : World) (h : kW.At w V x) (g : kW.At w U x) (hl : x.1.length ≤ 100000000) :
    Calls Tryd.prog 32 #[V, U] w fun e w' => e = .returned (.bool true) ∧ Below w.heap.size w w' := by
  obtain ⟨v, rfl, h9⟩ := kW_at h
  obtain ⟨u, rfl, g9⟩ := kW_at g
  exact eqInterest v u x x w true (by simp) h9 g9 (by omega) (by omega)
/-- An interest whose name is marked. -/
def mkW (k : Int) (x : Wt) : Wt := (marks markT k x.1.length, x.2.1, x.2.2.1, x.2.2.2)
/-- An interest as it came in. -/
theorem open_want {H : Type} {enc : TypeId × Value → H} {P : Program} {w : World} {base b2 : Nat} {held : Bool} {t ep : TypeId} {v : Value} {d : DataW H} {p : List MemPlace} {f0 f1 f2 f3 g0 : Field}
    (he : P.underlying t = some (.struct #[f0, f1, f2, f3])) (hN : P.underlying f0.type = some (.struct #[g0])) (hg : P.underlying g0.type = some (.slice ep)) (hs : P.underlying ep = some .string) (hI1 : P.underlying f1.type = some (.int .i64)) (hI2 : P.underlying f2.type = some (.int .i64)) (hI3 : P.underlying f3.type = some (.int .i64))
    (ho0 : f0.offset = 0) (ho1 : f1.offset = 1) (ho2 : f2.offset = 2) (ho3 : f3.offset = 3) (hog : g0.offset = 0) (hc0 : P.cellsOf f0.type = 1) (hc1 : P.cellsOf f1.type = 1) (hc2 : P.cellsOf f2.type = 1) (hc3 : P.cellsOf f3.type = 1) (hcg : P.cellsOf g0.type = 1) (hcs : P.cellsOf ep = 1) (hC : P.cellsOf t = 4)
    (hv : Value.okWide P w .any base t v) (h : DataW.Trod enc P w b2 (fun _ => true) held t v d p) :
    ∃ x, kW.At w v x ∧ WfW x ∧ x.1.length ≤ 9223372036854775807 := by
  obtain ⟨cs, rfl, hcz⟩ := okWide_struct he hv
  obtain ⟨fuel, hfu⟩ := h
  obtain ⟨y0, y1, y2, y3, n2, -, -, q0, q1, q2, q3⟩ := Go.Joins.trod_struct4 he hfu
  rw [ho0, hc0] at q0
  rw [ho1, hc1] at q1
  rw [ho2, hc2] at q2
  rw [ho3, hc3] at q3
  obtain ⟨z0, n3, -, -, q0⟩ := trod_struct1 hN q0
  rw [hog, hcg] at q0
  obtain ⟨ad, k, c, l, e0, hh, hz, hln⟩ := open_strs1 hg hs hcs q0
  obtain ⟨v1, e1, -, w1⟩ := DataW.trod_int hI1 q1
  obtain ⟨v2, e2, -, w2⟩ := DataW.trod_int hI2 q2
  obtain ⟨v3, e3, -, w3⟩ := DataW.trod_int hI3 q3
  obtain ⟨u0, u1, u2, u3, rfl⟩ := Go.Joins.array4 (hcz.trans hC)
  simp [Value.cells] at e0 e1 e2 e3
  subst e0 e1 e2 e3
  refine ⟨(l, v1, v2, v3), kW_of (x := (l, v1, v2, v3)) hh, ⟨hz, w1, w2, w3⟩, hln⟩
end Go.Proofs.YtnnhgcfelkcpfaaDoor.Row
/- Chapter 7's functions, the model's and the program's, in the words of kinds: what an argument reads as, what a result is and where it lies. No conditions but that lengths fit. -/
namespace Go.Proofs.YtnnhgcfelkcpfaaDoor.Row
open Go.ChangeShapes Go.WideShapes Go.ChangeAt Go.RowKit Go.Instr
set_option linter.unusedVariables false
set_option maxRecDepth 100000

theorem appName_le (b : List Int) (l : List ByteArray) : (appName b l).length ≤ b.length + (6 + 6 * bulk l) := by
  have h1 := encPs_len l
  have h2 := Var.var_len l.length
  unfold appName encN
  split
  · simp only [List.length_append]; omega
  · omega
theorem rdN_len (b : List Int) (i : Int) : (rdN b i).1.length ≤ 6 := by
  by_cases h : (rdN b i).2.2 = true
  · exact (validN_iff.1 (rdN_valid h)).1
  · have : (rdN b i).1 = [] := by
      by_cases h0 : (Var.readV b i).2.2 = false ∨ 6 < (Var.readV b i).1
      · rw [rdN_no h0]
      · rw [rdN_go h0] at h ⊢
        cases hp : rdP (Var.readV b i).1.toNat b (Var.readV b i).2.1 [] with
        | none => rfl
        | some p =>
          obtain ⟨l, j⟩ := p
          rw [hp] at h
          by_cases hv : validN l = true
          · simp [hv] at h
          · simp only [hv]; rfl
    rw [this]; simp
theorem encW_le (x : Wt) : (encW x).length ≤ 24 + 6 * bulk x.1 := by
  have h1 := appName_len x.1
  have h2 := Sl.encs_len [x.2.1, x.2.2.1, x.2.2.2]
  have h3 : [x.2.1, x.2.2.1, x.2.2.2].length = 3 := rfl
  unfold encW
  split
  · rw [List.length_append]; omega
  · simp
theorem dcW_len (b : List Int) : (dcW b).1.1.length ≤ 6 := by
  unfold dcW
  split
  · exact rdN_len b 0
  · simp [w0]
theorem decW_len (x : Wt) : (decW x).1.length = x.1.length := by unfold decW; split <;> rfl
def eqW (x y : Wt) : Bool := decide (x = y)

section
variable {P : Program} {f : FuncId} {args : Array Value} {w : World}
theorem gB {l : List Int} (h : Calls P f args w (Sl.GivesB w l)) : Calls P f args w fun e w' => ∃ U, e = .returned U ∧ kB.In w.heap.size w'.heap.size w' U l ∧ Below w.heap.size w w' := h.mono fun e w' ⟨v, a, b, c⟩ => ⟨v, a, kB_own b, c⟩
theorem gN3 {l : List ByteArray} {n : Int} {ok : Bool} (h : Calls P f args w (GivesN3 w l n ok)) : Calls P f args w fun e w' => ∃ U, e = .returned (.tuple #[U, .int .i64 n, .bool ok]) ∧ kN.In w.heap.size w'.heap.size w' U l ∧ Below w.heap.size w w' := h.mono fun e w' ⟨v, a, b, c⟩ => ⟨_, a, kN_own b, c⟩
theorem gWB {x : Wt} {z : Bool} (h : Calls P f args w (GivesWB w x z)) : Calls P f args w fun e w' => ∃ U, e = .returned (.tuple #[U, .bool z]) ∧ kW.In w.heap.size w'.heap.size w' U x ∧ Below w.heap.size w w' := h.mono fun e w' ⟨v, a, b, c⟩ => ⟨_, a, kW_own b, c⟩
end
theorem specValidInterestK (V : Value) (x : Wt) (w : World) (h : kW.At w V x) (hl : bulk x.1 ≤ 9000000) :
    Calls Tryd.prog 29 #[V] w fun e w' => e = .returned (.bool (validW x)) ∧ Below w.heap.size w w' := by
  obtain ⟨v, rfl, h9⟩ := kW_at h
  exact specValidInterest v x w h9 hl
theorem specAppendNameK (V U : Value) (b : List Int) (l : List ByteArray) (w : World) (h : kB.At w V b) (g : kN.At w U l) (hb : b.length ≤ 2000000) (hl : bulk l ≤ 1200000) :
    Calls Tryd.prog 23 #[V, U] w fun e w' => ∃ U, e = .returned U ∧ kB.In w.heap.size w'.heap.size w' U (appName b l) ∧ Below w.heap.size w w' := by
  obtain ⟨u, rfl, g9⟩ := kN_at g
  exact gB (specAppendName V u b l w (kS_at h) g9 hb hl)
theorem specReadNameK (V : Value) (b : List Int) (i : Int) (w : World) (h : kB.At w V b) (hB : Sl.Byt b) (hl : b.length ≤ 100000000) :
    Calls Tryd.prog 14 #[V, .int .i64 i] w fun e w' => ∃ U, e = .returned (.tuple #[U, .int .i64 (rdN b i).2.1, .bool (rdN b i).2.2]) ∧ kN.In w.heap.size w'.heap.size w' U (rdN b i).1 ∧ Below w.heap.size w w' := by
  exact gN3 (specReadName V b i w (kS_at h) hB hl)
theorem specEncodeInterestK (V : Value) (x : Wt) (w : World) (h : kW.At w V x) (hl : bulk x.1 ≤ 1200000) :
    Calls Tryd.prog 20 #[V] w fun e w' => ∃ U, e = .returned U ∧ kB.In w.heap.size w'.heap.size w' U (encW x) ∧ Below w.heap.size w w' := by
  obtain ⟨v, rfl, h9⟩ := kW_at h
  exact gB (specEncodeInterest v x w h9 hl)
theorem specDecodeInterestK (V : Value) (b : List Int) (w : World) (h : kB.At w V b) (hB : Sl.Byt b) (hl : b.length ≤ 100000000) :
    Calls Tryd.prog 10 #[V] w fun e w' => ∃ U, e = .returned (.tuple #[U, .bool (dcW b).2]) ∧ kW.In w.heap.size w'.heap.size w' U (dcW b).1 ∧ Below w.heap.size w w' := by
  exact gWB (specDecodeInterest V b w (kS_at h) hB hl)
theorem specDecrementHopsK (V : Value) (x : Wt) (w : World) (h : kW.At w V x) (hl : x.1.length ≤ 9000000) (hb : x.2.2.1 ≤ 9223372036854775807) :
    Calls Tryd.prog 18 #[V] w fun e w' => ∃ U, e = .returned (.tuple #[U, .bool (decOk x)]) ∧ kW.In w.heap.size w'.heap.size w' U (decW x) ∧ Below w.heap.size w w' := by
  obtain ⟨v, rfl, h9⟩ := kW_at h
  exact gWB (specDecrementHops v x w h9 hl hb)
theorem implValidInterestK (V : Value) (x : Wt) (w : World) (h : kW.At w V x) (hl : bulk x.1 ≤ 9000000) :
    Calls Tryd.prog 28 #[V] w fun e w' => e = .returned (.bool (validW x)) ∧ Below w.heap.size w w' := by
  obtain ⟨v, rfl, h9⟩ := kW_at h
  exact implValidInterest v x w h9 hl
theorem implAppendNameK (V U : Value) (b : List Int) (l : List ByteArray) (w : World) (h : kB.At w V b) (g : kN.At w U l) (hb : b.length ≤ 2000000) (hl : bulk l ≤ 1200000) :
    Calls Tryd.prog 22 #[V, U] w fun e w' => ∃ U, e = .returned U ∧ kB.In w.heap.size w'.heap.size w' U (appName b l) ∧ Below w.heap.size w w' := by
  obtain ⟨u, rfl, g9⟩ := kN_at g
  exact gB (implAppendName V u b l w (kS_at h) g9 hb hl)
theorem implReadNameK (V : Value) (b : List Int) (i : Int) (w : World) (h : kB.At w V b) (hB : Sl.Byt b) (hl : b.length ≤ 100000000) :
    Calls Tryd.prog 13 #[V, .int .i64 i] w fun e w' => ∃ U, e = .returned (.tuple #[U, .int .i64 (rdN b i).2.1, .bool (rdN b i).2.2]) ∧ kN.In w.heap.size w'.heap.size w' U (rdN b i).1 ∧ Below w.heap.size w w' := by
  exact gN3 (implReadName V b i w (kS_at h) hB hl)
theorem implEncodeInterestK (V : Value) (x : Wt) (w : World) (h : kW.At w V x) (hl : bulk x.1 ≤ 1200000) :
    Calls Tryd.prog 7 #[V] w fun e w' => ∃ U, e = .returned U ∧ kB.In w.heap.size w'.heap.size w' U (encW x) ∧ Below w.heap.size w w' := by
  obtain ⟨v, rfl, h9⟩ := kW_at h
  exact gB (implEncodeInterest v x w h9 hl)
theorem implDecodeInterestK (V : Value) (b : List Int) (w : World) (h : kB.At w V b) (hB : Sl.Byt b) (hl : b.length ≤ 100000000) :
    Calls Tryd.prog 9 #[V] w fun e w' => ∃ U, e = .returned (.tuple #[U, .bool (dcW b).2]) ∧ kW.In w.heap.size w'.heap.size w' U (dcW b).1 ∧ Below w.heap.size w w' := by
  exact gWB (implDecodeInterest V b w (kS_at h) hB hl)
theorem implDecrementHopsK (V : Value) (x : Wt) (w : World) (h : kW.At w V x) (hl : x.1.length ≤ 9000000) (hb : x.2.2.1 ≤ 9223372036854775807) :
    Calls Tryd.prog 17 #[V] w fun e w' => ∃ U, e = .returned (.tuple #[U, .bool (decOk x)]) ∧ kW.In w.heap.size w'.heap.size w' U (decW x) ∧ Below w.heap.size w w' := by
  obtain ⟨v, rfl, h9⟩ := kW_at h
  exact gWB (implDecrementHops v x w h9 hl hb)
theorem implEqualInterestsK (V U : Value) (x y : Wt) (w : World) (h : kW.At w V x) (g : kW.At w U y) (hl : x.1.length ≤ 9000000) (hm : y.1.length ≤ 9000000) :
    Calls Tryd.prog 25 #[V, U] w fun e w' => e = .returned (.bool (eqW x y)) ∧ Below w.heap.size w w' := by
  obtain ⟨v, rfl, h9⟩ := kW_at h
  obtain ⟨u, rfl, g9⟩ := kW_at g
  exact implEqualInterests v u x y w _ rfl h9 g9 hl hm
end Go.Proofs.YtnnhgcfelkcpfaaDoor.Row
/- Plain mathematics of chapter 7's encodings: what is encoded is read back, what is read is what is encoded. No conditions but those that are named. -/
namespace Go.Proofs.YtnnhgcfelkcpfaaDoor.Row
open Go.RowKit
set_option linter.unusedVariables false
set_option maxRecDepth 100000

/-! ### what is read is what is encoded -/
theorem nums_back {l : List Int} (h : Sl.Byt l) : Sl.bytesOf (strOfNums l) = l := by
  unfold Sl.bytesOf
  rw [strOfNums_data, List.map_map]
  conv => rhs; rw [← List.map_id l]
  apply List.map_congr_left
  intro x hx
  have := h x hx
  simp only [Function.comp, id, UInt8.toNat_ofNat']
  omega
theorem take_drop_take (l : List Int) {a n : Nat} : l.take a ++ (l.drop a).take n = l.take (a + n) := by rw [List.take_add]
theorem readB_back {l : List Int} {i most : Int} (hB : Sl.Byt l) (h : (Sl.readB l i most).2.2 = true) :
    0 ≤ i ∧ i ≤ (Sl.readB l i most).2.1 ∧ (Sl.readB l i most).2.1 ≤ l.length ∧ Sl.Byt (Sl.readB l i most).1 ∧ l.take i.toNat ++ (Var.var (Sl.readB l i most).1.length ++ (Sl.readB l i most).1) = l.take (Sl.readB l i most).2.1.toNat := by
  by_cases h0 : (Var.readV l i).2.2 = false ∨ most < (Var.readV l i).1 ∨ (l.length : Int) - (Var.readV l i).2.1 < (Var.readV l i).1
  · rw [Sl.readB_no h0] at h; cases h
  · have hv : (Var.readV l i).2.2 = true := by
      cases e : (Var.readV l i).2.2 with
      | true => rfl
      | false => exact absurd (Or.inl e) h0
    obtain ⟨b1, b2, b3, b4⟩ := Var.enc_readV hB hv
    have bd := Sl.readV_bounds hB hv
    have h2 : ¬ ((l.length : Int) - (Var.readV l i).2.1 < (Var.readV l i).1) := fun e => h0 (Or.inr (Or.inr e))
    rw [Sl.readB_yes h0]
    simp only
    obtain ⟨n, hn⟩ : ∃ n : Nat, (Var.readV l i).1 = n := Int.eq_ofNat_of_zero_le bd.1
    obtain ⟨j, hj⟩ : ∃ j : Nat, (Var.readV l i).2.1 = j := Int.eq_ofNat_of_zero_le (by omega)
    rw [hj] at b2 b3
    rw [hn, hj] at b4 h2
    rw [hn, hj]
    have hl : ((l.drop j).take n).length = n := by rw [List.length_take, List.length_drop]; omega
    refine ⟨b1, by omega, by omega, fun x hx => hB x (List.mem_of_mem_drop (List.mem_of_mem_take hx)), ?_⟩
    rw [Int.toNat_natCast, Int.toNat_natCast, hl, ← List.append_assoc, b4, Int.toNat_natCast, show ((j : Int) + (n : Int)).toNat = j + n by omega, List.take_add]
theorem rdP_back : ∀ (k : Nat) (b : List Int) (i : Int) (acc l : List ByteArray) (j : Int), Sl.Byt b → 0 ≤ i → i ≤ b.length → rdP k b i acc = some (l, j) →
    ∃ r, l = acc ++ r ∧ r.length = k ∧ i ≤ j ∧ j ≤ b.length ∧ b.take i.toNat ++ encPs r = b.take j.toNat
  | 0, b, i, acc, l, j, _, h0, h1, h => by
    simp only [rdP, Option.some.injEq, Prod.mk.injEq] at h
    obtain ⟨rfl, rfl⟩ := h
    exact ⟨[], by simp, rfl, by omega, h1, by simp [encPs]⟩
  | k + 1, b, i, acc, l, j, hB, h0, h1, h => by
    unfold rdP at h
    by_cases hr : (Sl.readB b i 8).2.2 = true
    · rw [if_pos hr] at h
      obtain ⟨b1, b2, b3, b4, b5⟩ := readB_back hB hr
      obtain ⟨r, e1, e2, e3, e4, e5⟩ := rdP_back k b _ _ l j hB (by omega) b3 h
      refine ⟨strOfNums (Sl.readB b i 8).1 :: r, by rw [e1, List.append_assoc]; rfl, by simp [e2], by omega, e4, ?_⟩
      have : encPs (strOfNums (Sl.readB b i 8).1 :: r) = (Var.var (Sl.readB b i 8).1.length ++ (Sl.readB b i 8).1) ++ encPs r := by
        show (Var.var (strOfNums (Sl.readB b i 8).1).size ++ Sl.bytesOf (strOfNums (Sl.readB b i 8).1)) ++ encPs r = _
        rw [strOfNums_size, nums_back b4]
      rw [this, ← List.append_assoc, b5, e5]
    · rw [if_neg hr] at h; cases h
theorem rdN_back {b : List Int} {i : Int} (hB : Sl.Byt b) (h : (rdN b i).2.2 = true) :
    0 ≤ i ∧ i ≤ (rdN b i).2.1 ∧ (rdN b i).2.1 ≤ b.length ∧ appName (b.take i.toNat) (rdN b i).1 = b.take (rdN b i).2.1.toNat := by
  have hv := rdN_valid h
  by_cases h0 : (Var.readV b i).2.2 = false ∨ 6 < (Var.readV b i).1
  · rw [rdN_no h0] at h; cases h
  · have hr : (Var.readV b i).2.2 = true := by
      cases e : (Var.readV b i).2.2 with
      | true => rfl
      | false => exact absurd (Or.inl e) h0
    obtain ⟨b1, b2, b3, b4⟩ := Var.enc_readV hB hr
    have bd := Sl.readV_bounds hB hr
    obtain ⟨n, hn⟩ : ∃ n : Nat, (Var.readV b i).1 = n := Int.eq_ofNat_of_zero_le bd.1
    rw [rdN_go h0] at h hv ⊢
    rw [hn] at h hv b4 ⊢
    rw [Int.toNat_natCast] at h hv ⊢
    cases hp : rdP n b (Var.readV b i).2.1 [] with
    | none => rw [hp] at h; cases h
    | some p =>
      obtain ⟨l, j⟩ := p
      rw [hp] at h hv
      by_cases hval : validN l = true
      · obtain ⟨r, e1, e2, e3, e4, e5⟩ := rdP_back n b _ [] l j hB (by omega) b3 hp
        rw [List.nil_append] at e1
        subst e1
        simp only [hval, if_true]
        refine ⟨b1, by omega, e4, ?_⟩
        unfold appName
        rw [if_pos hval]
        unfold encN
        rw [e2, ← List.append_assoc, b4, e5]
      · simp [hval] at h
theorem decA_back : ∀ (k : Nat) (l : List Int) (i : Int) (acc : List Int), Sl.Byt l → 0 ≤ i → i ≤ l.length → (Sl.decA k l i acc).2.2 = true →
    ∃ s, (Sl.decA k l i acc).1 = acc ++ s ∧ i ≤ (Sl.decA k l i acc).2.1 ∧ (Sl.decA k l i acc).2.1 ≤ l.length ∧ l.take i.toNat ++ Sl.encs s = l.take (Sl.decA k l i acc).2.1.toNat
  | 0, l, i, acc, _, h0, h1, _ => ⟨[], by simp [Sl.decA], by simp [Sl.decA], by simpa [Sl.decA] using h1, by simp [Sl.decA, Sl.encs]⟩
  | k + 1, l, i, acc, hB, h0, h1, h => by
    by_cases hr : (Var.readV l i).2.2 = true
    · obtain ⟨b1, b2, b3, b4⟩ := Var.enc_readV hB hr
      simp only [Sl.decA, if_pos hr] at h ⊢
      obtain ⟨s, e1, e2, e3, e4⟩ := decA_back k l _ (acc ++ [(Var.readV l i).1]) hB (by omega) b3 h
      refine ⟨(Var.readV l i).1 :: s, by rw [e1, List.append_assoc]; rfl, by omega, e3, ?_⟩
      have : Sl.encs ((Var.readV l i).1 :: s) = Var.var (Var.readV l i).1 ++ Sl.encs s := by simp [Sl.encs]
      rw [this, ← List.append_assoc, b4, e4]
    · simp only [Sl.decA, if_neg hr] at h; cases h
theorem three {l : List Int} (h : l.length = 3) : l = [Sl.nth l 0, Sl.nth l 1, Sl.nth l 2] := by
  match l, h with
  | [a, b, c], _ => rfl
/-- A decoded interest is valid, and its encoding is what was read. -/
theorem dcW_back {c : List Int} (hB : Sl.Byt c) (h : (dcW c).2 = true) : validW (dcW c).1 = true ∧ encW (dcW c).1 = c := by
  by_cases hc : (rdN c 0).2.2 = true ∧ (Sl.readIs c (rdN c 0).2.1 3).2.2 = true ∧ (Sl.readIs c (rdN c 0).2.1 3).2.1 = c.length ∧ validW (gotW c) = true
  · rw [dcW_yes hc]
    refine ⟨hc.2.2.2, ?_⟩
    obtain ⟨a1, a2, a3, a4⟩ := rdN_back hB hc.1
    have hs : (0 : Int) ≤ 3 ∧ (3 : Int) ≤ 100 := by omega
    have h3 := readI3 hc.2.1
    have hi := hc.2.1
    have hn := hc.2.2.1
    have e3 := three h3
    rw [Sl.readIs_yes ⟨hs, a2, a3⟩] at hi hn e3
    obtain ⟨s, e1, e2, -, e4⟩ := decA_back (3 : Int).toNat c (rdN c 0).2.1 [] hB a2 a3 hi
    rw [List.nil_append] at e1
    unfold encW
    rw [if_pos hc.2.2.2]
    unfold gotW
    rw [Sl.readIs_yes ⟨hs, a2, a3⟩]
    simp only
    rw [← e3, e1]
    have h0 : c.take (0 : Int).toNat = [] := by simp
    rw [h0] at a4
    rw [a4, e4, hn, Int.toNat_natCast, List.take_length]
  · rw [dcW_no hc] at h; cases h

/-! ### what is encoded is read back -/
theorem str_back (s : ByteArray) : strOfNums (Sl.bytesOf s) = s := by
  obtain ⟨⟨d⟩⟩ := s
  unfold strOfNums Sl.bytesOf
  simp only [List.map_map]
  congr 1
  congr 1
  conv => rhs; rw [← List.map_id d]
  apply List.map_congr_left
  intro x hx
  simp only [Function.comp, id, Int.toNat_natCast, UInt8.ofNat_toNat]
theorem readB_enc (a s b : List Int) (hs : s.length ≤ 8) : Sl.readB (a ++ (Var.var s.length ++ s) ++ b) a.length 8 = (s, (a.length : Int) + ((Var.var s.length ++ s).length : Int), true) := by
  have e := Var.readV_enc a (s ++ b) (n := (s.length : Int)) (by omega) (by omega)
  have e0 : a ++ (Var.var s.length ++ s) ++ b = a ++ Var.var s.length ++ (s ++ b) := by simp
  rw [e0, Sl.readB_yes (by rw [e]; simp; omega), e]
  simp only [Prod.mk.injEq, and_true]
  refine ⟨?_, by simp; omega⟩
  rw [show ((a.length : Int) + ((Var.var (s.length : Int)).length : Int)).toNat = (a ++ Var.var s.length).length by rw [List.length_append]; omega, List.drop_left, Int.toNat_natCast, List.take_left]
theorem rdP_enc : ∀ (l : List ByteArray) (a b : List Int) (acc : List ByteArray), (∀ s ∈ l, s.size ≤ 8) → rdP l.length (a ++ encPs l ++ b) a.length acc = some (acc ++ l, (a.length : Int) + ((encPs l).length : Int))
  | [], a, b, acc, _ => by simp [rdP, encPs]
  | s :: l, a, b, acc, h => by
    have h8 := h s (by simp)
    have e0 : encPs (s :: l) = (Var.var (Sl.bytesOf s).length ++ Sl.bytesOf s) ++ encPs l := by rw [Sl.bytesOf_length]; rfl
    have er := readB_enc a (Sl.bytesOf s) (encPs l ++ b) (by rw [Sl.bytesOf_length]; exact h8)
    have e1 : a ++ encPs (s :: l) ++ b = a ++ (Var.var (Sl.bytesOf s).length ++ Sl.bytesOf s) ++ (encPs l ++ b) := by rw [e0]; simp
    have ih := rdP_enc l (a ++ (Var.var (Sl.bytesOf s).length ++ Sl.bytesOf s)) b (acc ++ [s]) (fun t ht => h t (by simp [ht]))
    have e2 : a ++ (Var.var (Sl.bytesOf s).length ++ Sl.bytesOf s) ++ encPs l ++ b = a ++ (Var.var (Sl.bytesOf s).length ++ Sl.bytesOf s) ++ (encPs l ++ b) := by simp
    rw [e2] at ih
    rw [List.length_cons, e1]
    unfold rdP
    rw [er]
    simp only [if_true, str_back]
    rw [show (a.length : Int) + ((Var.var ((Sl.bytesOf s).length : Int) ++ Sl.bytesOf s).length : Int) = ((a ++ (Var.var (Sl.bytesOf s).length ++ Sl.bytesOf s)).length : Int) by simp only [List.length_append]; omega, ih, e0]
    simp only [Option.some.injEq, Prod.mk.injEq]
    refine ⟨by simp, by simp; omega⟩
theorem rdN_enc (a b : List Int) {l : List ByteArray} (h : validN l = true) : rdN (a ++ encN l ++ b) a.length = (l, (a.length : Int) + ((encN l).length : Int), true) := by
  obtain ⟨h6, hp⟩ := validN_iff.1 h
  have e := Var.readV_enc a (encPs l ++ b) (n := (l.length : Int)) (by omega) (by omega)
  have e0 : a ++ encN l ++ b = a ++ Var.var l.length ++ (encPs l ++ b) := by unfold encN; simp
  rw [e0, rdN_go (by rw [e]; simp; omega), e]
  have ep := rdP_enc l (a ++ Var.var l.length) b [] (fun s hs => (validP_iff.1 (hp s hs)).2.1)
  have e1 : a ++ Var.var l.length ++ encPs l ++ b = a ++ Var.var l.length ++ (encPs l ++ b) := by simp
  rw [e1] at ep
  simp only [Int.toNat_natCast]
  rw [show (a.length : Int) + ((Var.var (l.length : Int)).length : Int) = ((a ++ Var.var l.length).length : Int) by rw [List.length_append]; omega, ep]
  simp only [List.nil_append, h, if_true, Prod.mk.injEq, true_and, and_true]
  unfold encN
  simp; omega
theorem decA_enc : ∀ (s a acc : List Int), (∀ x ∈ s, 0 ≤ x ∧ x ≤ 1000000000000) → Sl.decA s.length (a ++ Sl.encs s) a.length acc = (acc ++ s, ((a ++ Sl.encs s).length : Int), true)
  | [], a, acc, _ => by simp [Sl.decA, Sl.encs]
  | x :: s, a, acc, h => by
    have hx := h x (by simp)
    have e := Var.readV_enc a (Sl.encs s) hx.1 hx.2
    have e0 : a ++ Sl.encs (x :: s) = a ++ Var.var x ++ Sl.encs s := by simp [Sl.encs]
    have ih := decA_enc s (a ++ Var.var x) (acc ++ [x]) (fun y hy => h y (by simp [hy]))
    rw [List.length_cons, e0]
    simp only [Sl.decA]
    rw [e]
    simp only [if_true]
    rw [show (a.length : Int) + ((Var.var x).length : Int) = ((a ++ Var.var x).length : Int) by rw [List.length_append]; omega, ih]
    simp
theorem readIs_enc (a : List Int) {x y z : Int} (hx : 0 ≤ x ∧ x ≤ 1000000000000) (hy : 0 ≤ y ∧ y ≤ 1000000000000) (hz : 0 ≤ z ∧ z ≤ 1000000000000) :
    Sl.readIs (a ++ Sl.encs [x, y, z]) a.length 3 = ([x, y, z], ((a ++ Sl.encs [x, y, z]).length : Int), true) := by
  rw [Sl.readIs_yes ⟨by omega, by omega, by simp; omega⟩]
  have := decA_enc [x, y, z] a [] (fun w hw => by
    simp only [List.mem_cons, List.not_mem_nil, or_false] at hw
    rcases hw with rfl | rfl | rfl
    · exact hx
    · exact hy
    · exact hz)
  exact this
theorem validW_parts {x : Wt} (h : validW x = true) : validN x.1 = true ∧ (0 ≤ x.2.1 ∧ x.2.1 ≤ 1000000) ∧ (0 ≤ x.2.2.1 ∧ x.2.2.1 ≤ 16) ∧ (1 ≤ x.2.2.2 ∧ x.2.2.2 ≤ 20) := by
  refine ⟨?_, validW_in h, ?_, ?_⟩
  · cases e : validN x.1 with
    | true => rfl
    | false => rw [validW_no1 e] at h; cases h
  · by_cases h3 : 0 ≤ x.2.2.1 ∧ x.2.2.1 ≤ 16
    · exact h3
    · rw [validW_no4 h3] at h; cases h
  · by_cases h3 : 1 ≤ x.2.2.2 ∧ x.2.2.2 ≤ 20
    · exact h3
    · rw [validW_no5 h3] at h; cases h
/-- An interest's encoding is read back; what is not valid is encoded as nothing, and nothing is read from that. -/
theorem dcW_enc (x : Wt) : dcW (encW x) = if validW x = true then (x, true) else (w0, false) := by
  by_cases hv : validW x = true
  · rw [if_pos hv]
    obtain ⟨h1, h2, h3, h4⟩ := validW_parts hv
    have e0 : encW x = [] ++ encN x.1 ++ Sl.encs [x.2.1, x.2.2.1, x.2.2.2] := by
      unfold encW appName
      rw [if_pos hv, if_pos h1]
    have er := rdN_enc [] (Sl.encs [x.2.1, x.2.2.1, x.2.2.2]) h1
    rw [← e0] at er
    have ei := readIs_enc ([] ++ encN x.1) (x := x.2.1) (y := x.2.2.1) (z := x.2.2.2) (by omega) (by omega) (by omega)
    rw [← e0] at ei
    have hn : (rdN (encW x) 0) = (x.1, (([] ++ encN x.1).length : Int), true) := by
      have : ((([] : List Int).length : Nat) : Int) = 0 := rfl
      rw [this] at er
      rw [er]
      simp
    have hg : gotW (encW x) = x := by
      unfold gotW
      rw [hn]
      simp only
      rw [ei]
      rfl
    rw [dcW_yes ⟨by rw [hn], by rw [hn]; simp only; rw [ei], by rw [hn]; simp only; rw [ei], by rw [hg]; exact hv⟩, hg]
  · rw [if_neg hv]
    have e0 : encW x = [] := if_neg hv
    rw [e0]
    refine dcW_no (fun e => ?_)
    have h1 := e.1
    have h2 : (Var.readV ([] : List Int) 0).2.2 = false := by decide
    rw [rdN_no (Or.inl h2)] at h1
    cases h1
theorem decW_less {x : Wt} (h : decOk x = true) : (decW x).2.2.1 = x.2.2.1 - 1 ∧ 0 ≤ x.2.2.1 - 1 := by
  have h1 : 1 ≤ x.2.2.1 := of_decide_eq_true h
  unfold decW
  rw [if_neg (by omega)]
  exact ⟨rfl, by omega⟩
end Go.Proofs.YtnnhgcfelkcpfaaDoor.Row
/- Contracts of FormatInterest, the program's and the model's: the name's text, a question mark, the nonce. No conditions but that lengths fit. -/
namespace Go.Proofs.YtnnhgcfelkcpfaaDoor.Row
open Go.ChangeShapes Go.WideShapes Go.ChangeAt Go.RowKit Go.Instr
set_option linter.unusedVariables false
set_option maxRecDepth 100000

/-- An interest's text. -/
def fmtW (x : Wt) : ByteArray := fmtS x.1 ++ mk [63] ++ Text.str (Lib.itoa x.2.1)
theorem keepF {W : World} {g : Nat} {v : Value} {a b c : Int} {t : TypeId} (h : Ret.Blk W g (wc v a b c) t) : W.cell? ⟨g, 0, none⟩ = some v ∧ W.cell? ⟨g, 1, none⟩ = some (.int .i64 a) := ⟨h.cell 0, h.cell 1⟩
theorem fmt_le (m : List ByteArray) : (fmtS m).size ≤ bulk m + 1 := by
  by_cases h : m = []
  · subst h
    have h9 : (fmtS []).size = 1 := by decide
    omega
  · rw [← fT_all h]
    have := fT_le m (Nat.le_refl m.length)
    omega

set_option maxHeartbeats 4000000 in
theorem implFormatInterest (v : Value) (x : Wt) (w : World) (h : Holds Value.string w v x.1) (hl : bulk x.1 ≤ 100000000) (w0 : (Lit.int .i64 x.2.1).wf = true) (ht : Text.Tab w) :
    Calls Tryd.prog 26 #[.agg (wc v x.2.1 x.2.2.1 x.2.2.2)] w fun e w' => e = .returned (.string (fmtW x)) ∧ Below w.heap.size w w' := by
  obtain ⟨l, a, b, c⟩ := x
  simp only at h hl w0 ⊢
  obtain ⟨y, q, cy, rfl, hq, hcy, hg⟩ := h.shapeN
  have hb0 := ((Below.refl w.heap.size w).alloc (Nat.le_refl _) (.cells (wc (.slice y q cy) a b c) 28)).drew
  have HB := Lib.hid hb0
  have HG := Lib.hid (hg.on hb0)
  have X0 := Lib.hid (show Ret.Blk (w.alloc (.cells (wc (.slice y q cy) a b c) 28)).drew w.heap.size (wc (.slice y q cy) a b c) 28 from Ret.Blk.new w (wc (.slice y q cy) a b c) 28)
  have HBL := Lib.hid hl; have HW0 := Lib.hid w0
  have HTB := Lib.hid (ht.on hb0); clear ht
  have HS := Lib.hid (fmt_le l)
  have hz1 : (mk [63]).size = 1 := mk_size _
  have hz2 := Text.itoa_size a w0
  obtain ⟨t, ht9⟩ : ∃ t, t = fmtS l := ⟨_, rfl⟩
  obtain ⟨u, hu9⟩ : ∃ u, u = Text.str (Lib.itoa a) := ⟨_, rfl⟩
  have HFV : Hid (fmtW (l, a, b, c) = t ++ mk [63] ++ u) := Lib.hid (by rw [ht9, hu9]; rfl)
  have hs9 : t.size ≤ 100000001 := by rw [ht9]; have := HS.out; omega
  have hs8 : u.size ≤ 21 := by rw [hu9]; exact hz2
  have HT := Lib.hid ht9; have HU := Lib.hid hu9
  have k1 : ¬ (9223372036854775807 < t.size + 1) := by omega
  have k2 : ¬ (9223372036854775807 < t.size + 1 + u.size) := by omega
  have k3 : t.size ≤ 9223372036854775806 := by omega
  clear h hg hq hb0 hz2 ht9 hu9 w0
  go_enter Tryd.func26, Tryd.ntmps26
  go_wp2_with fail
  go_region_held3 (fun w' => w'.cell? ⟨w.heap.size, 0, none⟩ = some (.slice y q cy) ∧ w'.cell? ⟨w.heap.size, 1, none⟩ = some (.int .i64 a)) (first | with_reducible exact keepF X0.out | with_reducible exact keepF (X0.out.on hb5) | with_reducible exact keepF ((X0.out.on hb5).on hb6)) (first | (go_at_call 65; refine (Text.implFormat a _ HW0.out (HTB.out.on hb5)).mono ?_; rintro e w6 ⟨rfl, hb6⟩; rw [← HU.out]) | (go_at_call 64; refine (implFormatName _ l _ HG.out HBL.out).mono ?_; rintro e w5 ⟨rfl, hb5⟩; rw [← HT.out]))
  all_goals
    go_wp2_with fail
    go_ret
    exact ⟨by rw [HFV.out]; rfl, (HB.out.trans (hb5.mono HB.out.size)).trans (hb6.mono (Nat.le_trans HB.out.size hb5.size))⟩
theorem implFormatInterestK (V : Value) (x : Wt) (w : World) (h : kW.At w V x) (hl : bulk x.1 ≤ 100000000) (w0 : WfW x) (ht : Text.Tab w) :
    Calls Tryd.prog 26 #[V] w fun e w' => e = .returned (.string (fmtW x)) ∧ Below w.heap.size w w' := by
  obtain ⟨v, rfl, h9⟩ := kW_at h
  exact implFormatInterest v x w h9 hl w0.2.1 ht

set_option maxHeartbeats 4000000 in
theorem specFormatInterest (v : Value) (x : Wt) (w : World) (h : Holds Value.string w v x.1) (hl : bulk x.1 ≤ 100000000) (w0 : (Lit.int .i64 x.2.1).wf = true) :
    Calls Tryd.prog 27 #[.agg (wc v x.2.1 x.2.2.1 x.2.2.2)] w fun e w' => e = .returned (.string (fmtW x)) ∧ Below w.heap.size w w' := by
  obtain ⟨l, a, b, c⟩ := x
  simp only at h hl w0 ⊢
  obtain ⟨y, q, cy, rfl, hq, hcy, hg⟩ := h.shapeN
  have hb0 := ((Below.refl w.heap.size w).alloc (Nat.le_refl _) (.cells (wc (.slice y q cy) a b c) 28)).drew
  have HB := Lib.hid hb0
  have HG := Lib.hid (hg.on hb0)
  have X0 := Lib.hid (show Ret.Blk (w.alloc (.cells (wc (.slice y q cy) a b c) 28)).drew w.heap.size (wc (.slice y q cy) a b c) 28 from Ret.Blk.new w (wc (.slice y q cy) a b c) 28)
  have HBL := Lib.hid hl; have HW0 := Lib.hid w0
  have HS := Lib.hid (fmt_le l)
  have hz1 : (mk [63]).size = 1 := mk_size _
  have hz2 := Text.itoa_size a w0
  obtain ⟨t, ht9⟩ : ∃ t, t = fmtS l := ⟨_, rfl⟩
  obtain ⟨u, hu9⟩ : ∃ u, u = Text.str (Lib.itoa a) := ⟨_, rfl⟩
  have HFV : Hid (fmtW (l, a, b, c) = t ++ mk [63] ++ u) := Lib.hid (by rw [ht9, hu9]; rfl)
  have hs9 : t.size ≤ 100000001 := by rw [ht9]; have := HS.out; omega
  have hs8 : u.size ≤ 21 := by rw [hu9]; exact hz2
  have HT := Lib.hid ht9; have HU := Lib.hid hu9
  have k1 : ¬ (9223372036854775807 < t.size + 1) := by omega
  have k2 : ¬ (9223372036854775807 < t.size + 1 + u.size) := by omega
  have k3 : t.size ≤ 9223372036854775806 := by omega
  clear h hg hq hb0 hz2 ht9 hu9 w0
  go_enter Tryd.func27, Tryd.ntmps27
  go_wp2_with fail
  go_region_held3 (fun w' => w'.cell? ⟨w.heap.size, 0, none⟩ = some (.slice y q cy) ∧ w'.cell? ⟨w.heap.size, 1, none⟩ = some (.int .i64 a)) (first | with_reducible exact keepF X0.out | with_reducible exact keepF (X0.out.on hb5) | with_reducible exact keepF ((X0.out.on hb5).on hb6)) (first | (go_at_call 67; refine (Text.specFormat a _ HW0.out).mono ?_; rintro e w6 ⟨rfl, hb6⟩; rw [← HU.out]) | (go_at_call 66; refine (specFormatName _ l _ HG.out HBL.out).mono ?_; rintro e w5 ⟨rfl, hb5⟩; rw [← HT.out]))
  all_goals
    go_wp2_with fail
    go_ret
    exact ⟨by rw [HFV.out]; rfl, (HB.out.trans (hb5.mono HB.out.size)).trans (hb6.mono (Nat.le_trans HB.out.size hb5.size))⟩
theorem specFormatInterestK (V : Value) (x : Wt) (w : World) (h : kW.At w V x) (hl : bulk x.1 ≤ 100000000) (w0 : WfW x) :
    Calls Tryd.prog 27 #[V] w fun e w' => e = .returned (.string (fmtW x)) ∧ Below w.heap.size w w' := by
  obtain ⟨v, rfl, h9⟩ := kW_at h
  exact specFormatInterest v x w h9 hl w0.2.1
end Go.Proofs.YtnnhgcfelkcpfaaDoor.Row
/- What FnWants uses besides the contracts: interests compared, contracts in the law's words. No conditions but that lengths fit. -/
namespace Go.Proofs.YtnnhgcfelkcpfaaDoor.Row
open Go.ChangeShapes Go.WideShapes Go.ChangeAt Go.RowKit Go.Instr
set_option linter.unusedVariables false
set_option maxRecDepth 100000

set_option maxHeartbeats 2000000 in
theorem sameWant (v u : Value) (x y : Wt) (w : World) (q : Bool) (hq : decide (x = y) = q) (h : Holds Value.string w v x.1) (g : Holds Value.string w u y.1) (hl : x.1.length ≤ 9000000) (hm : y.1.length ≤ 9000000) :
    Calls Tryd.prog 21 #[.agg (wc v x.2.1 x.2.2.1 x.2.2.2), .agg (wc u y.2.1 y.2.2.1 y.2.2.2)] w fun e w' => e = .returned (.bool q) ∧ Below w.heap.size w w' := by
  obtain ⟨ps, a1, a2, a3⟩ := x
  obtain ⟨qs, b1, b2, b3⟩ := y
  simp only at h g hl hm ⊢
  obtain ⟨x, n, cap, rfl, -, hcap, hh⟩ := h.shapeN
  obtain ⟨y, m, cap', rfl, -, hcap', hg⟩ := g.shapeN
  have hb0 := (Below.refl w.heap.size w).alloc (Nat.le_refl _) (.cells (wc (.slice x n cap) a1 a2 a3) 28)
  have HB := Lib.hid (hb0.alloc (by simp) (.cells (wc (.slice y m cap') b1 b2 b3) 28))
  have HH := Lib.hid (hh.on HB.out); have HG := Lib.hid (hg.on HB.out)
  have X0 := Lib.hid ((Ret.Blk.new w (wc (.slice x n cap) a1 a2 a3) 28).on ((Below.refl _ _).alloc (Nat.le_refl _) (.cells (wc (.slice y m cap') b1 b2 b3) 28)))
  have X1 := Lib.hid (Ret.Blk.new' (w := w.alloc (.cells (wc (.slice x n cap) a1 a2 a3) 28)) (n := w.heap.size + 1) (wc (.slice y m cap') b1 b2 b3) 28 (by simp))
  have HQ := Lib.hid hq
  clear hh hg h g hq hb0
  go_enter Tryd.func21, Tryd.ntmps21
  go_wp2_with fail
  refine (sameName _ _ ps qs _ HH.out HG.out (by omega) (by omega)).mono ?_
  rintro e w1 ⟨rfl, hb⟩
  have Y0 := Lib.hid (X0.out.on hb); have Y1 := Lib.hid (X1.out.on hb)
  have HB2 := Lib.hid (HB.out.trans (hb.mono HB.out.size)); clear hb X0 X1
  have q1 : w1.cell? ⟨w.heap.size, 1, none⟩ = some (.int .i64 a1) := Y0.out.cell 1
  have q2 : w1.cell? ⟨w.heap.size, 2, none⟩ = some (.int .i64 a2) := Y0.out.cell 2
  have q3 : w1.cell? ⟨w.heap.size, 3, none⟩ = some (.int .i64 a3) := Y0.out.cell 3
  have r1 : w1.cell? ⟨w.heap.size + 1, 1, none⟩ = some (.int .i64 b1) := Y1.out.cell 1
  have r2 : w1.cell? ⟨w.heap.size + 1, 2, none⟩ = some (.int .i64 b2) := Y1.out.cell 2
  have r3 : w1.cell? ⟨w.heap.size + 1, 3, none⟩ = some (.int .i64 b3) := Y1.out.cell 3
  by_cases he : ps = qs
  · rw [eqB_true he]
    by_cases h1 : a1 = b1
    · have t1 : (a1 == b1) = true := by simp [h1]
      by_cases h2 : a2 = b2
      · have t2 : (a2 == b2) = true := by simp [h2]
        obtain ⟨z, hz⟩ : ∃ z, (a3 == b3) = z := ⟨_, rfl⟩
        have HE : Hid (q = z) := Lib.hid (by rw [← HQ.out, ← hz]; simp [he, h1, h2]; rfl)
        clear he h1 h2
        go_wp2
        go_ret
        exact ⟨ret_bool HE.out.symm, HB2.out⟩
      · have t2 : (a2 == b2) = false := by simpa using h2
        have HE : Hid (q = false) := Lib.hid (by rw [← HQ.out]; simp [h2])
        clear he h1 h2
        go_wp2
        go_ret
        exact ⟨ret_bool HE.out.symm, HB2.out⟩
    · have t1 : (a1 == b1) = false := by simpa using h1
      have HE : Hid (q = false) := Lib.hid (by rw [← HQ.out]; simp [h1])
      clear he h1
      go_wp2
      go_ret
      exact ⟨ret_bool HE.out.symm, HB2.out⟩
  · rw [eqB_false he]
    have HE : Hid (q = false) := Lib.hid (by rw [← HQ.out]; simp [he])
    clear he
    go_wp2
    go_ret
    exact ⟨ret_bool HE.out.symm, HB2.out⟩

theorem dcW_bulk (b : List Int) : bulk (dcW b).1.1 ≤ 1000 := by
  by_cases hc : (rdN b 0).2.2 = true ∧ (Sl.readIs b (rdN b 0).2.1 3).2.2 = true ∧ (Sl.readIs b (rdN b 0).2.1 3).2.1 = b.length ∧ validW (gotW b) = true
  · rw [dcW_yes hc]
    have := bulk_valid (rdN_valid hc.1)
    show bulk (rdN b 0).1 ≤ 1000
    omega
  · rw [dcW_no hc]
    show bulk [] ≤ 1000
    rw [bulk_nil]; omega
theorem rdN_bulk {b : List Int} {i : Int} (h : (rdN b i).2.2 = true) : bulk (rdN b i).1 ≤ 1000 := by
  have := bulk_valid (rdN_valid h)
  omega
theorem decW_bulk {x : Wt} (h : bulk x.1 ≤ 1000) : bulk (decW x).1 ≤ 1000 := by unfold decW; split <;> exact h
section
variable {w : World} {V U : Value}
theorem eqW_self (x : Wt) : eqW x x = true := by simp [eqW]
theorem sameWV (q : Bool) {x y : Wt} (hq : eqW x y = q) (h : kW.At w V x) (g : kW.At w U y) (hl : bulk x.1 ≤ 9000000) (hm : bulk y.1 ≤ 9000000) :
    Calls Tryd.prog 21 #[V, U] w fun e w' => e = .returned (.bool q) ∧ Below w.heap.size w w' := by
  obtain ⟨v, rfl, h9⟩ := kW_at h
  obtain ⟨u, rfl, g9⟩ := kW_at g
  exact sameWant v u x y w q hq h9 g9 (Nat.le_trans (bulk_len _) hl) (Nat.le_trans (bulk_len _) hm)
theorem iEqWV (q : Bool) {x y : Wt} (hq : eqW x y = q) (h : kW.At w V x) (g : kW.At w U y) (hl : bulk x.1 ≤ 9000000) (hm : bulk y.1 ≤ 9000000) :
    Calls Tryd.prog 25 #[V, U] w fun e w' => e = .returned (.bool q) ∧ Below w.heap.size w w' :=
  hq ▸ implEqualInterestsK V U x y w h g (Nat.le_trans (bulk_len _) hl) (Nat.le_trans (bulk_len _) hm)
theorem sameNV {l : List ByteArray} (h : kN.At w V l) (g : kN.At w U l) (hl : l.length ≤ 9000000) :
    Calls Tryd.prog 24 #[V, U] w fun e w' => e = .returned (.bool true) ∧ Below w.heap.size w w' := by
  obtain ⟨v, rfl, h9⟩ := kN_at h
  obtain ⟨u, rfl, g9⟩ := kN_at g
  exact sameNameT v u l w h9 g9 (by omega)
theorem sameBV {l m : List Int} (e : l = m) (h : kB.At w V l) (g : kB.At w U m) (hl : l.length ≤ 9000000) :
    Calls Tryd.prog 19 #[V, U] w fun e w' => e = .returned (.bool true) ∧ Below w.heap.size w w' := by
  subst e
  exact Sl.sameB_self V U l w (kS_at h) (kS_at g) (by omega)
theorem iValWV (q : Bool) {x : Wt} (hq : validW x = q) (h : kW.At w V x) (hl : bulk x.1 ≤ 9000000) :
    Calls Tryd.prog 28 #[V] w fun e w' => e = .returned (.bool q) ∧ Below w.heap.size w w' := hq ▸ implValidInterestK V x w h hl
theorem sValWV (q : Bool) {x : Wt} (hq : validW x = q) (h : kW.At w V x) (hl : bulk x.1 ≤ 9000000) :
    Calls Tryd.prog 29 #[V] w fun e w' => e = .returned (.bool q) ∧ Below w.heap.size w w' := hq ▸ specValidInterestK V x w h hl
theorem iFmtWV (s : ByteArray) {x : Wt} (hs : fmtW x = s) (h : kW.At w V x) (hl : bulk x.1 ≤ 100000000) (w0 : WfW x) (ht : Text.Tab w) :
    Calls Tryd.prog 26 #[V] w fun e w' => e = .returned (.string s) ∧ Below w.heap.size w w' := hs ▸ implFormatInterestK V x w h hl w0 ht
theorem sFmtWV (s : ByteArray) {x : Wt} (hs : fmtW x = s) (h : kW.At w V x) (hl : bulk x.1 ≤ 100000000) (w0 : WfW x) :
    Calls Tryd.prog 27 #[V] w fun e w' => e = .returned (.string s) ∧ Below w.heap.size w w' := hs ▸ specFormatInterestK V x w h hl w0
theorem kB_upto {x : Option Addr} {n c j : Nat} {l : List Int} (h : kB.At w (.slice x n c) l) (hj : j ≤ n) : kB.At w (.slice x j c) (l.take j) := kB_of (Sl.Holds.upto (kS_at h) hj)
theorem kB_len {x : Option Addr} {n c : Nat} {l : List Int} (h : kB.At w (.slice x n c) l) : n = l.length ∧ n ≤ c := by
  have h9 : Sl.Holds .u8 w (.slice x n c) l := kS_at h
  obtain ⟨y, cap, e, hc, -⟩ := h9.shape
  cases e
  exact ⟨rfl, hc⟩
end
end Go.Proofs.YtnnhgcfelkcpfaaDoor.Row
