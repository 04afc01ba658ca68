/- Contracts of the model's functions on interests: validity, copy, equality, the hop limit. No conditions but that lengths fit. -/
import Derived.Test.YtnnhgcfelkcpfaaWantS
import Derived.Deep.Cut
import Derived.Test.YtnnhgcfelkcpfaaCmp
import Derived.Test.YtnnhgcfelkcpfaaAppP
namespace Go.Proofs.Ytnnhgcfelkcpfaa.Row
open Go.ChangeShapes Go.WideShapes Go.ChangeAt Go.RowKit Go.Instr
set_option linter.unusedVariables false
set_option maxRecDepth 100000

abbrev Wt := List ByteArray × Int × Int × Int
def validW (x : Wt) : Bool := validN x.1 && decide (0 < x.1.length) && decide (0 ≤ x.2.1 ∧ x.2.1 ≤ 1000000) && decide (0 ≤ x.2.2.1 ∧ x.2.2.1 ≤ 16) && decide (1 ≤ x.2.2.2 ∧ x.2.2.2 ≤ 20)
theorem validW_no1 {x : Wt} (h : validN x.1 = false) : validW x = false := by simp [validW, h]
theorem validW_no2 {x : Wt} (h : ¬ 0 < x.1.length) : validW x = false := by
  have : decide (0 < x.1.length) = false := by simpa using h
  simp [validW, this]
theorem validW_no3 {x : Wt} (h : ¬ (0 ≤ x.2.1 ∧ x.2.1 ≤ 1000000)) : validW x = false := by
  have : decide (0 ≤ x.2.1 ∧ x.2.1 ≤ 1000000) = false := decide_eq_false h
  unfold validW; rw [this]; simp
theorem validW_no4 {x : Wt} (h : ¬ (0 ≤ x.2.2.1 ∧ x.2.2.1 ≤ 16)) : validW x = false := by
  have : decide (0 ≤ x.2.2.1 ∧ x.2.2.1 ≤ 16) = false := decide_eq_false h
  unfold validW; rw [this]; simp
theorem validW_no5 {x : Wt} (h : ¬ (1 ≤ x.2.2.2 ∧ x.2.2.2 ≤ 20)) : validW x = false := by
  have : decide (1 ≤ x.2.2.2 ∧ x.2.2.2 ≤ 20) = false := decide_eq_false h
  unfold validW; rw [this]; simp
theorem validW_yes {x : Wt} (h1 : validN x.1 = true) (h2 : 0 < x.1.length) (h3 : 0 ≤ x.2.1 ∧ x.2.1 ≤ 1000000) (h4 : 0 ≤ x.2.2.1 ∧ x.2.2.1 ≤ 16) (h5 : 1 ≤ x.2.2.2 ∧ x.2.2.2 ≤ 20) : validW x = true := by
  simp [validW, h1, h2, h3, h4, h5]

set_option maxHeartbeats 4000000 in
theorem specValidInterest (v : Value) (x : Wt) (w : World) (h : Holds Value.string w v x.1) (hl : bulk x.1 ≤ 9000000) :
    Calls Try.prog 11 #[.agg (wc v x.2.1 x.2.2.1 x.2.2.2)] w fun e w' => e = .returned (.bool (validW x)) ∧ Below w.heap.size w w' := by
  obtain ⟨l, a, b, c⟩ := x
  simp only at h hl ⊢
  obtain ⟨y, q, cy, rfl, hq, hcy, hg⟩ := h.shapeN
  have hb0 := (Below.refl w.heap.size w).alloc (Nat.le_refl _) (.cells (wc (.slice y q cy) a b c) 31)
  have HB := Lib.hid hb0
  have HG := Lib.hid (hg.on hb0)
  have X0 := Lib.hid (Ret.Blk.new w (wc (.slice y q cy) a b c) 31)
  have HQ := Lib.hid hq
  clear h hg hq hb0
  obtain ⟨ok, hok⟩ : ∃ z, validN l = z := ⟨_, rfl⟩
  have HOK := Lib.hid hok
  go_enter Try.func11, Try.ntmps11
  go_wp2_with fail
  refine (specValidName _ l _ HG.out (by omega)).mono ?_
  rintro e w1 ⟨rfl, hb⟩
  rw [hok]
  have Y0 := Lib.hid (X0.out.on hb)
  have HB2 := Lib.hid (HB.out.trans (hb.mono HB.out.size)); clear hb X0 hok
  have q0 : w1.cell? ⟨w.heap.size, 0, none⟩ = some (.slice y q cy) := Y0.out.cell 0
  have q1 : w1.cell? ⟨w.heap.size, 1, none⟩ = some (.int .i64 a) := Y0.out.cell 1
  have q2 : w1.cell? ⟨w.heap.size, 2, none⟩ = some (.int .i64 b) := Y0.out.cell 2
  have q3 : w1.cell? ⟨w.heap.size, 3, none⟩ = some (.int .i64 c) := Y0.out.cell 3
  cases ok with
  | false =>
    have HV := Lib.hid (validW_no1 (x := (l, a, b, c)) HOK.out)
    go_wp2_with fail
    go_ret
    exact ⟨ret_bool HV.out.symm, HB2.out⟩
  | true =>
    by_cases h2 : 0 < q
    · have hd2 : decide ((0 : Int) < (q : Int)) = true := by simp; omega
      by_cases h3 : 0 ≤ a ∧ a ≤ 1000000
      · have HI3 := Lib.hid (fun wx => Num.specIn_true h3.1 h3.2 wx)
        have H3 := Lib.hid h3
        clear h3
        go_wp2_with fail
        refine (HI3.out _).mono ?_
        rintro e w' ⟨rfl, rfl⟩
        by_cases h4 : 0 ≤ b ∧ b ≤ 16
        · have HI4 := Lib.hid (fun wx => Num.specIn_true h4.1 h4.2 wx)
          have H4 := Lib.hid h4
          clear h4
          go_wp2_with fail
          refine (HI4.out _).mono ?_
          rintro e w' ⟨rfl, rfl⟩
          by_cases h5 : 1 ≤ c ∧ c ≤ 20
          · have HI5 := Lib.hid (fun wx => Num.specIn_true h5.1 h5.2 wx)
            have HV := Lib.hid (validW_yes (x := (l, a, b, c)) HOK.out (by rw [← HQ.out]; exact h2) H3.out H4.out h5)
            clear h5
            go_wp2_with fail
            refine (HI5.out _).mono ?_
            rintro e w' ⟨rfl, rfl⟩
            go_wp2_with fail
            go_ret
            exact ⟨ret_bool HV.out.symm, HB2.out⟩
          · have HI5 := Lib.hid (fun wx => Num.specIn_false h5 wx)
            have HV := Lib.hid (validW_no5 (x := (l, a, b, c)) h5)
            clear h5
            go_wp2_with fail
            refine (HI5.out _).mono ?_
            rintro e w' ⟨rfl, rfl⟩
            go_wp2_with fail
            go_ret
            exact ⟨ret_bool HV.out.symm, HB2.out⟩
        · have HI4 := Lib.hid (fun wx => Num.specIn_false h4 wx)
          have HV := Lib.hid (validW_no4 (x := (l, a, b, c)) h4)
          clear h4
          go_wp2_with fail
          refine (HI4.out _).mono ?_
          rintro e w' ⟨rfl, rfl⟩
          go_wp2_with fail
          go_ret
          exact ⟨ret_bool HV.out.symm, HB2.out⟩
      · have HI3 := Lib.hid (fun wx => Num.specIn_false h3 wx)
        have HV := Lib.hid (validW_no3 (x := (l, a, b, c)) h3)
        clear h3
        go_wp2_with fail
        refine (HI3.out _).mono ?_
        rintro e w' ⟨rfl, rfl⟩
        go_wp2_with fail
        go_ret
        exact ⟨ret_bool HV.out.symm, HB2.out⟩
    · have HV := Lib.hid (validW_no2 (x := (l, a, b, c)) (by rw [← HQ.out]; exact h2))
      have hd2 : decide ((0 : Int) < (q : Int)) = false := by simp; omega
      go_wp2_with fail
      go_ret
      exact ⟨ret_bool HV.out.symm, HB2.out⟩
/-- A result that is an interest whose name is the call's own. -/
def GivesW (w : World) (x : Wt) (e : Ending) (w' : World) : Prop := ∃ v', e = .returned (.agg (wc v' x.2.1 x.2.2.1 x.2.2.2)) ∧ Own 9 Value.string w.heap.size w' v' x.1 ∧ Below w.heap.size w w'
def GivesWB (w : World) (x : Wt) (z : Bool) (e : Ending) (w' : World) : Prop := ∃ v', e = .returned (.tuple #[.agg (wc v' x.2.1 x.2.2.1 x.2.2.2), .bool z]) ∧ Own 9 Value.string w.heap.size w' v' x.1 ∧ Below w.heap.size w w'

set_option maxHeartbeats 2000000 in
theorem l7Copy (v : Value) (x : Wt) (w : World) (h : Holds Value.string w v x.1) (hl : x.1.length ≤ 9000000) :
    Calls Try.prog 61 #[.agg (wc v x.2.1 x.2.2.1 x.2.2.2)] w (GivesW w x) := by
  obtain ⟨l, a, b, c⟩ := x
  unfold GivesW
  simp only at h hl ⊢
  obtain ⟨x, n, cap, rfl, hn, hcap, hh⟩ := h.shapeN
  have hb0 := (Below.refl w.heap.size w).alloc (Nat.le_refl _) (.cells (wc (.slice x n cap) a b c) 31)
  have hb1 := hb0.alloc (by simp) (.cells (wc (.slice none 0 0) 0 0 0) 31)
  have hb2 := hb1.alloc (by simp; omega) (.cells (wc (.slice x n cap) a b c) 31)
  have HB := Lib.hid hb2
  have HA := Lib.hid (hh.on hb2)
  have X0 := Lib.hid (((Ret.Blk.new w (wc (.slice x n cap) a b c) 31).on ((Below.refl _ _).alloc (Nat.le_refl _) (.cells (wc (.slice none 0 0) 0 0 0) 31))).on ((Below.refl _ _).alloc (Nat.le_refl _) (.cells (wc (.slice x n cap) a b c) 31)))
  have X1 := Lib.hid ((Ret.Blk.new' (w := w.alloc (.cells (wc (.slice x n cap) a b c) 31)) (n := w.heap.size + 1) (wc (.slice none 0 0) 0 0 0) 31 (by simp)).on ((Below.refl _ _).alloc (Nat.le_refl _) (.cells (wc (.slice x n cap) a b c) 31)))
  have X2 := Lib.hid (Ret.Blk.new' (w := (w.alloc (.cells (wc (.slice x n cap) a b c) 31)).alloc (.cells (wc (.slice none 0 0) 0 0 0) 31)) (n := w.heap.size + 1 + 1) (wc (.slice x n cap) a b c) 31 (by simp))
  clear hh h hn hb0 hb1 hb2
  go_enter Try.func61, Try.ntmps61
  go_wp2_with fail
  refine (l4Copy _ l _ HA.out (by omega)).mono ?_
  rintro e w1 ⟨v1, rfl, ho, hb⟩
  obtain ⟨x1, n1, c1, rfl, -, hc1, ho1⟩ := ho.shapeN
  have HO := Lib.hid ho1
  have Y1 := Lib.hid (X1.out.on hb); have Y2 := Lib.hid (X2.out.on hb)
  have HB1 := Lib.hid (HB.out.trans (hb.mono HB.out.size))
  clear ho ho1 hb X0 X1 X2
  have r0 : w1.cell? ⟨w.heap.size + 1, 0, none⟩ = some (.slice none 0 0) := Y1.out.cell 0
  have r1 : w1.cell? ⟨w.heap.size + 1, 1, none⟩ = some (.int .i64 0) := Y1.out.cell 1
  have r2 : w1.cell? ⟨w.heap.size + 1, 2, none⟩ = some (.int .i64 0) := Y1.out.cell 2
  have r3 : w1.cell? ⟨w.heap.size + 1, 3, none⟩ = some (.int .i64 0) := Y1.out.cell 3
  have s0 : w1.cell? ⟨w.heap.size + 1 + 1, 0, none⟩ = some (.slice x n cap) := Y2.out.cell 0
  have s1 : w1.cell? ⟨w.heap.size + 1 + 1, 1, none⟩ = some (.int .i64 a) := Y2.out.cell 1
  have s2 : w1.cell? ⟨w.heap.size + 1 + 1, 2, none⟩ = some (.int .i64 b) := Y2.out.cell 2
  have s3 : w1.cell? ⟨w.heap.size + 1 + 1, 3, none⟩ = some (.int .i64 c) := Y2.out.cell 3
  have t0 := Y1.out.frozen 0; have t1 := Y1.out.frozen 1; have t2 := Y1.out.frozen 2; have t3 := Y1.out.frozen 3
  have k0_ := Y2.out.frozen 0
  have Z1 := Lib.hid (((((Y1.out.other (a := ⟨w.heap.size + 1 + 1, 0, none⟩) (by simp) (.slice x1 n1 c1)).set 0 (.slice x1 n1 c1)).set 1 (.int .i64 a)).set 2 (.int .i64 b)).set 3 (.int .i64 c))
  have Z2 := Lib.hid (own_set (g := w.heap.size + 1) (i := 3) (u := (.int .i64 c)) (own_set (g := w.heap.size + 1) (i := 2) (u := (.int .i64 b)) (own_set (g := w.heap.size + 1) (i := 1) (u := (.int .i64 a)) (own_set (g := w.heap.size + 1) (i := 0) (u := (.slice x1 n1 c1)) (own_set (g := w.heap.size + 1 + 1) (i := 0) (u := (.slice x1 n1 c1)) HO.out (by simp)) (by simp)) (by simp)) (by simp)) (by simp))
  have Z3 := Lib.hid (((((HB1.out.setCell (p := ⟨w.heap.size + 1 + 1, 0, none⟩) (by simp; omega) (.slice x1 n1 c1)).setCell (p := ⟨w.heap.size + 1, 0, none⟩) (by simp) (.slice x1 n1 c1)).setCell (p := ⟨w.heap.size + 1, 1, none⟩) (by simp) (.int .i64 a)).setCell (p := ⟨w.heap.size + 1, 2, none⟩) (by simp) (.int .i64 b)).setCell (p := ⟨w.heap.size + 1, 3, none⟩) (by simp) (.int .i64 c))
  clear Y1 Y2
  go_wp2_with fail
  refine bodyPost_ret (Ret.results_c rfl _ _ (w.heap.size + 1) (wc (.slice x1 n1 c1) a b c).toList rfl aggW Z1.out.cells) rfl ?_
  exact ⟨_, rfl, Z2.out.mono (by simp; omega), Z3.out⟩

set_option maxHeartbeats 2000000 in
theorem specEqualInterests (v u : Value) (x y : Wt) (w : World) (q : Bool) (hq : decide (x = y) = q) (h : Holds Value.string w v x.1) (g : Holds Value.string w u y.1) (hl : x.1.length ≤ 9000000) (hm : y.1.length ≤ 9000000) :
    Calls Try.prog 36 #[.agg (wc v x.2.1 x.2.2.1 x.2.2.2), .agg (wc u y.2.1 y.2.2.1 y.2.2.2)] w fun e w' => e = .returned (.bool q) ∧ Below w.heap.size w w' := by
  obtain ⟨ps, a1, a2, a3⟩ := x
  obtain ⟨qs, b1, b2, b3⟩ := y
  simp only at h g hl hm ⊢
  obtain ⟨x, n, cap, rfl, -, hcap, hh⟩ := h.shapeN
  obtain ⟨y, m, cap', rfl, -, hcap', hg⟩ := g.shapeN
  have hb0 := (Below.refl w.heap.size w).alloc (Nat.le_refl _) (.cells (wc (.slice x n cap) a1 a2 a3) 31)
  have HB := Lib.hid (hb0.alloc (by simp) (.cells (wc (.slice y m cap') b1 b2 b3) 31))
  have HH := Lib.hid (hh.on HB.out); have HG := Lib.hid (hg.on HB.out)
  have X0 := Lib.hid ((Ret.Blk.new w (wc (.slice x n cap) a1 a2 a3) 31).on ((Below.refl _ _).alloc (Nat.le_refl _) (.cells (wc (.slice y m cap') b1 b2 b3) 31)))
  have X1 := Lib.hid (Ret.Blk.new' (w := w.alloc (.cells (wc (.slice x n cap) a1 a2 a3) 31)) (n := w.heap.size + 1) (wc (.slice y m cap') b1 b2 b3) 31 (by simp))
  have HQ := Lib.hid hq
  clear hh hg h g hq hb0
  go_enter Try.func36, Try.ntmps36
  go_wp2_with fail
  refine (specEqualNames _ _ ps qs _ HH.out HG.out (by omega) (by omega)).mono ?_
  rintro e w1 ⟨rfl, hb⟩
  have Y0 := Lib.hid (X0.out.on hb); have Y1 := Lib.hid (X1.out.on hb)
  have HB2 := Lib.hid (HB.out.trans (hb.mono HB.out.size)); clear hb X0 X1
  have q1 : w1.cell? ⟨w.heap.size, 1, none⟩ = some (.int .i64 a1) := Y0.out.cell 1
  have q2 : w1.cell? ⟨w.heap.size, 2, none⟩ = some (.int .i64 a2) := Y0.out.cell 2
  have q3 : w1.cell? ⟨w.heap.size, 3, none⟩ = some (.int .i64 a3) := Y0.out.cell 3
  have r1 : w1.cell? ⟨w.heap.size + 1, 1, none⟩ = some (.int .i64 b1) := Y1.out.cell 1
  have r2 : w1.cell? ⟨w.heap.size + 1, 2, none⟩ = some (.int .i64 b2) := Y1.out.cell 2
  have r3 : w1.cell? ⟨w.heap.size + 1, 3, none⟩ = some (.int .i64 b3) := Y1.out.cell 3
  by_cases he : ps = qs
  · rw [eqB_true he]
    by_cases h1 : a1 = b1
    · have t1 : (a1 == b1) = true := by simp [h1]
      by_cases h2 : a2 = b2
      · have t2 : (a2 == b2) = true := by simp [h2]
        obtain ⟨z, hz⟩ : ∃ z, (a3 == b3) = z := ⟨_, rfl⟩
        have HE : Hid (q = z) := Lib.hid (by rw [← HQ.out, ← hz]; simp [he, h1, h2]; rfl)
        clear he h1 h2
        go_wp2
        go_ret
        exact ⟨ret_bool HE.out.symm, HB2.out⟩
      · have t2 : (a2 == b2) = false := by simpa using h2
        have HE : Hid (q = false) := Lib.hid (by rw [← HQ.out]; simp [h2])
        clear he h1 h2
        go_wp2
        go_ret
        exact ⟨ret_bool HE.out.symm, HB2.out⟩
    · have t1 : (a1 == b1) = false := by simpa using h1
      have HE : Hid (q = false) := Lib.hid (by rw [← HQ.out]; simp [h1])
      clear he h1
      go_wp2
      go_ret
      exact ⟨ret_bool HE.out.symm, HB2.out⟩
  · rw [eqB_false he]
    have HE : Hid (q = false) := Lib.hid (by rw [← HQ.out]; simp [he])
    clear he
    go_wp2
    go_ret
    exact ⟨ret_bool HE.out.symm, HB2.out⟩
def decW (x : Wt) : Wt := if x.2.2.1 < 1 then x else (x.1, x.2.1, x.2.2.1 - 1, x.2.2.2)
def decOk (x : Wt) : Bool := decide (1 ≤ x.2.2.1)
/-- A row of the call's own is left by a store into a variable that was not there when the row was made. -/
theorem own_set' {α : Type} [Inhabited α] {enc : α → Value} {e : TypeId} {B g i : Nat} {w : World} {v u : Value} {l : List α} (h : Own e enc B w v l) (hg : ∀ b, v.ownBlock = some b → b < g) : Own e enc B (w.setCell ⟨g, i, none⟩ u) v l := by
  refine h.grown (Ret.grownBy_set w ⟨g, i, none⟩ u) ?_
  cases hv : v.ownBlock with
  | none => exact Or.inl rfl
  | some b => exact Or.inr fun e => absurd (hg b hv) (by have h2 : b = g := by simpa using e
                                                         omega)

set_option maxHeartbeats 4000000 in
theorem specDecrementHops (v : Value) (x : Wt) (w : World) (h : Holds Value.string w v x.1) (hl : x.1.length ≤ 9000000) (hb : x.2.2.1 ≤ 9223372036854775807) :
    Calls Try.prog 34 #[.agg (wc v x.2.1 x.2.2.1 x.2.2.2)] w (GivesWB w (decW x) (decOk x)) := by
  obtain ⟨l, a, b, c⟩ := x
  unfold GivesWB
  simp only at h hl hb ⊢
  obtain ⟨x, n, cap, rfl, hn, hcap, hh⟩ := h.shapeN
  have hb0 := (Below.refl w.heap.size w).alloc (Nat.le_refl _) (.cells (wc (.slice x n cap) a b c) 31)
  have hb1 := hb0.alloc (by simp) (.cells (wc (.slice none 0 0) 0 0 0) 31)
  have HB := Lib.hid hb1
  have HA := Lib.hid (hh.on hb1)
  have X0 := Lib.hid ((Ret.Blk.new w (wc (.slice x n cap) a b c) 31).on ((Below.refl _ _).alloc (Nat.le_refl _) (.cells (wc (.slice none 0 0) 0 0 0) 31)))
  have X1 := Lib.hid (Ret.Blk.new' (w := w.alloc (.cells (wc (.slice x n cap) a b c) 31)) (n := w.heap.size + 1) (wc (.slice none 0 0) 0 0 0) 31 (by simp))
  clear hh h hn hb0 hb1
  go_enter Try.func34, Try.ntmps34
  go_wp2_with fail
  refine (l7Copy _ (l, a, b, c) _ HA.out hl).mono ?_
  rintro e w1 ⟨v1, rfl, ho, hb⟩
  simp only at ho
  obtain ⟨x1, n1, c1, rfl, -, hc1, ho1⟩ := ho.shapeN
  have hal : Below w1.heap.size w1 (w1.alloc (.cells (wc (.slice x1 n1 c1) a b c) 31)) := (Below.refl _ _).alloc (Nat.le_refl _) _
  have HO := Lib.hid (ho1.on hal)
  have HLT := Lib.hid (fun b e => (ho1.lt b e).2)
  have Y0 := Lib.hid ((X0.out.on hb).on hal); have Y1 := Lib.hid ((X1.out.on hb).on hal)
  have Y2 := Lib.hid (Ret.Blk.new w1 (wc (.slice x1 n1 c1) a b c) 31)
  have HB1 := Lib.hid ((HB.out.trans (hb.mono HB.out.size)).trans (hal.mono (Nat.le_trans HB.out.size hb.size)))
  have hsz := hb.size
  simp only [World.size_alloc] at hsz
  have hne : (⟨w1.heap.size, 2, none⟩ : Addr).block ≠ w.heap.size + 1 := by show w1.heap.size ≠ _; omega
  have hge : w.heap.size ≤ (⟨w1.heap.size, 2, none⟩ : Addr).block := by show _ ≤ w1.heap.size; omega
  have hn1 : ¬ w1.heap.size = w.heap.size + 1 := by omega
  have hn2 : ¬ w.heap.size + 1 = w1.heap.size := by omega
  have hn3 : ¬ w1.heap.size = w.heap.size := by omega
  have hn4 : ¬ w.heap.size = w1.heap.size := by omega
  clear ho ho1 hb X0 X1 hal hc1
  have p2 := Y0.out.cell 2
  have r0 := Y1.out.cell 0; have r1 := Y1.out.cell 1; have r2 := Y1.out.cell 2; have r3 := Y1.out.cell 3
  have s0 := Y2.out.cell 0; have s1 := Y2.out.cell 1; have s2 := Y2.out.cell 2; have s3 := Y2.out.cell 3
  have t0 := Y1.out.frozen 0; have t1 := Y1.out.frozen 1; have t2 := Y1.out.frozen 2; have t3 := Y1.out.frozen 3
  have k2_ := Y2.out.frozen 2
  simp only [wc, List.getElem?_toArray, List.getElem?_cons_zero, List.getElem?_cons_succ] at p2 r0 r1 r2 r3 s0 s1 s2 s3
  go_upto_region 2 with fail
  generalize w1.alloc (.cells (wc (.slice x1 n1 c1) a b c) 31) = W at *
  generalize w1.heap.size = g at *
  by_cases hlt : b < 1
  · have HD : Hid (decW (l, a, b, c) = (l, a, b, c) ∧ decOk (l, a, b, c) = false) := Lib.hid ⟨if_pos hlt, decide_eq_false (by show ¬ 1 ≤ b; omega)⟩
    have Z1 := Lib.hid ((((Y1.out.set 0 (.slice x1 n1 c1)).set 1 (.int .i64 a)).set 2 (.int .i64 b)).set 3 (.int .i64 c))
    have Z2 := Lib.hid (own_set (g := w.heap.size + 1) (i := 3) (u := (.int .i64 c)) (own_set (g := w.heap.size + 1) (i := 2) (u := (.int .i64 b)) (own_set (g := w.heap.size + 1) (i := 1) (u := (.int .i64 a)) (own_set (g := w.heap.size + 1) (i := 0) (u := (.slice x1 n1 c1)) HO.out (by simp)) (by simp)) (by simp)) (by simp))
    have Z3 := Lib.hid ((((HB1.out.setCell (p := ⟨w.heap.size + 1, 0, none⟩) (by simp) (.slice x1 n1 c1)).setCell (p := ⟨w.heap.size + 1, 1, none⟩) (by simp) (.int .i64 a)).setCell (p := ⟨w.heap.size + 1, 2, none⟩) (by simp) (.int .i64 b)).setCell (p := ⟨w.heap.size + 1, 3, none⟩) (by simp) (.int .i64 c))
    clear Y0 Y1 Y2
    go_wp2_with fail
    refine bodyPost_ret (Ret.results_ct rfl _ _ (w.heap.size + 1) (wc (.slice x1 n1 c1) a b c).toList rfl aggW Z1.out.cells) rfl ?_
    rw [HD.out.1, HD.out.2]
    exact ⟨_, rfl, Z2.out.mono (by simp; omega), Z3.out⟩
  · have HD : Hid (decW (l, a, b, c) = (l, a, b - 1, c) ∧ decOk (l, a, b, c) = true) := Lib.hid ⟨if_neg hlt, decide_eq_true (by show 1 ≤ b; omega)⟩
    have hw : IntKind.i64.wrap (b - 1) = b - 1 := by rw [IntKind.wrap_i64]; omega
    have Z1 := Lib.hid (((((Y1.out.other (a := ⟨g, 2, none⟩) hne (.int .i64 (b - 1))).set 0 (.slice x1 n1 c1)).set 1 (.int .i64 a)).set 2 (.int .i64 (b - 1))).set 3 (.int .i64 c))
    have Z2 := Lib.hid (own_set (g := w.heap.size + 1) (i := 3) (u := (.int .i64 c)) (own_set (g := w.heap.size + 1) (i := 2) (u := (.int .i64 (b - 1))) (own_set (g := w.heap.size + 1) (i := 1) (u := (.int .i64 a)) (own_set (g := w.heap.size + 1) (i := 0) (u := (.slice x1 n1 c1)) (own_set' (g := g) (i := 2) (u := .int .i64 (b - 1)) HO.out HLT.out) (by simp)) (by simp)) (by simp)) (by simp))
    have Z3 := Lib.hid (((((HB1.out.setCell (p := ⟨g, 2, none⟩) hge (.int .i64 (b - 1))).setCell (p := ⟨w.heap.size + 1, 0, none⟩) (by simp) (.slice x1 n1 c1)).setCell (p := ⟨w.heap.size + 1, 1, none⟩) (by simp) (.int .i64 a)).setCell (p := ⟨w.heap.size + 1, 2, none⟩) (by simp) (.int .i64 (b - 1))).setCell (p := ⟨w.heap.size + 1, 3, none⟩) (by simp) (.int .i64 c))
    clear Y0 Y1 Y2
    go_wp2_with fail
    refine bodyPost_ret (Ret.results_ct rfl _ _ (w.heap.size + 1) (wc (.slice x1 n1 c1) a (b - 1) c).toList rfl aggW Z1.out.cells) rfl ?_
    rw [HD.out.1, HD.out.2]
    exact ⟨_, rfl, Z2.out.mono (by simp; omega), Z3.out⟩
end Go.Proofs.Ytnnhgcfelkcpfaa.Row
