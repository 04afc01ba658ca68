/- Contracts of ReadBytes, the reference model's and the program's: the bytes behind the length at the offset, the offset behind them, true; or an empty slice, 0 and false. What is returned lies in memory of the call's own. No conditions but that the elements are bytes and the lengths fit. -/
import Derived.Test.YtnnhgcfelkcpfaaDoorBytes
namespace Go.Proofs.YtnnhgcfelkcpfaaDoor.Sl
open Go.ChangeShapes Go.WideShapes Go.ChangeAt Go.RowKit Go.Instr
set_option linter.unusedVariables false
set_option maxRecDepth 100000

/-- What ReadBytes returns. -/
def readB (l : List Int) (i most : Int) : List Int × Int × Bool :=
  let r := Var.readV l i
  if r.2.2 = false ∨ most < r.1 ∨ (l.length : Int) - r.2.1 < r.1 then ([], 0, false)
  else ((l.drop r.2.1.toNat).take r.1.toNat, r.2.1 + r.1, true)
theorem readB_no {l : List Int} {i most : Int} (h : (Var.readV l i).2.2 = false ∨ most < (Var.readV l i).1 ∨ (l.length : Int) - (Var.readV l i).2.1 < (Var.readV l i).1) : readB l i most = ([], 0, false) := by
  unfold readB
  simp only
  rw [if_pos h]
theorem readB_yes {l : List Int} {i most : Int} (h : ¬ ((Var.readV l i).2.2 = false ∨ most < (Var.readV l i).1 ∨ (l.length : Int) - (Var.readV l i).2.1 < (Var.readV l i).1)) :
    readB l i most = ((l.drop (Var.readV l i).2.1.toNat).take (Var.readV l i).1.toNat, (Var.readV l i).2.1 + (Var.readV l i).1, true) := by
  unfold readB
  simp only
  rw [if_neg h]
theorem readB_len (l : List Int) (i most : Int) : (readB l i most).1.length ≤ l.length := by
  by_cases h : (Var.readV l i).2.2 = false ∨ most < (Var.readV l i).1 ∨ (l.length : Int) - (Var.readV l i).2.1 < (Var.readV l i).1
  · rw [readB_no h]; simp
  · rw [readB_yes h]; simp only [List.length_take, List.length_drop]; omega

theorem dec_nonneg : ∀ (f : Nat) (r : List Int) (k : Nat) (n : Int) (v : Int) (c : Nat), Byt r → 0 ≤ n → Var.dec f r k n = some (v, c) → 0 ≤ v ∧ v ≤ 1000000000000 ∧ k < c ∧ c ≤ k + r.length
  | 0, _, _, _, _, _, _, _, h => by simp [Var.dec] at h
  | _ + 1, [], _, _, _, _, _, _, h => by simp [Var.dec] at h
  | f + 1, x :: r, k, n, v, c, hb, hn, h => by
    have hx := hb x (by simp)
    have hp : (0 : Int) < 128 ^ k := by
      have := Nat.pow_pos (n := k) (show 0 < 128 by decide)
      exact_mod_cast this
    simp only [Var.dec] at h
    split at h
    · split at h
      · cases h
      · rename_i h1 h2
        have h3 : 0 ≤ x * 128 ^ k := Int.mul_nonneg hx.1 (by omega)
        simp only [Option.some.injEq, Prod.mk.injEq] at h
        obtain ⟨rfl, rfl⟩ := h
        refine ⟨by omega, ?_, by omega, by simp only [List.length_cons]; omega⟩
        exact Int.not_lt.1 fun h4 => h2 (Or.inr h4)
    · have h3 : 0 ≤ x % 128 * 128 ^ k := Int.mul_nonneg (by omega) (by omega)
      have := dec_nonneg f r (k + 1) _ v c (fun y hy => hb y (by simp [hy])) (by omega) h
      refine ⟨this.1, this.2.1, by omega, ?_⟩
      have h5 := this.2.2.2
      simp only [List.length_cons]; omega

/-- Where ReadVarint says yes, its number is within the range and the offset behind it within the slice. -/
theorem readV_bounds {l : List Int} {i : Int} (hB : Byt l) (h : (Var.readV l i).2.2 = true) :
    0 ≤ (Var.readV l i).1 ∧ (Var.readV l i).1 ≤ 1000000000000 ∧ i < (Var.readV l i).2.1 ∧ (Var.readV l i).2.1 ≤ l.length ∧ 0 ≤ i := by
  unfold Var.readV at h ⊢
  by_cases hi : 0 ≤ i ∧ i ≤ l.length
  · rw [if_pos hi] at h ⊢
    cases hd : Var.dec 6 (l.drop i.toNat) 0 0 with
    | none => rw [hd] at h; simp [Var.res] at h
    | some p =>
      obtain ⟨n, c⟩ := p
      rw [hd] at h
      have := dec_nonneg 6 (l.drop i.toNat) 0 0 n c (fun x hx => hB x (List.mem_of_mem_drop hx)) (by omega) hd
      simp only [List.length_drop] at this
      simp only [Var.res]
      omega
  · rw [if_neg hi] at h; simp at h
theorem readV_zero {l : List Int} {i : Int} (h : (Var.readV l i).2.2 = false) : (Var.readV l i).1 = 0 ∧ (Var.readV l i).2.1 = 0 := by
  unfold Var.readV at h ⊢
  by_cases hi : 0 ≤ i ∧ i ≤ l.length
  · rw [if_pos hi] at h ⊢
    cases hd : Var.dec 6 (l.drop i.toNat) 0 0 with
    | none => exact ⟨rfl, rfl⟩
    | some p => rw [hd] at h; simp [Var.res] at h
  · rw [if_neg hi] at h ⊢; exact ⟨rfl, rfl⟩

/-- A part of a slice that holds l. -/
theorem Holds.part {k : IntKind} {w : World} {b off n cap : Nat} {l : List Int} (h : Holds k w (.slice (some ⟨b, off, none⟩) n cap) l) {a c c' cc : Nat} (hc : a + c ≤ n) (hcc : c ≤ cc) (he : c' = c) :
    Holds k w (.slice (some ⟨b, off + a, none⟩) c' cc) ((l.drop a).take c) := by
  rw [he]; clear he
  have hn := h.lenEq; subst hn
  have hl : ((l.drop a).take c).length = c := by simp; omega
  refine ⟨_, cc, by rw [hl], by rw [hl]; exact hcc, ?_⟩
  by_cases h0 : c = 0
  · left; subst h0; simp
  · right
    refine ⟨b, off + a, rfl, fun j hj => ?_⟩
    rw [hl] at hj
    obtain ⟨b', off', hx, hcell⟩ := h.at (j := a + j) (by omega)
    cases hx
    rw [Nat.add_assoc, hcell]
    simp only [nth, List.getD, List.getElem?_take, List.getElem?_drop, if_pos hj]

theorem holds_empty (k : IntKind) (w : World) (x : Option Addr) (c : Nat) : Holds k w (.slice x 0 c) [] := ⟨x, c, rfl, by simp, Or.inl rfl⟩

def GivesB3 (w : World) (l : List Int) (n : Int) (ok : Bool) (e : Ending) (w' : World) : Prop := ∃ v, e = .returned (.tuple #[v, .int .i64 n, .bool ok]) ∧ Own 5 .u8 w.heap.size w' v l ∧ Below w.heap.size w w'
theorem GivesB3.of {w w' : World} {v : Value} {l m : List Int} {n p : Int} {a b : Bool} (h : (l, n, a) = (m, p, b)) (ho : Own 5 .u8 w.heap.size w' v l) (hb : Below w.heap.size w w') :
    GivesB3 w m p b (.returned (.tuple #[v, .int .i64 n, .bool a])) w' := by
  cases h; exact ⟨v, rfl, ho, hb⟩

set_option maxHeartbeats 1000000 in
theorem specReadBytes (v : Value) (l : List Int) (i most : Int) (w : World) (h : Holds .u8 w v l) (hB : Byt l) (hl : l.length ≤ 100000000) :
    Calls Tryd.prog 49 #[v, .int .i64 i, .int .i64 most] w (GivesB3 w (readB l i most).1 (readB l i most).2.1 (readB l i most).2.2) := by
  obtain ⟨x, cap, rfl, hcap, hh⟩ := h.shape
  obtain ⟨m, hm⟩ : ∃ m, m = l.length := ⟨_, rfl⟩
  have hrd := fun wx hx => specReadVarint (.slice x l.length cap) l i wx hx hB hl
  rw [← hm] at hcap hh hl hrd ⊢
  have RD := Lib.hid hrd
  have HM := Lib.hid hm; have HH := Lib.hid hh
  have hbd := Lib.hid (readV_bounds (l := l) (i := i) hB)
  have hno := Lib.hid (readB_no (l := l) (i := i) (most := most))
  have hyes := Lib.hid (readB_yes (l := l) (i := i) (most := most))
  obtain ⟨n, hn⟩ : ∃ n, n = (Var.readV l i).1 := ⟨_, rfl⟩
  obtain ⟨q, hq⟩ : ∃ q, q = (Var.readV l i).2.1 := ⟨_, rfl⟩
  obtain ⟨ok, hok⟩ : ∃ ok, ok = (Var.readV l i).2.2 := ⟨_, rfl⟩
  rw [← hn, ← hq, ← hok] at RD hbd hno hyes
  clear hn hq hok hrd hh h hm
  obtain ⟨r, hr⟩ : ∃ r, r = readB l i most := ⟨_, rfl⟩
  rw [← hr] at hno hyes ⊢
  clear hr
  have hE := Lib.hid (own_empty .u8 5)
  cases ok with
  | false =>
    have HR := Lib.hid (hno.out (Or.inl rfl))
    clear hno hyes hbd
    go_enter Tryd.func49, Tryd.ntmps49
    go_wp2_with fail
    refine (RD.out _ HH.out).mono ?_
    rintro e w1 ⟨rfl, rfl⟩
    skip
    go_wp2_with fail
    go_ret3
    exact GivesB3.of HR.out.symm (hE.out _) ((Below.refl _ _).alloc (Nat.le_refl _) _)
  | true =>
    obtain ⟨n0, n1, q0, q1, i0⟩ := hbd.out rfl
    have HL := Lib.hid q1
    have q2 : q ≤ (m : Int) := by have := HM.out; omega
    clear hbd q1
    by_cases hbad : most < n ∨ (m : Int) - q < n
    · have HR := Lib.hid (hno.out (by have := HM.out; rw [← this]; exact Or.inr hbad))
      clear hno hyes
      by_cases h1 : most < n
      · clear hbad
        go_enter Tryd.func49, Tryd.ntmps49
        go_wp2_with fail
        refine (RD.out _ HH.out).mono ?_
        rintro e w1 ⟨rfl, rfl⟩
        skip
        go_wp2_with fail
        go_ret3
        exact GivesB3.of HR.out.symm (hE.out _) ((Below.refl _ _).alloc (Nat.le_refl _) _)
      · have h2 : (m : Int) - q < n := by omega
        have d1 : decide (most < n) = false := by simpa using h1
        clear hbad h1
        go_enter Tryd.func49, Tryd.ntmps49
        go_wp2_with fail
        refine (RD.out _ HH.out).mono ?_
        rintro e w1 ⟨rfl, rfl⟩
        skip
        go_wp2_with fail
        go_ret3
        exact GivesB3.of HR.out.symm (hE.out _) ((Below.refl _ _).alloc (Nat.le_refl _) _)
    · have HR := Lib.hid (hyes.out (by have := HM.out; rw [← this]; rintro (h | h); cases h; exact hbad h))
      clear hno hyes
      have d1 : decide (most < n) = false := by simp; omega
      have d2 : n ≤ (m : Int) - q := by omega
      clear hbad
      obtain ⟨b, off, rfl, _⟩ := HH.out.at (j := i.toNat) (by have := HM.out; omega)
      obtain ⟨c, rfl⟩ := Int.eq_ofNat_of_zero_le n0
      obtain ⟨a, rfl⟩ := Int.eq_ofNat_of_zero_le (show 0 ≤ q by omega)
      simp only [Int.toNat_natCast] at HR
      have hlc : ((l.drop a).take c).length = c := by have := HM.out; rw [List.length_take, List.length_drop]; omega
      have HLC := Lib.hid hlc; clear hlc
      have hac : a + c ≤ m := by omega
      by_cases hc0 : c = 0
      · subst hc0
        simp only [List.take_zero] at HR
        have d3 : 0 ≤ most := by simpa using d1
        have d4 : decide (most < 0) = false := by simp; omega
        clear d1
        by_cases hca : cap = a
        · subst hca
          go_enter Tryd.func49, Tryd.ntmps49
          go_wp2_with fail
          refine (RD.out _ HH.out).mono ?_
          rintro e w1 ⟨rfl, rfl⟩
          skip
          go_wp2_with (at_builtin; refine wpList_app (k := .u8) (l := []) (m := []) rfl _ _ rfl Tryd.underlying22 elemBYTE rfl rfl rfl (hE.out _) (holds_empty _ _ _ _) (by simp) (by decide) ?_ ?_)
          · simp
          intro v2 w2 ho hg
          have hb2 := Below.grown ((Below.refl _ _).alloc (Nat.le_refl _) _) hg (by simp) (fun k hk => (World.ownsRow.lt (hE.out _) k hk).1)
          have HO2 := Lib.hid ho; have HB2 := Lib.hid hb2
          clear ho hg hb2
          go_wp2_with fail
          go_ret3
          exact GivesB3.of ((show (([] : List Int), _, true) = _ from by first | rfl | simp).trans HR.out.symm) HO2.out HB2.out
        · go_enter Tryd.func49, Tryd.ntmps49
          go_wp2_with fail
          refine (RD.out _ HH.out).mono ?_
          rintro e w1 ⟨rfl, rfl⟩
          skip
          go_wp2_with (at_builtin; refine wpList_app (k := .u8) (l := []) (m := []) rfl _ _ rfl Tryd.underlying22 elemBYTE rfl rfl rfl (hE.out _) (holds_empty _ _ _ _) (by simp) (by decide) ?_ ?_)
          · simp
          intro v2 w2 ho hg
          have hb2 := Below.grown ((Below.refl _ _).alloc (Nat.le_refl _) _) hg (by simp) (fun k hk => (World.ownsRow.lt (hE.out _) k hk).1)
          have HO2 := Lib.hid ho; have HB2 := Lib.hid hb2
          clear ho hg hb2
          go_wp2_with fail
          go_ret3
          exact GivesB3.of ((show (([] : List Int), _, true) = _ from by first | rfl | simp).trans HR.out.symm) HO2.out HB2.out
      · have hcp : 0 < c := by omega
        clear hc0
        go_enter Tryd.func49, Tryd.ntmps49
        go_wp2_with fail
        refine (RD.out _ HH.out).mono ?_
        rintro e w1 ⟨rfl, rfl⟩
        skip
        go_wp2_with (at_builtin; refine wpList_app (k := .u8) (l := []) (m := (l.drop a).take c) rfl _ _ rfl Tryd.underlying22 elemBYTE rfl rfl rfl (hE.out _) (Holds.part ((HH.out).on ((Below.refl _ _).alloc (Nat.le_refl _) _)) (by omega) ?_ ?_) ?_ (by decide) ?_ ?_)
        · omega
        · omega
        · rw [HLC.out]; simp; omega
        · simp
        intro v2 w2 ho hg
        have hb2 := Below.grown ((Below.refl _ _).alloc (Nat.le_refl _) _) hg (by simp) (fun k hk => (World.ownsRow.lt (hE.out _) k hk).1)
        have HO2 := Lib.hid ho; have HB2 := Lib.hid hb2
        clear ho hg hb2
        go_wp2_with fail
        go_ret3
        exact GivesB3.of HR.out.symm HO2.out HB2.out

set_option maxHeartbeats 1000000 in
theorem implReadBytes (v : Value) (l : List Int) (i most : Int) (w : World) (h : Holds .u8 w v l) (hB : Byt l) (hl : l.length ≤ 100000000) :
    Calls Tryd.prog 46 #[v, .int .i64 i, .int .i64 most] w (GivesB3 w (readB l i most).1 (readB l i most).2.1 (readB l i most).2.2) := by
  obtain ⟨x, cap, rfl, hcap, hh⟩ := h.shape
  obtain ⟨m, hm⟩ : ∃ m, m = l.length := ⟨_, rfl⟩
  have hrd := fun wx hx => implReadVarint (.slice x l.length cap) l i wx hx hB hl
  rw [← hm] at hcap hh hl hrd ⊢
  have RD := Lib.hid hrd
  have HM := Lib.hid hm; have HH := Lib.hid hh
  have hbd := Lib.hid (readV_bounds (l := l) (i := i) hB)
  have hno := Lib.hid (readB_no (l := l) (i := i) (most := most))
  have hyes := Lib.hid (readB_yes (l := l) (i := i) (most := most))
  obtain ⟨n, hn⟩ : ∃ n, n = (Var.readV l i).1 := ⟨_, rfl⟩
  obtain ⟨q, hq⟩ : ∃ q, q = (Var.readV l i).2.1 := ⟨_, rfl⟩
  obtain ⟨ok, hok⟩ : ∃ ok, ok = (Var.readV l i).2.2 := ⟨_, rfl⟩
  rw [← hn, ← hq, ← hok] at RD hbd hno hyes
  clear hn hq hok hrd hh h hm
  obtain ⟨r, hr⟩ : ∃ r, r = readB l i most := ⟨_, rfl⟩
  rw [← hr] at hno hyes ⊢
  clear hr
  have hE := Lib.hid (own_empty .u8 5)
  cases ok with
  | false =>
    have HR := Lib.hid (hno.out (Or.inl rfl))
    clear hno hyes hbd
    go_enter Tryd.func46, Tryd.ntmps46
    go_wp2_with fail
    refine (RD.out _ HH.out).mono ?_
    rintro e w1 ⟨rfl, hb1⟩
    have BB := Lib.hid hb1; clear hb1
    go_wp2_with fail
    go_ret3
    exact GivesB3.of HR.out.symm ((hE.out _).mono BB.out.size) ((BB.out).alloc BB.out.size _)
  | true =>
    obtain ⟨n0, n1, q0, q1, i0⟩ := hbd.out rfl
    have HL := Lib.hid q1
    have q2 : q ≤ (m : Int) := by have := HM.out; omega
    clear hbd q1
    by_cases hbad : most < n ∨ (m : Int) - q < n
    · have HR := Lib.hid (hno.out (by have := HM.out; rw [← this]; exact Or.inr hbad))
      clear hno hyes
      by_cases h1 : most < n
      · clear hbad
        go_enter Tryd.func46, Tryd.ntmps46
        go_wp2_with fail
        refine (RD.out _ HH.out).mono ?_
        rintro e w1 ⟨rfl, hb1⟩
        have BB := Lib.hid hb1; clear hb1
        go_wp2_with fail
        go_ret3
        exact GivesB3.of HR.out.symm ((hE.out _).mono BB.out.size) ((BB.out).alloc BB.out.size _)
      · have h2 : (m : Int) - q < n := by omega
        have d1 : decide (most < n) = false := by simpa using h1
        clear hbad h1
        go_enter Tryd.func46, Tryd.ntmps46
        go_wp2_with fail
        refine (RD.out _ HH.out).mono ?_
        rintro e w1 ⟨rfl, hb1⟩
        have BB := Lib.hid hb1; clear hb1
        go_wp2_with fail
        go_ret3
        exact GivesB3.of HR.out.symm ((hE.out _).mono BB.out.size) ((BB.out).alloc BB.out.size _)
    · have HR := Lib.hid (hyes.out (by have := HM.out; rw [← this]; rintro (h | h); cases h; exact hbad h))
      clear hno hyes
      have d1 : decide (most < n) = false := by simp; omega
      have d2 : n ≤ (m : Int) - q := by omega
      clear hbad
      obtain ⟨b, off, rfl, _⟩ := HH.out.at (j := i.toNat) (by have := HM.out; omega)
      obtain ⟨c, rfl⟩ := Int.eq_ofNat_of_zero_le n0
      obtain ⟨a, rfl⟩ := Int.eq_ofNat_of_zero_le (show 0 ≤ q by omega)
      simp only [Int.toNat_natCast] at HR
      have hlc : ((l.drop a).take c).length = c := by have := HM.out; rw [List.length_take, List.length_drop]; omega
      have HLC := Lib.hid hlc; clear hlc
      have hac : a + c ≤ m := by omega
      by_cases hc0 : c = 0
      · subst hc0
        simp only [List.take_zero] at HR
        have d3 : 0 ≤ most := by simpa using d1
        have d4 : decide (most < 0) = false := by simp; omega
        clear d1
        by_cases hca : cap = a
        · subst hca
          go_enter Tryd.func46, Tryd.ntmps46
          go_wp2_with fail
          refine (RD.out _ HH.out).mono ?_
          rintro e w1 ⟨rfl, hb1⟩
          have BB := Lib.hid hb1; clear hb1
          go_wp2_with (at_builtin; refine wpList_app (k := .u8) (l := []) (m := []) rfl _ _ rfl Tryd.underlying22 elemBYTE rfl rfl rfl ((hE.out _).mono BB.out.size) (holds_empty _ _ _ _) (by simp) (by decide) ?_ ?_)
          · have := BB.out.size; simp; omega
          intro v2 w2 ho hg
          have hb2 := Below.grown ((BB.out).alloc BB.out.size _) hg (by have := BB.out.size; simp; omega) (fun k hk => (World.ownsRow.lt ((hE.out _).mono BB.out.size) k hk).1)
          have HO2 := Lib.hid ho; have HB2 := Lib.hid hb2
          clear ho hg hb2
          go_wp2_with fail
          go_ret3
          exact GivesB3.of ((show (([] : List Int), _, true) = _ from by first | rfl | simp).trans HR.out.symm) HO2.out HB2.out
        · go_enter Tryd.func46, Tryd.ntmps46
          go_wp2_with fail
          refine (RD.out _ HH.out).mono ?_
          rintro e w1 ⟨rfl, hb1⟩
          have BB := Lib.hid hb1; clear hb1
          go_wp2_with (at_builtin; refine wpList_app (k := .u8) (l := []) (m := []) rfl _ _ rfl Tryd.underlying22 elemBYTE rfl rfl rfl ((hE.out _).mono BB.out.size) (holds_empty _ _ _ _) (by simp) (by decide) ?_ ?_)
          · have := BB.out.size; simp; omega
          intro v2 w2 ho hg
          have hb2 := Below.grown ((BB.out).alloc BB.out.size _) hg (by have := BB.out.size; simp; omega) (fun k hk => (World.ownsRow.lt ((hE.out _).mono BB.out.size) k hk).1)
          have HO2 := Lib.hid ho; have HB2 := Lib.hid hb2
          clear ho hg hb2
          go_wp2_with fail
          go_ret3
          exact GivesB3.of ((show (([] : List Int), _, true) = _ from by first | rfl | simp).trans HR.out.symm) HO2.out HB2.out
      · have hcp : 0 < c := by omega
        clear hc0
        go_enter Tryd.func46, Tryd.ntmps46
        go_wp2_with fail
        refine (RD.out _ HH.out).mono ?_
        rintro e w1 ⟨rfl, hb1⟩
        have BB := Lib.hid hb1; clear hb1
        go_wp2_with (at_builtin; refine wpList_app (k := .u8) (l := []) (m := (l.drop a).take c) rfl _ _ rfl Tryd.underlying22 elemBYTE rfl rfl rfl ((hE.out _).mono BB.out.size) (Holds.part ((HH.out.on BB.out).on ((Below.refl _ _).alloc (Nat.le_refl _) _)) (by omega) ?_ ?_) ?_ (by decide) ?_ ?_)
        · omega
        · omega
        · rw [HLC.out]; simp; omega
        · have := BB.out.size; simp; omega
        intro v2 w2 ho hg
        have hb2 := Below.grown ((BB.out).alloc BB.out.size _) hg (by have := BB.out.size; simp; omega) (fun k hk => (World.ownsRow.lt ((hE.out _).mono BB.out.size) k hk).1)
        have HO2 := Lib.hid ho; have HB2 := Lib.hid hb2
        clear ho hg hb2
        go_wp2_with fail
        go_ret3
        exact GivesB3.of HR.out.symm HO2.out HB2.out
end Go.Proofs.YtnnhgcfelkcpfaaDoor.Sl
