/- Contracts and mathematics, joined: ReadB, WantE, WantR, DecI, VarBack, WantD, ThingS, SealMath, LibI, Same, Seal. No conditions but those that each states. -/
import Derived.Test.YtbooamnlocobfaaGreatB2
import Derived.Deep.RegionHeld3
import Derived.Deep.RegionLaw
import Derived.Test.YtbooamnlocobfaaGreatB1
import Derived.Lib.AppendZerosOnto
/- Contracts of ReadBytes, the reference model's and the program's: the bytes behind the length at the offset, the offset behind them, true; or an empty slice, 0 and false. What is returned lies in memory of the call's own. No conditions but that the elements are bytes and the lengths fit. -/
namespace Go.Proofs.YtbooamnlocobfaaGreat.Sl
open Go.ChangeShapes Go.WideShapes Go.ChangeAt Go.RowKit Go.Instr
set_option linter.unusedVariables false
set_option maxRecDepth 100000

/-- What ReadBytes returns. -/
def readB (l : List Int) (i most : Int) : List Int × Int × Bool :=
  let r := Var.readV l i
  if r.2.2 = false ∨ most < r.1 ∨ (l.length : Int) - r.2.1 < r.1 then ([], 0, false)
  else ((l.drop r.2.1.toNat).take r.1.toNat, r.2.1 + r.1, true)
theorem readB_no {l : List Int} {i most : Int} (h : (Var.readV l i).2.2 = false ∨ most < (Var.readV l i).1 ∨ (l.length : Int) - (Var.readV l i).2.1 < (Var.readV l i).1) : readB l i most = ([], 0, false) := by
  unfold readB
  simp only
  rw [if_pos h]
theorem readB_yes {l : List Int} {i most : Int} (h : ¬ ((Var.readV l i).2.2 = false ∨ most < (Var.readV l i).1 ∨ (l.length : Int) - (Var.readV l i).2.1 < (Var.readV l i).1)) :
    readB l i most = ((l.drop (Var.readV l i).2.1.toNat).take (Var.readV l i).1.toNat, (Var.readV l i).2.1 + (Var.readV l i).1, true) := by
  unfold readB
  simp only
  rw [if_neg h]
theorem dec_nonneg : ∀ (f : Nat) (r : List Int) (k : Nat) (n : Int) (v : Int) (c : Nat), Byt r → 0 ≤ n → Var.dec f r k n = some (v, c) → 0 ≤ v ∧ v ≤ 1000000000000 ∧ k < c ∧ c ≤ k + r.length
  | 0, _, _, _, _, _, _, _, h => by simp [Var.dec] at h
  | _ + 1, [], _, _, _, _, _, _, h => by simp [Var.dec] at h
  | f + 1, x :: r, k, n, v, c, hb, hn, h => by
    have hx := hb x (by simp)
    have hp : (0 : Int) < 128 ^ k := by
      have := Nat.pow_pos (n := k) (show 0 < 128 by decide)
      exact_mod_cast this
    simp only [Var.dec] at h
    split at h
    · split at h
      · cases h
      · rename_i h1 h2
        have h3 : 0 ≤ x * 128 ^ k := Int.mul_nonneg hx.1 (by omega)
        simp only [Option.some.injEq, Prod.mk.injEq] at h
        obtain ⟨rfl, rfl⟩ := h
        refine ⟨by omega, ?_, by omega, by simp only [List.length_cons]; omega⟩
        exact Int.not_lt.1 fun h4 => h2 (Or.inr h4)
    · have h3 : 0 ≤ x % 128 * 128 ^ k := Int.mul_nonneg (by omega) (by omega)
      have := dec_nonneg f r (k + 1) _ v c (fun y hy => hb y (by simp [hy])) (by omega) h
      refine ⟨this.1, this.2.1, by omega, ?_⟩
      have h5 := this.2.2.2
      simp only [List.length_cons]; omega

/-- Where ReadVarint says yes, its number is within the range and the offset behind it within the slice. -/
theorem readV_bounds {l : List Int} {i : Int} (hB : Byt l) (h : (Var.readV l i).2.2 = true) :
    0 ≤ (Var.readV l i).1 ∧ (Var.readV l i).1 ≤ 1000000000000 ∧ i < (Var.readV l i).2.1 ∧ (Var.readV l i).2.1 ≤ l.length ∧ 0 ≤ i := by
  unfold Var.readV at h ⊢
  by_cases hi : 0 ≤ i ∧ i ≤ l.length
  · rw [if_pos hi] at h ⊢
    cases hd : Var.dec 6 (l.drop i.toNat) 0 0 with
    | none => rw [hd] at h; simp [Var.res] at h
    | some p =>
      obtain ⟨n, c⟩ := p
      rw [hd] at h
      have := dec_nonneg 6 (l.drop i.toNat) 0 0 n c (fun x hx => hB x (List.mem_of_mem_drop hx)) (by omega) hd
      simp only [List.length_drop] at this
      simp only [Var.res]
      omega
  · rw [if_neg hi] at h; simp at h
/-- A part of a slice that holds l. -/
theorem Holds.part {k : IntKind} {w : World} {b off n cap : Nat} {l : List Int} (h : Holds k w (.slice (some ⟨b, off, none⟩) n cap) l) {a c c' cc : Nat} (hc : a + c ≤ n) (hcc : c ≤ cc) (he : c' = c) :
    Holds k w (.slice (some ⟨b, off + a, none⟩) c' cc) ((l.drop a).take c) := by
  rw [he]; clear he
  have hn := h.lenEq; subst hn
  have hl : ((l.drop a).take c).length = c := by simp; omega
  refine ⟨_, cc, by rw [hl], by rw [hl]; exact hcc, ?_⟩
  by_cases h0 : c = 0
  · left; subst h0; simp
  · right
    refine ⟨b, off + a, rfl, fun j hj => ?_⟩
    rw [hl] at hj
    obtain ⟨b', off', hx, hcell⟩ := h.at (j := a + j) (by omega)
    cases hx
    rw [Nat.add_assoc, hcell]
    simp only [nth, List.getD, List.getElem?_take, List.getElem?_drop, if_pos hj]

theorem holds_empty (k : IntKind) (w : World) (x : Option Addr) (c : Nat) : Holds k w (.slice x 0 c) [] := ⟨x, c, rfl, by simp, Or.inl rfl⟩

def GivesB3 (w : World) (l : List Int) (n : Int) (ok : Bool) (e : Ending) (w' : World) : Prop := ∃ v, e = .returned (.tuple #[v, .int .i64 n, .bool ok]) ∧ Own 5 .u8 w.heap.size w' v l ∧ Below w.heap.size w w'
theorem GivesB3.of {w w' : World} {v : Value} {l m : List Int} {n p : Int} {a b : Bool} (h : (l, n, a) = (m, p, b)) (ho : Own 5 .u8 w.heap.size w' v l) (hb : Below w.heap.size w w') :
    GivesB3 w m p b (.returned (.tuple #[v, .int .i64 n, .bool a])) w' := by
  cases h; exact ⟨v, rfl, ho, hb⟩

set_option maxHeartbeats 1000000 in
theorem specReadBytes (v : Value) (l : List Int) (i most : Int) (w : World) (h : Holds .u8 w v l) (hB : Byt l) (hl : l.length ≤ 100000000) :
    Calls Tryz.prog 41 #[v, .int .i64 i, .int .i64 most] w (GivesB3 w (readB l i most).1 (readB l i most).2.1 (readB l i most).2.2) := by
  obtain ⟨x, cap, rfl, hcap, hh⟩ := h.shape
  obtain ⟨m, hm⟩ : ∃ m, m = l.length := ⟨_, rfl⟩
  have hrd := fun wx hx => specReadVarint (.slice x l.length cap) l i wx hx hB hl
  rw [← hm] at hcap hh hl hrd ⊢
  have RD := Lib.hid hrd
  have HM := Lib.hid hm; have HH := Lib.hid hh
  have hbd := Lib.hid (readV_bounds (l := l) (i := i) hB)
  have hno := Lib.hid (readB_no (l := l) (i := i) (most := most))
  have hyes := Lib.hid (readB_yes (l := l) (i := i) (most := most))
  obtain ⟨n, hn⟩ : ∃ n, n = (Var.readV l i).1 := ⟨_, rfl⟩
  obtain ⟨q, hq⟩ : ∃ q, q = (Var.readV l i).2.1 := ⟨_, rfl⟩
  obtain ⟨ok, hok⟩ : ∃ ok, ok = (Var.readV l i).2.2 := ⟨_, rfl⟩
  rw [← hn, ← hq, ← hok] at RD hbd hno hyes
  clear hn hq hok hrd hh h hm
  obtain ⟨r, hr⟩ : ∃ r, r = readB l i most := ⟨_, rfl⟩
  rw [← hr] at hno hyes ⊢
  clear hr
  have hE := Lib.hid (own_empty .u8 5)
  cases ok with
  | false =>
    have HR := Lib.hid (hno.out (Or.inl rfl))
    clear hno hyes hbd
    go_enter Tryz.func41, Tryz.ntmps41
    go_wp2_with fail
    refine (RD.out _ HH.out).mono ?_
    rintro e w1 ⟨rfl, rfl⟩
    skip
    go_wp2_with fail
    go_ret3
    exact GivesB3.of HR.out.symm (hE.out _) ((Below.refl _ _).alloc (Nat.le_refl _) _)
  | true =>
    obtain ⟨n0, n1, q0, q1, i0⟩ := hbd.out rfl
    have HL := Lib.hid q1
    have q2 : q ≤ (m : Int) := by have := HM.out; omega
    clear hbd q1
    by_cases hbad : most < n ∨ (m : Int) - q < n
    · have HR := Lib.hid (hno.out (by have := HM.out; rw [← this]; exact Or.inr hbad))
      clear hno hyes
      by_cases h1 : most < n
      · clear hbad
        go_enter Tryz.func41, Tryz.ntmps41
        go_wp2_with fail
        refine (RD.out _ HH.out).mono ?_
        rintro e w1 ⟨rfl, rfl⟩
        skip
        go_wp2_with fail
        go_ret3
        exact GivesB3.of HR.out.symm (hE.out _) ((Below.refl _ _).alloc (Nat.le_refl _) _)
      · have h2 : (m : Int) - q < n := by omega
        have d1 : decide (most < n) = false := by simpa using h1
        clear hbad h1
        go_enter Tryz.func41, Tryz.ntmps41
        go_wp2_with fail
        refine (RD.out _ HH.out).mono ?_
        rintro e w1 ⟨rfl, rfl⟩
        skip
        go_wp2_with fail
        go_ret3
        exact GivesB3.of HR.out.symm (hE.out _) ((Below.refl _ _).alloc (Nat.le_refl _) _)
    · have HR := Lib.hid (hyes.out (by have := HM.out; rw [← this]; rintro (h | h); cases h; exact hbad h))
      clear hno hyes
      have d1 : decide (most < n) = false := by simp; omega
      have d2 : n ≤ (m : Int) - q := by omega
      clear hbad
      obtain ⟨b, off, rfl, _⟩ := HH.out.at (j := i.toNat) (by have := HM.out; omega)
      obtain ⟨c, rfl⟩ := Int.eq_ofNat_of_zero_le n0
      obtain ⟨a, rfl⟩ := Int.eq_ofNat_of_zero_le (show 0 ≤ q by omega)
      simp only [Int.toNat_natCast] at HR
      have hlc : ((l.drop a).take c).length = c := by have := HM.out; rw [List.length_take, List.length_drop]; omega
      have HLC := Lib.hid hlc; clear hlc
      have hac : a + c ≤ m := by omega
      by_cases hc0 : c = 0
      · subst hc0
        simp only [List.take_zero] at HR
        have d3 : 0 ≤ most := by simpa using d1
        have d4 : decide (most < 0) = false := by simp; omega
        clear d1
        by_cases hca : cap = a
        · subst hca
          go_enter Tryz.func41, Tryz.ntmps41
          go_wp2_with fail
          refine (RD.out _ HH.out).mono ?_
          rintro e w1 ⟨rfl, rfl⟩
          skip
          go_wp2_with (at_builtin; refine wpList_app (k := .u8) (l := []) (m := []) rfl _ _ rfl Tryz.underlying22 elemBYTE rfl rfl rfl (hE.out _) (holds_empty _ _ _ _) (by simp) (by decide) ?_ ?_)
          · simp
          intro v2 w2 ho hg
          have hb2 := Below.grown ((Below.refl _ _).alloc (Nat.le_refl _) _) hg (by simp) (fun k hk => (World.ownsRow.lt (hE.out _) k hk).1)
          have HO2 := Lib.hid ho; have HB2 := Lib.hid hb2
          clear ho hg hb2
          go_wp2_with fail
          go_ret3
          exact GivesB3.of ((show (([] : List Int), _, true) = _ from by first | rfl | simp).trans HR.out.symm) HO2.out HB2.out
        · go_enter Tryz.func41, Tryz.ntmps41
          go_wp2_with fail
          refine (RD.out _ HH.out).mono ?_
          rintro e w1 ⟨rfl, rfl⟩
          skip
          go_wp2_with (at_builtin; refine wpList_app (k := .u8) (l := []) (m := []) rfl _ _ rfl Tryz.underlying22 elemBYTE rfl rfl rfl (hE.out _) (holds_empty _ _ _ _) (by simp) (by decide) ?_ ?_)
          · simp
          intro v2 w2 ho hg
          have hb2 := Below.grown ((Below.refl _ _).alloc (Nat.le_refl _) _) hg (by simp) (fun k hk => (World.ownsRow.lt (hE.out _) k hk).1)
          have HO2 := Lib.hid ho; have HB2 := Lib.hid hb2
          clear ho hg hb2
          go_wp2_with fail
          go_ret3
          exact GivesB3.of ((show (([] : List Int), _, true) = _ from by first | rfl | simp).trans HR.out.symm) HO2.out HB2.out
      · have hcp : 0 < c := by omega
        clear hc0
        go_enter Tryz.func41, Tryz.ntmps41
        go_wp2_with fail
        refine (RD.out _ HH.out).mono ?_
        rintro e w1 ⟨rfl, rfl⟩
        skip
        go_wp2_with (at_builtin; refine wpList_app (k := .u8) (l := []) (m := (l.drop a).take c) rfl _ _ rfl Tryz.underlying22 elemBYTE rfl rfl rfl (hE.out _) (Holds.part ((HH.out).on ((Below.refl _ _).alloc (Nat.le_refl _) _)) (by omega) ?_ ?_) ?_ (by decide) ?_ ?_)
        · omega
        · omega
        · rw [HLC.out]; simp; omega
        · simp
        intro v2 w2 ho hg
        have hb2 := Below.grown ((Below.refl _ _).alloc (Nat.le_refl _) _) hg (by simp) (fun k hk => (World.ownsRow.lt (hE.out _) k hk).1)
        have HO2 := Lib.hid ho; have HB2 := Lib.hid hb2
        clear ho hg hb2
        go_wp2_with fail
        go_ret3
        exact GivesB3.of HR.out.symm HO2.out HB2.out

set_option maxHeartbeats 1000000 in
theorem implReadBytes (v : Value) (l : List Int) (i most : Int) (w : World) (h : Holds .u8 w v l) (hB : Byt l) (hl : l.length ≤ 100000000) :
    Calls Tryz.prog 75 #[v, .int .i64 i, .int .i64 most] w (GivesB3 w (readB l i most).1 (readB l i most).2.1 (readB l i most).2.2) := by
  obtain ⟨x, cap, rfl, hcap, hh⟩ := h.shape
  obtain ⟨m, hm⟩ : ∃ m, m = l.length := ⟨_, rfl⟩
  have hrd := fun wx hx => implReadVarint (.slice x l.length cap) l i wx hx hB hl
  rw [← hm] at hcap hh hl hrd ⊢
  have RD := Lib.hid hrd
  have HM := Lib.hid hm; have HH := Lib.hid hh
  have hbd := Lib.hid (readV_bounds (l := l) (i := i) hB)
  have hno := Lib.hid (readB_no (l := l) (i := i) (most := most))
  have hyes := Lib.hid (readB_yes (l := l) (i := i) (most := most))
  obtain ⟨n, hn⟩ : ∃ n, n = (Var.readV l i).1 := ⟨_, rfl⟩
  obtain ⟨q, hq⟩ : ∃ q, q = (Var.readV l i).2.1 := ⟨_, rfl⟩
  obtain ⟨ok, hok⟩ : ∃ ok, ok = (Var.readV l i).2.2 := ⟨_, rfl⟩
  rw [← hn, ← hq, ← hok] at RD hbd hno hyes
  clear hn hq hok hrd hh h hm
  obtain ⟨r, hr⟩ : ∃ r, r = readB l i most := ⟨_, rfl⟩
  rw [← hr] at hno hyes ⊢
  clear hr
  have hE := Lib.hid (own_empty .u8 5)
  cases ok with
  | false =>
    have HR := Lib.hid (hno.out (Or.inl rfl))
    clear hno hyes hbd
    go_enter Tryz.func75, Tryz.ntmps75
    go_wp2_with fail
    refine (RD.out _ HH.out).mono ?_
    rintro e w1 ⟨rfl, hb1⟩
    have BB := Lib.hid hb1; clear hb1
    go_wp2_with fail
    go_ret3
    exact GivesB3.of HR.out.symm ((hE.out _).mono BB.out.size) ((BB.out).alloc BB.out.size _)
  | true =>
    obtain ⟨n0, n1, q0, q1, i0⟩ := hbd.out rfl
    have HL := Lib.hid q1
    have q2 : q ≤ (m : Int) := by have := HM.out; omega
    clear hbd q1
    by_cases hbad : most < n ∨ (m : Int) - q < n
    · have HR := Lib.hid (hno.out (by have := HM.out; rw [← this]; exact Or.inr hbad))
      clear hno hyes
      by_cases h1 : most < n
      · clear hbad
        go_enter Tryz.func75, Tryz.ntmps75
        go_wp2_with fail
        refine (RD.out _ HH.out).mono ?_
        rintro e w1 ⟨rfl, hb1⟩
        have BB := Lib.hid hb1; clear hb1
        go_wp2_with fail
        go_ret3
        exact GivesB3.of HR.out.symm ((hE.out _).mono BB.out.size) ((BB.out).alloc BB.out.size _)
      · have h2 : (m : Int) - q < n := by omega
        have d1 : decide (most < n) = false := by simpa using h1
        clear hbad h1
        go_enter Tryz.func75, Tryz.ntmps75
        go_wp2_with fail
        refine (RD.out _ HH.out).mono ?_
        rintro e w1 ⟨rfl, hb1⟩
        have BB := Lib.hid hb1; clear hb1
        go_wp2_with fail
        go_ret3
        exact GivesB3.of HR.out.symm ((hE.out _).mono BB.out.size) ((BB.out).alloc BB.out.size _)
    · have HR := Lib.hid (hyes.out (by have := HM.out; rw [← this]; rintro (h | h); cases h; exact hbad h))
      clear hno hyes
      have d1 : decide (most < n) = false := by simp; omega
      have d2 : n ≤ (m : Int) - q := by omega
      clear hbad
      obtain ⟨b, off, rfl, _⟩ := HH.out.at (j := i.toNat) (by have := HM.out; omega)
      obtain ⟨c, rfl⟩ := Int.eq_ofNat_of_zero_le n0
      obtain ⟨a, rfl⟩ := Int.eq_ofNat_of_zero_le (show 0 ≤ q by omega)
      simp only [Int.toNat_natCast] at HR
      have hlc : ((l.drop a).take c).length = c := by have := HM.out; rw [List.length_take, List.length_drop]; omega
      have HLC := Lib.hid hlc; clear hlc
      have hac : a + c ≤ m := by omega
      by_cases hc0 : c = 0
      · subst hc0
        simp only [List.take_zero] at HR
        have d3 : 0 ≤ most := by simpa using d1
        have d4 : decide (most < 0) = false := by simp; omega
        clear d1
        by_cases hca : cap = a
        · subst hca
          go_enter Tryz.func75, Tryz.ntmps75
          go_wp2_with fail
          refine (RD.out _ HH.out).mono ?_
          rintro e w1 ⟨rfl, hb1⟩
          have BB := Lib.hid hb1; clear hb1
          go_wp2_with (at_builtin; refine wpList_app (k := .u8) (l := []) (m := []) rfl _ _ rfl Tryz.underlying22 elemBYTE rfl rfl rfl ((hE.out _).mono BB.out.size) (holds_empty _ _ _ _) (by simp) (by decide) ?_ ?_)
          · have := BB.out.size; simp; omega
          intro v2 w2 ho hg
          have hb2 := Below.grown ((BB.out).alloc BB.out.size _) hg (by have := BB.out.size; simp; omega) (fun k hk => (World.ownsRow.lt ((hE.out _).mono BB.out.size) k hk).1)
          have HO2 := Lib.hid ho; have HB2 := Lib.hid hb2
          clear ho hg hb2
          go_wp2_with fail
          go_ret3
          exact GivesB3.of ((show (([] : List Int), _, true) = _ from by first | rfl | simp).trans HR.out.symm) HO2.out HB2.out
        · go_enter Tryz.func75, Tryz.ntmps75
          go_wp2_with fail
          refine (RD.out _ HH.out).mono ?_
          rintro e w1 ⟨rfl, hb1⟩
          have BB := Lib.hid hb1; clear hb1
          go_wp2_with (at_builtin; refine wpList_app (k := .u8) (l := []) (m := []) rfl _ _ rfl Tryz.underlying22 elemBYTE rfl rfl rfl ((hE.out _).mono BB.out.size) (holds_empty _ _ _ _) (by simp) (by decide) ?_ ?_)
          · have := BB.out.size; simp; omega
          intro v2 w2 ho hg
          have hb2 := Below.grown ((BB.out).alloc BB.out.size _) hg (by have := BB.out.size; simp; omega) (fun k hk => (World.ownsRow.lt ((hE.out _).mono BB.out.size) k hk).1)
          have HO2 := Lib.hid ho; have HB2 := Lib.hid hb2
          clear ho hg hb2
          go_wp2_with fail
          go_ret3
          exact GivesB3.of ((show (([] : List Int), _, true) = _ from by first | rfl | simp).trans HR.out.symm) HO2.out HB2.out
      · have hcp : 0 < c := by omega
        clear hc0
        go_enter Tryz.func75, Tryz.ntmps75
        go_wp2_with fail
        refine (RD.out _ HH.out).mono ?_
        rintro e w1 ⟨rfl, hb1⟩
        have BB := Lib.hid hb1; clear hb1
        go_wp2_with (at_builtin; refine wpList_app (k := .u8) (l := []) (m := (l.drop a).take c) rfl _ _ rfl Tryz.underlying22 elemBYTE rfl rfl rfl ((hE.out _).mono BB.out.size) (Holds.part ((HH.out.on BB.out).on ((Below.refl _ _).alloc (Nat.le_refl _) _)) (by omega) ?_ ?_) ?_ (by decide) ?_ ?_)
        · omega
        · omega
        · rw [HLC.out]; simp; omega
        · have := BB.out.size; simp; omega
        intro v2 w2 ho hg
        have hb2 := Below.grown ((BB.out).alloc BB.out.size _) hg (by have := BB.out.size; simp; omega) (fun k hk => (World.ownsRow.lt ((hE.out _).mono BB.out.size) k hk).1)
        have HO2 := Lib.hid ho; have HB2 := Lib.hid hb2
        clear ho hg hb2
        go_wp2_with fail
        go_ret3
        exact GivesB3.of HR.out.symm HO2.out HB2.out
end Go.Proofs.YtbooamnlocobfaaGreat.Sl
/- Contract of the model's EncodeInterest. No conditions but that lengths fit. -/
namespace Go.Proofs.YtbooamnlocobfaaGreat.Sl
open Go.ChangeShapes Go.WideShapes Go.ChangeAt Go.RowKit Go.Instr
set_option linter.unusedVariables false
/-- append to a slice of numbers of the call's own, as a step of a statement that draws its order. -/
theorem step_app2 {P : Program} {ops : Array Oper} {o : Oper} {a : Act} {w : World} {K : Act → World → Prop} {Q : Exit → Act → World → Prop} {E : Prop} {k : IntKind} {e t : TypeId} {bytes : Nat} {z : Value}
    (hg : o.guard = none) (s x : Operand) (hop : o.op = Op.call { callee := Callee.builtin Builtin.append, args := #[s, x], argTypes := #[t, t] }) (ht : P.underlying t = some (.slice e)) (hi : Elem P e z bytes) (hz : z.cells.size = 1)
    {B : Nat} {v : Value} {ad : Addr} {n c : Nat} {l m : List Int} (hs : a.eval s = v) (hx : a.eval x = .slice (some ad) n c) (hown : Own e k B w v l) (hsrc : Holds k w (.slice (some ad) n c) m) (hlen : (l.length + m.length) * 8 ≤ 140737488355328) (hby : bytes ≤ 8) (hB : B ≤ w.heap.size)
    (hK : ∀ v' w', Own e k B w' v' (l ++ m) → w.grownBy w' v.ownBlock → K (a.put o.dst v') w') :
    if Region.wanted o (yielded ops a.tmps) = true then Oper.wp P o a w K Q else E := by
  have hw : Region.wanted o (yielded ops a.tmps) = true := by simp [Region.wanted, hg]
  rw [if_pos hw]
  obtain ⟨i, h1, h2, h3, h4⟩ := info_parts hi
  have hbytes : (l.length + m.length) * bytes ≤ 140737488355328 := Nat.le_trans (Nat.mul_le_mul_left _ hby) hlen
  have h63 : l.length + m.length ≤ maxLen := by unfold maxLen; omega
  obtain rfl := hsrc.lenEq
  obtain ⟨v', w', hrun, r1, r2, _⟩ := run_append_own (P := P) w B t o.type e i z 1 bytes ht h1 h2 h3 h4 hz (by decide) v l.length (l.map (Value.int k)) hown ad m.length c (m.map (Value.int k)) (by simp) hsrc.cells (oneCell k m) h63 hbytes hB
  unfold Oper.wp
  simp [execOp, hop, resolve, invoke, builtin, hs, hx, hrun, Result.andThen]
  refine hK v' w' ?_ r2
  unfold Own
  rw [List.length_append, List.map_append]; exact r1
end Go.Proofs.YtbooamnlocobfaaGreat.Sl
namespace Go.Proofs.YtbooamnlocobfaaGreat.Row
open Go.ChangeShapes Go.WideShapes Go.ChangeAt Go.RowKit Go.Instr
set_option linter.unusedVariables false
set_option maxRecDepth 100000

def encW (x : Wt) : List Int := if validW x = true then appName [] x.1 ++ Sl.encs [x.2.1, x.2.2.1, x.2.2.2] else []
end Go.Proofs.YtbooamnlocobfaaGreat.Row
/- Contract of the model's ReadName. No conditions but that lengths fit. -/
namespace Go.Proofs.YtbooamnlocobfaaGreat.Row
open Go.ChangeShapes Go.WideShapes Go.ChangeAt Go.RowKit Go.Instr
set_option linter.unusedVariables false
set_option maxRecDepth 100000

/-- So many parts are read from place i on, behind those that were read. -/
def rdP : Nat → List Int → Int → List ByteArray → Option (List ByteArray × Int)
  | 0, _, i, acc => some (acc, i)
  | k + 1, b, i, acc => if (Sl.readB b i 8).2.2 = true then rdP k b (Sl.readB b i 8).2.1 (acc ++ [strOfNums (Sl.readB b i 8).1]) else none
def rdN (b : List Int) (i : Int) : List ByteArray × Int × Bool :=
  if (Var.readV b i).2.2 = false ∨ 6 < (Var.readV b i).1 then ([], 0, false)
  else match rdP (Var.readV b i).1.toNat b (Var.readV b i).2.1 [] with
    | none => ([], 0, false)
    | some (l, j) => if validN l = true then (l, j, true) else ([], 0, false)
theorem rdN_no {b : List Int} {i : Int} (h : (Var.readV b i).2.2 = false ∨ 6 < (Var.readV b i).1) : rdN b i = ([], 0, false) := if_pos h
theorem rdN_go {b : List Int} {i : Int} (h : ¬ ((Var.readV b i).2.2 = false ∨ 6 < (Var.readV b i).1)) : rdN b i = match rdP (Var.readV b i).1.toNat b (Var.readV b i).2.1 [] with
    | none => ([], 0, false)
    | some (l, j) => if validN l = true then (l, j, true) else ([], 0, false) := if_neg h
def GivesN3 (w : World) (l : List ByteArray) (n : Int) (ok : Bool) (e : Ending) (w' : World) : Prop := ∃ v, e = .returned (.tuple #[.agg #[v], .int .i64 n, .bool ok]) ∧ Own 9 Value.string w.heap.size w' v l ∧ Below w.heap.size w w'
end Go.Proofs.YtbooamnlocobfaaGreat.Row
namespace Go.Proofs.YtbooamnlocobfaaGreat.Ret
variable {P : Program}
theorem results_ctt {fn : Func} {p u u2 : Tmp} {ty : TypeId} (h : fn.results = #[.cell p ty, .tmp u, .tmp u2]) (tmps : Array Value) (w : World) (b : Nat) (cs : List Value) (hp : tmps.getD p undef = .pointer (some ⟨b, 0, none⟩))
    (ha : AggOf P ty cs.length) (hc : ∀ j v, cs[j]? = some v → w.cell? ⟨b, j, none⟩ = some v) : (results fn tmps).run P w = .ok (.tuple #[.agg cs.toArray, tmps.getD u undef, tmps.getD u2 undef]) w := by
  have hp' : tmps[p]?.getD undef = .pointer (some ⟨b, 0, none⟩) := by simpa using hp
  have hl := run_loadVar_cells (P := P) w b ty cs hc ha
  simp [results, h, hp', asAddr, hl, Result.andThen]
end Go.Proofs.YtbooamnlocobfaaGreat.Ret
namespace Go.Proofs.YtbooamnlocobfaaGreat.Row
open Go.ChangeShapes Go.WideShapes Go.ChangeAt Go.RowKit Go.Instr
set_option linter.unusedVariables false
set_option maxRecDepth 100000
/-- Nothing is read: the result cell is as it was made, or made so again. -/
theorem end0 {w W : World} (hX : Ret.Box W w.heap.size (.slice none 0 0) 26) (hb : Below w.heap.size w W) : (W.setCell ⟨w.heap.size, 0, none⟩ (.slice none 0 0)).cell? ⟨w.heap.size, 0, none⟩ = some (.slice none 0 0) ∧ Own 9 Value.string w.heap.size (W.setCell ⟨w.heap.size, 0, none⟩ (.slice none 0 0)) (.slice none 0 0) [] ∧ Below w.heap.size w (W.setCell ⟨w.heap.size, 0, none⟩ (.slice none 0 0)) :=
  ⟨Ret.set_same hX.cell, Own.nil _ _ _ _, hb.setCell (p := ⟨w.heap.size, 0, none⟩) (Nat.le_refl _) _⟩

theorem readB8 (b : List Int) (i : Int) : (Sl.readB b i 8).1.length ≤ 8 := by
  by_cases h : (Var.readV b i).2.2 = false ∨ 8 < (Var.readV b i).1 ∨ (b.length : Int) - (Var.readV b i).2.1 < (Var.readV b i).1
  · rw [Sl.readB_no h]; simp
  · rw [Sl.readB_yes h]
    simp only [List.length_take]
    omega

set_option maxHeartbeats 8000000 in
theorem specReadName (v : Value) (b : List Int) (i : Int) (w : World) (h : Sl.Holds .u8 w v b) (hB : Sl.Byt b) (hl : b.length ≤ 100000000) :
    Calls Tryz.prog 40 #[v, .int .i64 i] w (GivesN3 w (rdN b i).1 (rdN b i).2.1 (rdN b i).2.2) := by
  obtain ⟨x, cx, rfl, hcx, hh⟩ := h.shape
  obtain ⟨m, hm⟩ : ∃ m, m = b.length := ⟨_, rfl⟩
  rw [← hm] at hcx hh hl ⊢
  have hb0 := (Below.refl w.heap.size w).alloc (Nat.le_refl _) (.cells #[.slice none 0 0] 26)
  have HB0 := Lib.hid hb0
  have HX0 := Lib.hid (Ret.Box.new w (.slice none 0 0) 26)
  have HH0 := Lib.hid hh
  have HBY := Lib.hid hB
  have HM := Lib.hid hm
  have HR := Lib.hid (Sl.specReadV _ b i _ (hh.on hb0) hB (by rw [← hm]; exact hl))
  clear h hh hB hb0 hm
  obtain ⟨n, hn⟩ : ∃ n, n = (Var.readV b i).1 := ⟨_, rfl⟩
  obtain ⟨j, hj⟩ : ∃ j, j = (Var.readV b i).2.1 := ⟨_, rfl⟩
  obtain ⟨ok, hok⟩ : ∃ z, z = (Var.readV b i).2.2 := ⟨_, rfl⟩
  have hrd : Sl.rdV (Var.readV b i) = .tuple #[.int .i64 n, .int .i64 j, .bool ok] := by rw [hn, hj, hok]; rfl
  rw [hrd] at HR
  have HNN := Lib.hid hn; have HJ := Lib.hid hj; have HOK := Lib.hid hok
  clear hrd hn hj hok
  go_enter Tryz.func40, Tryz.ntmps40
  go_wp2_with fail
  refine HR.out.mono ?_
  rintro e w1 ⟨rfl, rfl⟩
  have hx0 := HX0.out.cell
  have hf0 := HX0.out.frozen
  cases ok with
  | false =>
    have HV := Lib.hid (rdN_no (b := b) (i := i) (Or.inl HOK.out.symm))
    go_wp2_with fail
    refine bodyPost_ret (Ret.results_ctt rfl _ _ w.heap.size [_] rfl aggN (Ret.one HX0.out.cell)) rfl ?_
    rw [HV.out]
    exact ⟨_, rfl, Own.nil _ _ _ _, HB0.out⟩
  | true =>
    by_cases h6 : 6 < n
    · have HV := Lib.hid (rdN_no (b := b) (i := i) (Or.inr (by rw [← HNN.out]; exact h6)))
      go_wp2_with fail
      refine bodyPost_ret (Ret.results_ctt rfl _ _ w.heap.size [_] rfl aggN (Ret.one HX0.out.cell)) rfl ?_
      rw [HV.out]
      exact ⟨_, rfl, Own.nil _ _ _ _, HB0.out⟩
    · have hbd := Sl.readV_bounds (l := b) (i := i) HBY.out HOK.out.symm
      rw [← HNN.out, ← HJ.out, ← HM.out] at hbd
      obtain ⟨n, rfl⟩ := Int.eq_ofNat_of_zero_le hbd.1
      obtain ⟨j, rfl⟩ := Int.eq_ofNat_of_zero_le (show 0 ≤ j by omega)
      have HV : Hid (rdN b i = match rdP n b j [] with
        | none => ([], 0, false)
        | some (l, j) => if validN l = true then (l, j, true) else ([], 0, false)) := Lib.hid (by
          rw [rdN_go (by rw [← HNN.out, ← HOK.out]; simp; omega), ← HNN.out, ← HJ.out]; rfl)
      have hn6 : n ≤ 6 := by omega
      have hal := (Below.refl (w.alloc (.cells #[.slice none 0 0] 26)).heap.size (w.alloc (.cells #[.slice none 0 0] 26))).alloc (Nat.le_refl _) (.cells #[.slice none 0 0] 26)
      have HX1 := Lib.hid (HX0.out.on hal)
      have HY1 := Lib.hid (Ret.Box.new' (w := w.alloc (.cells #[.slice none 0 0] 26)) (n := w.heap.size + 1) (.slice none 0 0) 26 (by simp))
      have HB1 := Lib.hid (HB0.out.trans (hal.mono (by simp)))
      clear hal hbd h6 hx0 hf0 HR
      go_wp2_with fail
      go_loopw [8, 11] (fun jv iv wr => ∃ (k : Nat) (jj : Int) (acc : List ByteArray) (xa : Option Addr) (na ca : Nat), k ≤ n ∧ iv = .int .i64 k ∧ jv = .int .i64 jj ∧ Hid (na = k) ∧ bulk acc ≤ 9 * k ∧ Hid (na = acc.length) ∧ Hid (rdP n b j [] = rdP (n - k) b jj acc) ∧ Hid (Own 9 Value.string (w.heap.size + 2) wr (.slice xa na ca) acc) ∧ Hid (Ret.Box wr (w.heap.size + 1) (.slice xa na ca) 26) ∧ Hid (Ret.Box wr w.heap.size (.slice none 0 0) 26) ∧ Hid (Below w.heap.size w wr)) (fun _ iv _ => n - (intOf iv).toNat)
      case atStart => exact ⟨0, j, [], none, 0, 0, Nat.zero_le _, rfl, rfl, Lib.hid rfl, by simp [bulk_nil], Lib.hid rfl, Lib.hid rfl, Lib.hid (Own.nil _ _ _ _), HY1, HX1, HB1⟩
      case round =>
        obtain ⟨k, jj, acc, xa, na, ca, hk, rfl, rfl, hna, hbk, HNA, HRD, HO, HY, HX, HB⟩ := hrel
        have hy := HY.out.cell
        have hyf := HY.out.frozen
        have hx := HX.out.cell
        have hxf := HX.out.frozen
        by_cases hlt : k < n
        · have HRB := Lib.hid (Sl.specReadBytes _ b jj 8 wr (HH0.out.on HB.out) HBY.out (by rw [← HM.out]; exact hl))
          go_wp2_with fail
          refine HRB.out.mono ?_
          rintro e w2 ⟨v2, rfl, ho2, hb2⟩
          have h8 := readB8 b jj
          obtain ⟨bs, hbs⟩ : ∃ bs, bs = (Sl.readB b jj 8).1 := ⟨_, rfl⟩
          obtain ⟨j2, hj2⟩ : ∃ j2, j2 = (Sl.readB b jj 8).2.1 := ⟨_, rfl⟩
          obtain ⟨o2, ho2'⟩ : ∃ o2, o2 = (Sl.readB b jj 8).2.2 := ⟨_, rfl⟩
          rw [← hbs] at ho2 h8
          rw [← hj2, ← ho2']
          have HBS := Lib.hid hbs; have HJ2 := Lib.hid hj2; have HO2' := Lib.hid ho2'
          obtain ⟨x2, c2, rfl, hc2, ho2s⟩ := ho2.holds.shape
          have hcv := Sl.conv_holds (w := w2) ho2s
          have HCV := Lib.hid hcv
          have HY2 := Lib.hid (HY.out.on hb2); have HX2 := Lib.hid (HX.out.on hb2); have HO2 := Lib.hid (HO.out.on hb2)
          have HB2 := Lib.hid (HB.out.trans (hb2.mono HB.out.size))
          clear ho2 hb2 hbs hj2 ho2' ho2s hy hyf hx hxf HRB
          have hy2 := HY2.out.cell
          have hyf2 := HY2.out.frozen
          have hx2 := HX2.out.cell
          have hxf2 := HX2.out.frozen
          cases o2 with
          | false =>
            have HV2 : Hid (rdN b i = ([], 0, false)) := Lib.hid (by
              rw [HV.out, HRD.out, show n - k = (n - (k + 1)) + 1 by omega, rdP, if_neg (by rw [← HO2'.out]; simp)])
            have HE := Lib.hid (end0 HX2.out HB2.out)
            go_wp2_with fail
            refine bodyPost_ret (Ret.results_ctt rfl _ _ w.heap.size [_] rfl aggN (Ret.one HE.out.1)) rfl ?_
            rw [HV2.out]
            exact ⟨_, rfl, HE.out.2.1, HE.out.2.2⟩
          | true =>
            have HST := Lib.hid (show rdP (n - k) b jj acc = rdP (n - (k + 1)) b j2 (acc ++ [strOfNums bs]) by
              rw [show n - k = (n - (k + 1)) + 1 by omega, rdP, if_pos HO2'.out.symm, ← HJ2.out, ← HBS.out])
            have hal := (Below.refl w2.heap.size w2).alloc (Nat.le_refl _) (.cells #[.string (strOfNums bs)] 9)
            have HOA := Lib.hid (HO2.out.on hal)
            have HYA := Lib.hid (HY2.out.on hal)
            have HXA := Lib.hid (HX2.out.on hal)
            have HBA := Lib.hid (HB2.out.trans (hal.mono HB2.out.size))
            have HLM := Lib.hid (show (acc.length + [strOfNums bs].length) * 16 ≤ 140737488355328 by rw [← HNA.out, hna.out]; simp; omega)
            have HLX := Lib.hid (show acc.length + [strOfNums bs].length ≤ maxLen by rw [← HNA.out, hna.out]; unfold maxLen; simp; omega)
            have HSB := Lib.hid (show w.heap.size + 2 ≤ (w2.alloc (.cells #[.string (strOfNums bs)] 9)).heap.size by have := HY2.out.lt; simp; omega)
            clear hal
            go_wp2_with (at_builtin; refine wpList_app (enc := Value.string) (B := w.heap.size + 2) (l := acc) (m := [strOfNums bs]) rfl _ _ rfl Tryz.underlying24 elemSTR rfl rfl rfl HOA.out (holds_one Value.string 9 w2 _) oneStr HLM.out HLX.out HSB.out ?_)
            intro v3 w3 ho3 hg3
            obtain ⟨x3, n3, c3, rfl, hn3, -, ho3⟩ := ho3.shapeN
            have HN3 := Lib.hid hn3
            have hn3' : n3 = k + 1 := by rw [hn3, List.length_append, ← HNA.out, hna.out]; rfl
            have HY3 := Lib.hid (HYA.out.grown hg3 (Own.notBox HOA.out HYA.out (by decide)))
            have HX3 := Lib.hid (HXA.out.grown hg3 (Own.notBox HOA.out HXA.out (by decide)))
            have HB3 := Lib.hid (HBA.out.grown hg3 HBA.out.size (fun g e => by have := (HOA.out.lt g e).1; omega))
            have HO3 := Lib.hid ho3
            have hy3 := HY3.out.cell
            have hyf3 := HY3.out.frozen
            have HY4 := Lib.hid (Ret.Box.set HY3.out (.slice x3 n3 c3))
            have HX4 := Lib.hid (HX3.out.grown (Ret.grownBy_set w3 ⟨w.heap.size + 1, 0, none⟩ (.slice x3 n3 c3)) (by simp))
            have HO4 := Lib.hid (own_set (g := w.heap.size + 1) (i := 0) (u := .slice x3 n3 c3) HO3.out (by omega))
            have HB4 := Lib.hid (HB3.out.setCell (p := ⟨w.heap.size + 1, 0, none⟩) (by simp) (.slice x3 n3 c3))
            have HRD4 := Lib.hid (HRD.out.trans HST.out)
            have hbk4 : bulk (acc ++ [strOfNums bs]) ≤ 9 * (k + 1) := by
              rw [bulk_append, bulk_one, strOfNums_size]; omega
            have HNE := Lib.hid hn3'
            clear ho3 hg3 hn3 hn3' hcv hy2 hyf2 hx2 hxf2
            go_wp2_with fail
            go_roundw
            case rel => exact ⟨k + 1, j2, _, x3, n3, c3, by omega, by go_num, rfl, HNE, hbk4, HN3, HRD4, HO4, HY4, HX4, HB4⟩
            case measure => simp [intOf]; omega
        · obtain rfl : k = n := by omega
          clear hlt
          have HRF : Hid (rdP k b j [] = some (acc, jj)) := Lib.hid (by rw [HRD.out, Nat.sub_self]; rfl)
          obtain ⟨z, hz⟩ : ∃ z, validN acc = z := ⟨_, rfl⟩
          have HZ := Lib.hid hz
          have HNM := Lib.hid HO.out.holds
          go_wp2_with fail
          refine (specValidName _ acc _ HNM.out (by omega)).mono ?_
          rintro e w2 ⟨rfl, hb2⟩
          rw [hz]
          have HY2 := Lib.hid (HY.out.on hb2); have HX2 := Lib.hid (HX.out.on hb2); have HO2 := Lib.hid (HO.out.on hb2)
          have HB2 := Lib.hid (HB.out.trans (hb2.mono HB.out.size))
          clear hb2 hz hy hyf hx hxf
          have hy2 := HY2.out.cell
          have hx2 := HX2.out.cell
          have hxf2 := HX2.out.frozen
          cases z with
          | false =>
            have HV2 : Hid (rdN b i = ([], 0, false)) := Lib.hid (by
              rw [HV.out, HRF.out]
              show (if validN acc = true then _ else _) = _
              rw [if_neg (by rw [HZ.out]; simp)])
            have HE := Lib.hid (end0 HX2.out HB2.out)
            go_wp2_with fail
            refine bodyPost_ret (Ret.results_ctt rfl _ _ w.heap.size [_] rfl aggN (Ret.one HE.out.1)) rfl ?_
            rw [HV2.out]
            exact ⟨_, rfl, HE.out.2.1, HE.out.2.2⟩
          | true =>
            have HV2 : Hid (rdN b i = (acc, jj, true)) := Lib.hid (by
              rw [HV.out, HRF.out]
              show (if validN acc = true then _ else _) = _
              rw [if_pos HZ.out])
            have HE1 := Lib.hid (Ret.set_same (v := .slice xa na ca) HX2.out.cell)
            have HE2 := Lib.hid ((own_set (g := w.heap.size) (i := 0) (u := .slice xa na ca) HO2.out (by omega)).mono (show w.heap.size ≤ w.heap.size + 2 by omega))
            have HE3 := Lib.hid (HB2.out.setCell (p := ⟨w.heap.size, 0, none⟩) (Nat.le_refl _) (.slice xa na ca))
            go_wp2_with fail
            refine bodyPost_ret (Ret.results_ctt rfl _ _ w.heap.size [_] rfl aggN (Ret.one HE1.out)) rfl ?_
            rw [HV2.out]
            exact ⟨_, rfl, HE2.out, HE3.out⟩
end Go.Proofs.YtbooamnlocobfaaGreat.Row
/- Contracts of DecodeInts, the reference model's and the program's: so many numbers at the offset, the offset behind them, true; or an empty slice, 0 and false. What is returned lies in memory of the call's own. No conditions but that the elements are bytes and the length fits. -/
namespace Go.Proofs.YtbooamnlocobfaaGreat.Sl
open Go.ChangeShapes Go.WideShapes Go.ChangeAt Go.RowKit Go.Instr
set_option linter.unusedVariables false
set_option maxRecDepth 100000

def decA : Nat → List Int → Int → List Int → List Int × Int × Bool
  | 0, _, i, acc => (acc, i, true)
  | k + 1, l, i, acc => if (Var.readV l i).2.2 = true then decA k l (Var.readV l i).2.1 (acc ++ [(Var.readV l i).1]) else ([], 0, false)
/-- What DecodeInts returns. -/
def readIs (l : List Int) (i n : Int) : List Int × Int × Bool := if (0 ≤ n ∧ n ≤ 100) ∧ 0 ≤ i ∧ i ≤ l.length then decA n.toNat l i [] else ([], 0, false)
theorem readIs_no {l : List Int} {i n : Int} (h : ¬ ((0 ≤ n ∧ n ≤ 100) ∧ 0 ≤ i ∧ i ≤ l.length)) : readIs l i n = ([], 0, false) := by unfold readIs; rw [if_neg h]
theorem readIs_yes {l : List Int} {i n : Int} (h : (0 ≤ n ∧ n ≤ 100) ∧ 0 ≤ i ∧ i ≤ l.length) : readIs l i n = decA n.toNat l i [] := by unfold readIs; rw [if_pos h]
theorem decA_more {n k : Nat} {l : List Int} {i : Int} {acc : List Int} (hk : k < n) (h : (Var.readV l i).2.2 = true) : decA (n - k) l i acc = decA (n - (k + 1)) l (Var.readV l i).2.1 (acc ++ [(Var.readV l i).1]) := by
  rw [show n - k = (n - (k + 1)) + 1 by omega]
  simp only [decA, if_pos h]
theorem decA_stop {n k : Nat} {l : List Int} {i : Int} {acc : List Int} (hk : k < n) (h : (Var.readV l i).2.2 = false) : decA (n - k) l i acc = ([], 0, false) := by
  rw [show n - k = (n - (k + 1)) + 1 by omega]
  simp [decA, h]
theorem decA_done {n : Nat} {l : List Int} {i : Int} {acc : List Int} : decA (n - n) l i acc = (acc, i, true) := by rw [Nat.sub_self]; rfl
theorem fits_own {e : TypeId} {k : IntKind} {B : Nat} {w : World} {v : Value} {l : List Int} (h : Own e k B w v l) : Fits e k B w v l := Or.inl h
def GivesI3 (w : World) (l : List Int) (n : Int) (ok : Bool) (e : Ending) (w' : World) : Prop := ∃ v, e = .returned (.tuple #[v, .int .i64 n, .bool ok]) ∧ Own 3 .i64 w.heap.size w' v l ∧ Below w.heap.size w w'
theorem GivesI3.of {w w' : World} {v : Value} {l m : List Int} {n p : Int} {a b : Bool} (h : (l, n, a) = (m, p, b)) (ho : Own 3 .i64 w.heap.size w' v l) (hb : Below w.heap.size w w') :
    GivesI3 w m p b (.returned (.tuple #[v, .int .i64 n, .bool a])) w' := by
  cases h; exact ⟨v, rfl, ho, hb⟩
theorem i_empty (w0 w : World) (hb : Below w0.heap.size w0 w) : Own 3 .i64 w0.heap.size (w.alloc (.cells #[] 3)) (.slice (some ⟨w.heap.size, 0, none⟩) 0 0) [] ∧ Below w0.heap.size w0 (w.alloc (.cells #[] 3)) :=
  ⟨(own_empty .i64 3 w).mono hb.size, hb.alloc hb.size _⟩

set_option maxHeartbeats 1000000 in
theorem specDecodeInts_yes (v : Value) (l : List Int) (i : Int) (n : Nat) (w : World) (h : Holds .u8 w v l) (hB : Byt l) (hl : l.length ≤ 100000000) (hn : n ≤ 100) (hi0 : 0 ≤ i) (hi1 : i ≤ l.length) :
    Calls Tryz.prog 42 #[v, .int .i64 i, .int .i64 n] w (GivesI3 w (decA n l i []).1 (decA n l i []).2.1 (decA n l i []).2.2) := by
  obtain ⟨x, cap, rfl, hcap, hh⟩ := h.shape
  obtain ⟨m, hm⟩ : ∃ m, m = l.length := ⟨_, rfl⟩
  have hrd := fun wx j hx => specReadVarint (.slice x l.length cap) l j wx hx hB hl
  rw [← hm] at hcap hh hl hi1 hrd ⊢
  have RD := Lib.hid hrd
  have HM := Lib.hid hm; have HH := Lib.hid hh
  obtain ⟨r, hr⟩ : ∃ r, r = decA n l i [] := ⟨_, rfl⟩
  have HR := Lib.hid hr
  rw [← hr]
  clear hm hh hrd h hr
  have H0 := Lib.hid (i_empty w w (Below.refl _ _))
  go_enter Tryz.func42, Tryz.ntmps42
  go_wp2_with fail
  refine (Num.specIn_true (by omega) (by omega) _).mono ?_
  rintro e w1 ⟨rfl, rfl⟩
  go_wp2_with fail
  refine (Num.specIn_true (by omega) (by omega) _).mono ?_
  rintro e w1 ⟨rfl, rfl⟩
  go_wp2_with fail
  go_loopw [1, 9, 10] (fun av ov iv wr => ∃ (k : Nat) (j : Int) (acc : List Int), k ≤ n ∧ iv = .int .i64 k ∧ av = .int .i64 j ∧ acc.length ≤ k ∧ Hid (Own 3 .i64 w.heap.size wr ov acc ∧ Below w.heap.size w wr) ∧ Hid (decA (n - k) l j acc = r)) (fun _ _ iv _ => n - (intOf iv).toNat)
  case atStart => exact ⟨0, i, [], Nat.zero_le _, rfl, rfl, by simp, H0, Lib.hid HR.out.symm⟩
  case round =>
    obtain ⟨k, j, acc, hk, rfl, rfl, hacc, ho, hd⟩ := hrel
    by_cases hlt : k < n
    · obtain ⟨y, hy⟩ : ∃ y, y = (Var.readV l j).1 := ⟨_, rfl⟩
      obtain ⟨q, hq⟩ : ∃ q, q = (Var.readV l j).2.1 := ⟨_, rfl⟩
      obtain ⟨ok, hok⟩ : ∃ ok, ok = (Var.readV l j).2.2 := ⟨_, rfl⟩
      have hrj := fun wx hx => RD.out wx j hx
      have hmore := fun hh => decA_more (l := l) (i := j) (acc := acc) hlt hh
      have hstop := fun hh => decA_stop (l := l) (i := j) (acc := acc) hlt hh
      rw [← hy, ← hq, ← hok] at hrj
      rw [← hy, ← hq, ← hok] at hmore
      rw [← hok] at hstop
      clear hy hq hok
      have RJ := Lib.hid hrj
      clear hrj
      cases ok with
      | false =>
        have HS := Lib.hid (hd.out.symm.trans (hstop rfl)); clear hstop hmore
        go_wp2_with fail
        refine (RJ.out _ (HH.out.on ho.out.2)).mono ?_
        rintro e w1 ⟨rfl, rfl⟩
        have BB := Lib.hid ho.out.2
        have HF := Lib.hid (i_empty w _ BB.out)
        go_wp2_with fail
        go_ret3
        exact GivesI3.of HS.out.symm HF.out.1 HF.out.2
      | true =>
        have HS := Lib.hid ((hmore rfl).symm.trans hd.out); clear hstop hmore
        go_wp2_with fail
        refine (RJ.out _ (HH.out.on ho.out.2)).mono ?_
        rintro e w1 ⟨rfl, rfl⟩
        have BB := Lib.hid ho.out.2
        have OO := Lib.hid ho.out.1
        have OF := Lib.hid (fits_own OO.out)
        go_wp2_with (at_builtin; refine wpList_app_fit (k := .i64) (B := w.heap.size) (l := acc) (m := [y]) rfl _ _ rfl Tryz.underlying47 elemINT rfl rfl rfl (OF.out.on ((Below.refl _ _).alloc (Nat.le_refl _) _)) (holds_one .i64 _ _ _) (by simp) ?_ (by decide) ?_ ?_)
        · simp; omega
        · have := BB.out.size; simp; omega
        intro v2 w2 ho2 hg
        have hb2 : Below w.heap.size w w2 := ((BB.out).alloc BB.out.size _).trans hg
        have HO2 := Lib.hid (And.intro ho2 hb2)
        clear ho2 hb2 hg
        go_wp2_with fail
        go_roundw
        case rel => exact ⟨k + 1, q, acc ++ [y], by omega, by go_num, rfl, by simp; omega, HO2, HS⟩
        case measure => simp [intOf]; omega
    · obtain rfl : k = n := by omega
      have HS := Lib.hid (hd.out.symm.trans decA_done)
      clear hlt
      go_wp2_with fail
      go_ret3
      exact GivesI3.of HS.out.symm ho.out.1 ho.out.2

set_option maxHeartbeats 1000000 in
theorem specDecodeInts (v : Value) (l : List Int) (i n : Int) (w : World) (h : Holds .u8 w v l) (hB : Byt l) (hl : l.length ≤ 100000000) :
    Calls Tryz.prog 42 #[v, .int .i64 i, .int .i64 n] w (GivesI3 w (readIs l i n).1 (readIs l i n).2.1 (readIs l i n).2.2) := by
  by_cases hin : 0 ≤ n ∧ n ≤ 100
  · by_cases hii : 0 ≤ i ∧ i ≤ l.length
    · rw [readIs_yes ⟨hin, hii⟩]
      obtain ⟨k, rfl⟩ := Int.eq_ofNat_of_zero_le hin.1
      exact specDecodeInts_yes v l i k w h hB hl (by omega) hii.1 hii.2
    · have HR := Lib.hid (readIs_no (l := l) (i := i) (n := n) (fun hh => hii hh.2))
      have h1 := fun wx => Num.specIn_true hin.1 hin.2 wx
      have h2 := fun wx => Num.specIn_false hii wx
      obtain ⟨x, cap, rfl, hcap, hh⟩ := h.shape
      have H1 := Lib.hid h1; have H2 := Lib.hid h2
      have HF := Lib.hid (i_empty w w (Below.refl _ _))
      clear h1 h2 hii h hh
      go_enter Tryz.func42, Tryz.ntmps42
      go_wp2_with fail
      refine (H1.out _).mono ?_
      rintro e w1 ⟨rfl, rfl⟩
      go_wp2_with fail
      refine (H2.out _).mono ?_
      rintro e w1 ⟨rfl, rfl⟩
      go_wp2_with fail
      go_ret3
      exact GivesI3.of HR.out.symm HF.out.1 HF.out.2
  · have HR := Lib.hid (readIs_no (l := l) (i := i) (n := n) (fun hh => hin hh.1))
    have h1 := fun wx => Num.specIn_false hin wx
    obtain ⟨x, cap, rfl, hcap, hh⟩ := h.shape
    have H1 := Lib.hid h1
    have HF := Lib.hid (i_empty w w (Below.refl _ _))
    clear h1 hin h hh
    go_enter Tryz.func42, Tryz.ntmps42
    go_wp2_with fail
    refine (H1.out _).mono ?_
    rintro e w1 ⟨rfl, rfl⟩
    go_wp2_with fail
    go_ret3
    exact GivesI3.of HR.out.symm HF.out.1 HF.out.2

set_option maxHeartbeats 1000000 in
theorem implDecodeInts_yes (v : Value) (l : List Int) (i : Int) (n : Nat) (w : World) (h : Holds .u8 w v l) (hB : Byt l) (hl : l.length ≤ 100000000) (hn : n ≤ 100) (hi0 : 0 ≤ i) (hi1 : i ≤ l.length) :
    Calls Tryz.prog 76 #[v, .int .i64 i, .int .i64 n] w (GivesI3 w (decA n l i []).1 (decA n l i []).2.1 (decA n l i []).2.2) := by
  obtain ⟨x, cap, rfl, hcap, hh⟩ := h.shape
  obtain ⟨m, hm⟩ : ∃ m, m = l.length := ⟨_, rfl⟩
  have hrd := fun wx j hx => implReadVarint (.slice x l.length cap) l j wx hx hB hl
  rw [← hm] at hcap hh hl hi1 hrd ⊢
  have RD := Lib.hid hrd
  have HM := Lib.hid hm; have HH := Lib.hid hh
  obtain ⟨r, hr⟩ : ∃ r, r = decA n l i [] := ⟨_, rfl⟩
  have HR := Lib.hid hr
  rw [← hr]
  clear hm hh hrd h hr
  obtain ⟨i0, hi, hz0, hz1, hz2⟩ := info_parts elemINT
  have HI := Lib.hid hi; have HZ0 := Lib.hid hz0; have HZ1 := Lib.hid hz1; have HZ2 := Lib.hid hz2
  clear hi hz0 hz1 hz2
  go_enter Tryz.func76, Tryz.ntmps76
  go_wp2_with fail
  refine (Num.implIn_true (by omega) (by omega) _).mono ?_
  rintro e w1 ⟨rfl, rfl⟩
  go_wp2_with fail
  refine (Num.implIn_true (by omega) (by omega) _).mono ?_
  rintro e w1 ⟨rfl, rfl⟩
  go_wp2_with (at_make; refine wpList_make_own _ rfl _ _ 47 rfl w.heap.size 3 i0 (.int .i64 0) 1 Tryz.underlying47 HI.out HZ0.out HZ1.out _ _ _ n rfl rfl rfl (by rw [HZ2.out]; omega) (by unfold maxLen; omega) (Nat.le_refl _) ?_)
  intro w1 hown hgrow
  have H0 := Lib.hid (And.intro (show Own 3 .i64 w.heap.size w1 _ [] from hown) ((Below.refl w.heap.size w).grown hgrow (Nat.le_refl _) (fun k hk => by cases hk)))
  clear hown hgrow
  go_wp2_with fail
  go_loopw [1, 9, 27] (fun av ov iv wr => ∃ (k : Nat) (j : Int) (acc : List Int), k ≤ n ∧ iv = .int .i64 k ∧ av = .int .i64 j ∧ acc.length ≤ k ∧ Hid (Own 3 .i64 w.heap.size wr ov acc ∧ Below w.heap.size w wr) ∧ Hid (decA (n - k) l j acc = r)) (fun _ _ iv _ => n - (intOf iv).toNat)
  case atStart => exact ⟨0, i, [], Nat.zero_le _, rfl, rfl, by simp, H0, Lib.hid HR.out.symm⟩
  case round =>
    obtain ⟨k, j, acc, hk, rfl, rfl, hacc, ho, hd⟩ := hrel
    by_cases hlt : k < n
    · obtain ⟨y, hy⟩ : ∃ y, y = (Var.readV l j).1 := ⟨_, rfl⟩
      obtain ⟨q, hq⟩ : ∃ q, q = (Var.readV l j).2.1 := ⟨_, rfl⟩
      obtain ⟨ok, hok⟩ : ∃ ok, ok = (Var.readV l j).2.2 := ⟨_, rfl⟩
      have hrj := fun wx hx => RD.out wx j hx
      have hmore := fun hh => decA_more (l := l) (i := j) (acc := acc) hlt hh
      have hstop := fun hh => decA_stop (l := l) (i := j) (acc := acc) hlt hh
      rw [← hy, ← hq, ← hok] at hrj
      rw [← hy, ← hq, ← hok] at hmore
      rw [← hok] at hstop
      clear hy hq hok
      have RJ := Lib.hid hrj
      clear hrj
      cases ok with
      | false =>
        have HS := Lib.hid (hd.out.symm.trans (hstop rfl)); clear hstop hmore
        go_wp2_with fail
        refine (RJ.out _ (HH.out.on ho.out.2)).mono ?_
        rintro e w1 ⟨rfl, hb1⟩
        have BB := Lib.hid (ho.out.2.trans (hb1.mono ho.out.2.size))
        have HF := Lib.hid (i_empty w _ BB.out)
        go_wp2_with fail
        go_ret3
        exact GivesI3.of HS.out.symm HF.out.1 HF.out.2
      | true =>
        have HS := Lib.hid ((hmore rfl).symm.trans hd.out); clear hstop hmore
        go_wp2_with fail
        refine (RJ.out _ (HH.out.on ho.out.2)).mono ?_
        rintro e w1 ⟨rfl, hb1⟩
        have BB := Lib.hid (ho.out.2.trans (hb1.mono ho.out.2.size))
        have OO := Lib.hid (ho.out.1.on hb1); clear hb1
        have OF := Lib.hid (fits_own OO.out)
        go_wp2_with (at_builtin; refine wpList_app_fit (k := .i64) (B := w.heap.size) (l := acc) (m := [y]) rfl _ _ rfl Tryz.underlying47 elemINT rfl rfl rfl (OF.out.on ((Below.refl _ _).alloc (Nat.le_refl _) _)) (holds_one .i64 _ _ _) (by simp) ?_ (by decide) ?_ ?_)
        · simp; omega
        · have := BB.out.size; simp; omega
        intro v2 w2 ho2 hg
        have hb2 : Below w.heap.size w w2 := ((BB.out).alloc BB.out.size _).trans hg
        have HO2 := Lib.hid (And.intro ho2 hb2)
        clear ho2 hb2 hg
        go_wp2_with fail
        go_roundw
        case rel => exact ⟨k + 1, q, acc ++ [y], by omega, by go_num, rfl, by simp; omega, HO2, HS⟩
        case measure => simp [intOf]; omega
    · obtain rfl : k = n := by omega
      have HS := Lib.hid (hd.out.symm.trans decA_done)
      clear hlt
      go_wp2_with fail
      go_ret3
      exact GivesI3.of HS.out.symm ho.out.1 ho.out.2

set_option maxHeartbeats 1000000 in
theorem implDecodeInts (v : Value) (l : List Int) (i n : Int) (w : World) (h : Holds .u8 w v l) (hB : Byt l) (hl : l.length ≤ 100000000) :
    Calls Tryz.prog 76 #[v, .int .i64 i, .int .i64 n] w (GivesI3 w (readIs l i n).1 (readIs l i n).2.1 (readIs l i n).2.2) := by
  by_cases hin : 0 ≤ n ∧ n ≤ 100
  · by_cases hii : 0 ≤ i ∧ i ≤ l.length
    · rw [readIs_yes ⟨hin, hii⟩]
      obtain ⟨k, rfl⟩ := Int.eq_ofNat_of_zero_le hin.1
      exact implDecodeInts_yes v l i k w h hB hl (by omega) hii.1 hii.2
    · have HR := Lib.hid (readIs_no (l := l) (i := i) (n := n) (fun hh => hii hh.2))
      have h1 := fun wx => Num.implIn_true hin.1 hin.2 wx
      have h2 := fun wx => Num.implIn_false hii wx
      obtain ⟨x, cap, rfl, hcap, hh⟩ := h.shape
      have H1 := Lib.hid h1; have H2 := Lib.hid h2
      have HF := Lib.hid (i_empty w w (Below.refl _ _))
      clear h1 h2 hii h hh
      go_enter Tryz.func76, Tryz.ntmps76
      go_wp2_with fail
      refine (H1.out _).mono ?_
      rintro e w1 ⟨rfl, rfl⟩
      go_wp2_with fail
      refine (H2.out _).mono ?_
      rintro e w1 ⟨rfl, rfl⟩
      go_wp2_with fail
      go_ret3
      exact GivesI3.of HR.out.symm HF.out.1 HF.out.2
  · have HR := Lib.hid (readIs_no (l := l) (i := i) (n := n) (fun hh => hin hh.1))
    have h1 := fun wx => Num.implIn_false hin wx
    obtain ⟨x, cap, rfl, hcap, hh⟩ := h.shape
    have H1 := Lib.hid h1
    have HF := Lib.hid (i_empty w w (Below.refl _ _))
    clear h1 hin h hh
    go_enter Tryz.func76, Tryz.ntmps76
    go_wp2_with fail
    refine (H1.out _).mono ?_
    rintro e w1 ⟨rfl, rfl⟩
    go_wp2_with fail
    go_ret3
    exact GivesI3.of HR.out.symm HF.out.1 HF.out.2
end Go.Proofs.YtbooamnlocobfaaGreat.Sl
/- Plain mathematics: what the encoding writes is read back, and what is read is what the encoding writes. No program in sight. -/
namespace Go.Proofs.YtbooamnlocobfaaGreat.Var
open Sl (Byt)

theorem dec_enc : ∀ (f m k : Nat) (n : Int) (rest : List Int), (enc m).length ≤ f → 0 ≤ n → n + m * 128 ^ k ≤ 1000000000000 → (0 < m ∨ k = 0) → dec f (enc m ++ rest) k n = some (n + m * 128 ^ k, k + (enc m).length) := by
  intro f
  induction f with
  | zero => intro m k n rest h; have := enc_pos m; omega
  | succ f ih =>
    intro m k n rest hl hn hb hk
    have hp : (0 : Int) < 128 ^ k := by
      have := Nat.pow_pos (n := k) (show 0 < 128 by decide)
      exact_mod_cast this
    by_cases h : m < 128
    · rw [enc_small h]
      simp only [List.singleton_append, dec, List.length_singleton]
      rw [if_pos (by omega), if_neg]
      rintro (⟨h1, h2⟩ | h1)
      · omega
      · omega
    · rw [enc_big h] at hl ⊢
      simp only [List.cons_append, dec, List.length_cons] at hl ⊢
      rw [if_neg (by omega)]
      have e1 : (((m % 128 : Nat) : Int) + 128) % 128 = ((m % 128 : Nat) : Int) := by omega
      have e2 : n + ((m % 128 : Nat) : Int) * 128 ^ k + ((m / 128 : Nat) : Int) * 128 ^ (k + 1) = n + (m : Int) * 128 ^ k := by
        have hm : (m : Int) = ((m % 128 : Nat) : Int) + 128 * ((m / 128 : Nat) : Int) := by omega
        rw [Int.pow_succ]
        conv => rhs; rw [hm]
        rw [Int.add_mul, Int.mul_assoc 128, Int.mul_comm (128 ^ k) 128, ← Int.mul_assoc, Int.mul_comm ((m / 128 : Nat) : Int) 128, Int.mul_assoc 128]
        omega
      have h3 : 0 ≤ ((m % 128 : Nat) : Int) * 128 ^ k := Int.mul_nonneg (by omega) (by omega)
      rw [e1, ih (m / 128) (k + 1) _ rest (by omega) (by omega) (by rw [e2]; exact hb) (by omega), e2]
      congr 2; omega

theorem enc_dec : ∀ (f : Nat) (r : List Int) (k : Nat) (n v : Int) (c : Nat), Byt r → dec f r k n = some (v, c) → ∃ m : Nat, v = n + m * 128 ^ k ∧ k < c ∧ r.take (c - k) = enc m ∧ (0 < k → 0 < m)
  | 0, _, _, _, _, _, _, h => by simp [dec] at h
  | _ + 1, [], _, _, _, _, _, h => by simp [dec] at h
  | f + 1, x :: r, k, n, v, c, hb, h => by
    have hx := hb x (by simp)
    simp only [dec] at h
    split at h
    · rename_i h1
      split at h
      · cases h
      · rename_i h2
        simp only [Option.some.injEq, Prod.mk.injEq] at h
        obtain ⟨rfl, rfl⟩ := h
        refine ⟨x.toNat, by rw [Int.toNat_of_nonneg hx.1], by omega, ?_, fun hk => ?_⟩
        · rw [show k + 1 - k = 1 by omega, enc_last hx.1 h1]; rfl
        · have : ¬ (x = 0 ∧ 0 < k) := fun h3 => h2 (Or.inl h3)
          omega
    · rename_i h1
      obtain ⟨m, hv, hc, ht, hm⟩ := enc_dec f r (k + 1) _ v c (fun y hy => hb y (by simp [hy])) h
      have hm := hm (by omega)
      refine ⟨(x % 128).toNat + 128 * m, ?_, by omega, ?_, fun _ => by omega⟩
      · rw [hv, Int.pow_succ]
        have h5 : (((x % 128).toNat + 128 * m : Nat) : Int) = x % 128 + 128 * (m : Int) := by omega
        rw [h5, Int.add_mul, Int.mul_assoc 128, ← Int.mul_assoc (m : Int), Int.mul_comm ((m : Int) * 128 ^ k) 128]
        omega
      · rw [show c - k = (c - (k + 1)) + 1 by omega, List.take_succ_cons, ht, enc_big (n := (x % 128).toNat + 128 * m) (by omega)]
        congr 1
        · omega
        · congr 1; omega

/-- What is encoded is read back, whatever stands before and behind. -/
theorem readV_enc (a b : List Int) {n : Int} (h0 : 0 ≤ n) (h1 : n ≤ 1000000000000) : readV (a ++ var n ++ b) a.length = (n, (a.length : Int) + (var n).length, true) := by
  have e1 := var_in h0 h1
  have e2 := dec_enc 6 n.toNat 0 0 b (enc_len6 (by omega)) (by omega) (by simp; omega) (Or.inr rfl)
  have e3 : dec 6 ((a ++ var n ++ b).drop (a.length : Int).toNat) 0 0 = some (n, (var n).length) := by
    rw [Int.toNat_natCast, List.append_assoc, List.drop_left, e1, e2]
    simp; omega
  exact readV_some (by omega) (by simp; omega) e3

/-- What is read is what is encoded. -/
theorem enc_readV {l : List Int} {i : Int} (hB : Byt l) (h : (readV l i).2.2 = true) : 0 ≤ i ∧ i ≤ (readV l i).2.1 ∧ (readV l i).2.1 ≤ l.length ∧ l.take i.toNat ++ var (readV l i).1 = l.take (readV l i).2.1.toNat := by
  have hbd := Sl.readV_bounds hB h
  refine ⟨hbd.2.2.2.2, by omega, hbd.2.2.2.1, ?_⟩
  unfold readV at h ⊢
  by_cases hi : 0 ≤ i ∧ i ≤ l.length
  · rw [if_pos hi] at h ⊢
    have hb2 : 0 ≤ (readV l i).1 ∧ (readV l i).1 ≤ 1000000000000 := ⟨hbd.1, hbd.2.1⟩
    unfold readV at hb2
    rw [if_pos hi] at hb2
    cases hd : dec 6 (l.drop i.toNat) 0 0 with
    | none => rw [hd] at h; simp [res] at h
    | some p =>
      obtain ⟨v, c⟩ := p
      rw [hd] at hb2
      simp only [res] at hb2 ⊢
      obtain ⟨m, hv, hc, ht, _⟩ := enc_dec 6 _ 0 0 v c (fun x hx => hB x (List.mem_of_mem_drop hx)) hd
      have hm : v.toNat = m := by rw [hv]; simp
      rw [var_in hb2.1 hb2.2, hm, ← ht, show (i + (c : Int)).toNat = i.toNat + c by omega, List.take_add, Nat.sub_zero]
  · rw [if_neg hi] at h; simp at h

theorem decA_full : ∀ (k : Nat) (l : List Int) (i : Int) (acc : List Int), (Sl.decA k l i acc).2.2 = true → (Sl.decA k l i acc).1.length = acc.length + k
  | 0, l, i, acc, _ => by simp [Sl.decA]
  | k + 1, l, i, acc, h => by
    simp only [Sl.decA] at h ⊢
    split at h
    · rename_i h1
      rw [if_pos h1, decA_full k l _ _ h, List.length_append, List.length_singleton]; omega
    · simp at h
theorem readIs_full {l : List Int} {i n : Int} (h : (Sl.readIs l i n).2.2 = true) : ((Sl.readIs l i n).1.length : Int) = n := by
  by_cases hc : (0 ≤ n ∧ n ≤ 100) ∧ 0 ≤ i ∧ i ≤ l.length
  · rw [Sl.readIs_yes hc] at h ⊢
    have := decA_full _ _ _ _ h
    rw [this]; simp; omega
  · rw [Sl.readIs_no hc] at h; simp at h
end Go.Proofs.YtbooamnlocobfaaGreat.Var
/- Contract of the model's DecodeInterest. No conditions but that lengths fit. -/
namespace Go.Proofs.YtbooamnlocobfaaGreat.Row
open Go.ChangeShapes Go.WideShapes Go.ChangeAt Go.RowKit Go.Instr
set_option linter.unusedVariables false
set_option maxRecDepth 100000

def w0 : Wt := ([], 0, 0, 0)
/-- What DecodeInterest reads. -/
def gotW (b : List Int) : Wt := ((rdN b 0).1, Sl.nth (Sl.readIs b (rdN b 0).2.1 3).1 0, Sl.nth (Sl.readIs b (rdN b 0).2.1 3).1 1, Sl.nth (Sl.readIs b (rdN b 0).2.1 3).1 2)
def dcW (b : List Int) : Wt × Bool :=
  if (rdN b 0).2.2 = true ∧ (Sl.readIs b (rdN b 0).2.1 3).2.2 = true ∧ (Sl.readIs b (rdN b 0).2.1 3).2.1 = b.length ∧ validW (gotW b) = true then (gotW b, true) else (w0, false)
theorem rdN_valid {b : List Int} {i : Int} (h : (rdN b i).2.2 = true) : validN (rdN b i).1 = true := by
  by_cases h0 : (Var.readV b i).2.2 = false ∨ 6 < (Var.readV b i).1
  · rw [rdN_no h0] at h; cases h
  · rw [rdN_go h0] at h ⊢
    cases hp : rdP (Var.readV b i).1.toNat b (Var.readV b i).2.1 [] with
    | none => rw [hp] at h; cases h
    | some p =>
      obtain ⟨l, j⟩ := p
      rw [hp] at h
      by_cases hv : validN l = true
      · simp only [hv, if_true]
      · simp [hv] at h
end Go.Proofs.YtbooamnlocobfaaGreat.Row
/- Contracts of the model's functions on data packets: copy, validity, freshness, equality. No conditions but that lengths fit. -/
namespace Go.Proofs.YtbooamnlocobfaaGreat.Row
open Go.ChangeShapes Go.WideShapes Go.ChangeAt Go.RowKit Go.Instr
set_option linter.unusedVariables false
set_option maxRecDepth 100000

/-- A result that is a packet of the call's own. -/
def GivesD (w : World) (x : Dt) (e : Ending) (w' : World) : Prop := ∃ a b c, e = .returned (.agg (dc a b c x.2.2.2.1 x.2.2.2.2)) ∧ DOwn w.heap.size w' a b c x ∧ Below w.heap.size w w'
def GivesDB (w : World) (x : Dt) (z : Bool) (e : Ending) (w' : World) : Prop := ∃ a b c, e = .returned (.tuple #[.agg (dc a b c x.2.2.2.1 x.2.2.2.2), .bool z]) ∧ DOwn w.heap.size w' a b c x ∧ Below w.heap.size w w'

set_option maxHeartbeats 4000000 in
theorem l8Copy (a b c : Value) (x : Dt) (w : World) (h : DHold w a b c x) (h1 : x.1.length ≤ 9000000) (h2 : x.2.1.length ≤ 9000000) (h3 : x.2.2.1.length ≤ 9000000) :
    Calls Tryz.prog 47 #[.agg (dc a b c x.2.2.2.1 x.2.2.2.2)] w (GivesD w x) := by
  obtain ⟨l, m, k, f, s⟩ := x
  unfold GivesD
  simp only at h1 h2 h3 ⊢
  obtain ⟨xa, na, ca, xb, nb, cb, xc, nc, cc, rfl, rfl, rfl⟩ := h.shape
  have hb0 := (Below.refl w.heap.size w).alloc (Nat.le_refl _) (.cells (dc (.slice xa na ca) (.slice xb nb cb) (.slice xc nc cc) f s) 28)
  have hb1 := hb0.alloc (by simp) (.cells (dc nil nil nil 0 0) 28)
  have hb2 := hb1.alloc (by simp; omega) (.cells (dc (.slice xa na ca) (.slice xb nb cb) (.slice xc nc cc) f s) 28)
  have HB := Lib.hid hb2
  have H0 := Lib.hid h
  have HX := Lib.hid (((Ret.Blk.new w (dc (.slice xa na ca) (.slice xb nb cb) (.slice xc nc cc) f s) 28).on ((Below.refl _ _).alloc (Nat.le_refl _) (.cells (dc nil nil nil 0 0) 28))).on ((Below.refl _ _).alloc (Nat.le_refl _) (.cells (dc (.slice xa na ca) (.slice xb nb cb) (.slice xc nc cc) f s) 28)))
  have HR := Lib.hid ((Ret.Blk.new' (w := (w.alloc (.cells (dc (.slice xa na ca) (.slice xb nb cb) (.slice xc nc cc) f s) 28))) (n := w.heap.size + 1) (dc nil nil nil 0 0) 28 (by simp)).on ((Below.refl _ _).alloc (Nat.le_refl _) (.cells (dc (.slice xa na ca) (.slice xb nb cb) (.slice xc nc cc) f s) 28)))
  have HL := Lib.hid (Ret.Blk.new' (w := (w.alloc (.cells (dc (.slice xa na ca) (.slice xb nb cb) (.slice xc nc cc) f s) 28)).alloc (.cells (dc nil nil nil 0 0) 28)) (n := w.heap.size + 1 + 1) (dc (.slice xa na ca) (.slice xb nb cb) (.slice xc nc cc) f s) 28 (by simp))
  have hz0 : (((w.alloc (.cells (dc (.slice xa na ca) (.slice xb nb cb) (.slice xc nc cc) f s) 28)).alloc (.cells (dc nil nil nil 0 0) 28)).alloc (.cells (dc (.slice xa na ca) (.slice xb nb cb) (.slice xc nc cc) f s) 28)).heap.size = w.heap.size + 3 := by simp
  have hml : m.length * 1 ≤ 9000000 := by omega
  clear h hb0 hb1 hb2
  go_enter Tryz.func47, Tryz.ntmps47
  go_wp2_with fail
  refine (l4Copy _ l _ (H0.out.on HB.out).1 (by omega)).mono ?_
  rintro e w1 ⟨a1, rfl, ho1, hb1⟩
  obtain ⟨ya, ma, da, rfl, -, -, ho1⟩ := ho1.shapeN
  have hs1 := hb1.size
  rw [hz0] at ho1 hs1
  replace HX := Lib.hid (HX.out.on hb1); replace HR := Lib.hid (HR.out.on hb1); replace HL := Lib.hid (HL.out.on hb1)
  replace HB := Lib.hid (HB.out.trans (hb1.mono HB.out.size))
  have HO1 := Lib.hid ho1
  have HLA := Lib.hid (fun g hg => (ho1.lt g hg).2)
  clear ho1 hb1 hz0
  have q0 : w1.cell? ⟨w.heap.size, 0, none⟩ = some (.slice xa na ca) := HX.out.cell 0
  have q1 : w1.cell? ⟨w.heap.size, 1, none⟩ = some (.slice xb nb cb) := HX.out.cell 1
  have q2 : w1.cell? ⟨w.heap.size, 2, none⟩ = some (.slice xc nc cc) := HX.out.cell 2
  have q3 : w1.cell? ⟨w.heap.size, 3, none⟩ = some (.int .i64 f) := HX.out.cell 3
  have q4 : w1.cell? ⟨w.heap.size, 4, none⟩ = some (.int .i64 s) := HX.out.cell 4
  have p0 : w1.cell? ⟨w.heap.size + 1 + 1, 0, none⟩ = some (.slice xa na ca) := HL.out.cell 0
  have p1 : w1.cell? ⟨w.heap.size + 1 + 1, 1, none⟩ = some (.slice xb nb cb) := HL.out.cell 1
  have p2 : w1.cell? ⟨w.heap.size + 1 + 1, 2, none⟩ = some (.slice xc nc cc) := HL.out.cell 2
  have p3 : w1.cell? ⟨w.heap.size + 1 + 1, 3, none⟩ = some (.int .i64 f) := HL.out.cell 3
  have p4 : w1.cell? ⟨w.heap.size + 1 + 1, 4, none⟩ = some (.int .i64 s) := HL.out.cell 4
  have t0 := HL.out.frozen 0; have t1 := HL.out.frozen 1; have t2 := HL.out.frozen 2; have t3 := HL.out.frozen 3; have t4 := HL.out.frozen 4
  go_upto_region 3 with fail
  clear q0 q1 q2 q3 q4 p0 p1 p2 p3 p4 t0 t1 t2 t3 t4
  replace HX := Lib.hid (HX.out.other (a := ⟨w.heap.size + 1 + 1, 0, none⟩) (by show w.heap.size + 1 + 1 ≠ w.heap.size; omega) (.slice ya ma da))
  replace HR := Lib.hid (HR.out.other (a := ⟨w.heap.size + 1 + 1, 0, none⟩) (by show w.heap.size + 1 + 1 ≠ w.heap.size + 1; omega) (.slice ya ma da))
  replace HL := Lib.hid (HL.out.set 0 (.slice ya ma da))
  replace HB := Lib.hid (HB.out.setCell (p := ⟨w.heap.size + 1 + 1, 0, none⟩) (by show w.heap.size ≤ w.heap.size + 1 + 1; omega) (.slice ya ma da))
  replace HO1 := Lib.hid (own_set (g := w.heap.size + 1 + 1) (i := 0) (u := .slice ya ma da) HO1.out (by omega))
  have hzs : (w1.setCell ⟨w.heap.size + 1 + 1, 0, none⟩ (.slice ya ma da)).heap.size = w1.heap.size := by simp [World.setCell]
  rw [← hzs] at HLA hs1
  clear hzs
  generalize w1.setCell ⟨w.heap.size + 1 + 1, 0, none⟩ (.slice ya ma da) = W at *
  have hal : Below W.heap.size W (W.alloc (.cells #[] 5)) := (Below.refl _ _).alloc (Nat.le_refl _) _
  have HOE := Lib.hid (Sl.own_empty .u8 5 W)
  have HHE := Lib.hid ((H0.out.on HB.out).2.1.on hal)
  have q0 : W.cell? ⟨w.heap.size, 0, none⟩ = some (.slice xa na ca) := HX.out.cell 0
  have q1 : W.cell? ⟨w.heap.size, 1, none⟩ = some (.slice xb nb cb) := HX.out.cell 1
  have q2 : W.cell? ⟨w.heap.size, 2, none⟩ = some (.slice xc nc cc) := HX.out.cell 2
  have q3 : W.cell? ⟨w.heap.size, 3, none⟩ = some (.int .i64 f) := HX.out.cell 3
  have q4 : W.cell? ⟨w.heap.size, 4, none⟩ = some (.int .i64 s) := HX.out.cell 4
  have p0 : W.cell? ⟨w.heap.size + 1 + 1, 0, none⟩ = some (.slice ya ma da) := HL.out.cell 0
  have p1 : W.cell? ⟨w.heap.size + 1 + 1, 1, none⟩ = some (.slice xb nb cb) := HL.out.cell 1
  have p2 : W.cell? ⟨w.heap.size + 1 + 1, 2, none⟩ = some (.slice xc nc cc) := HL.out.cell 2
  have p3 : W.cell? ⟨w.heap.size + 1 + 1, 3, none⟩ = some (.int .i64 f) := HL.out.cell 3
  have p4 : W.cell? ⟨w.heap.size + 1 + 1, 4, none⟩ = some (.int .i64 s) := HL.out.cell 4
  have t0 := HL.out.frozen 0; have t1 := HL.out.frozen 1; have t2 := HL.out.frozen 2; have t3 := HL.out.frozen 3; have t4 := HL.out.frozen 4
  have q1a := kc q1 hal
  go_wp2_with (at_builtin; refine Sl.wpList_app (k := .u8) (B := W.heap.size) (l := []) (m := m) rfl _ _ rfl Tryz.underlying22 Sl.elemBYTE rfl rfl rfl HOE.out HHE.out ?_ (by decide) ?_ ?_)
  all_goals first | (intro v2 w2 ho2 hg2; skip) | omega | (simp; omega) | simp
  obtain ⟨yb, mb, db, rfl, -, -, ho2⟩ := Own.shapeN (enc := Value.int .u8) ho2
  replace ho2 : Sl.Own 5 .u8 W.heap.size w2 (.slice yb mb db) m := ho2
  have hs2 : W.heap.size ≤ w2.heap.size := Nat.le_trans hal.size hg2.size
  have HLB := Lib.hid (fun g hg => (ho2.lt g hg).2)
  have hrow : ∀ q, q < W.heap.size → some q ≠ (Value.slice (some ⟨W.heap.size, 0, none⟩) 0 0).ownBlock := fun q hq e => by have h5 : q = W.heap.size := Option.some.inj e; omega
  replace HX := Lib.hid ((HX.out.on hal).grown hg2 (hrow _ (by omega))); replace HR := Lib.hid ((HR.out.on hal).grown hg2 (hrow _ (by omega))); replace HL := Lib.hid ((HL.out.on hal).grown hg2 (hrow _ (by omega)))
  replace HO1 := Lib.hid ((HO1.out.on hal).grown hg2 (by
    cases hv : (Value.slice ya ma da).ownBlock with
    | none => exact Or.inl rfl
    | some q => exact Or.inr (hrow q (HLA.out q hv))))
  replace HB := Lib.hid ((HB.out.trans (hal.mono HB.out.size)).grown hg2 (Nat.le_trans HB.out.size hal.size) (fun g e => by have h5 : W.heap.size = g := Option.some.inj e; have h6 := HB.out.size; omega))
  have HO2 := Lib.hid ho2
  clear ho2 hg2 hal hrow HOE HHE q1a q0 q1 q2 q3 q4 p0 p1 p2 p3 p4 t0 t1 t2 t3 t4
  have q0 : w2.cell? ⟨w.heap.size, 0, none⟩ = some (.slice xa na ca) := HX.out.cell 0
  have q1 : w2.cell? ⟨w.heap.size, 1, none⟩ = some (.slice xb nb cb) := HX.out.cell 1
  have q2 : w2.cell? ⟨w.heap.size, 2, none⟩ = some (.slice xc nc cc) := HX.out.cell 2
  have q3 : w2.cell? ⟨w.heap.size, 3, none⟩ = some (.int .i64 f) := HX.out.cell 3
  have q4 : w2.cell? ⟨w.heap.size, 4, none⟩ = some (.int .i64 s) := HX.out.cell 4
  have p0 : w2.cell? ⟨w.heap.size + 1 + 1, 0, none⟩ = some (.slice ya ma da) := HL.out.cell 0
  have p1 : w2.cell? ⟨w.heap.size + 1 + 1, 1, none⟩ = some (.slice xb nb cb) := HL.out.cell 1
  have p2 : w2.cell? ⟨w.heap.size + 1 + 1, 2, none⟩ = some (.slice xc nc cc) := HL.out.cell 2
  have p3 : w2.cell? ⟨w.heap.size + 1 + 1, 3, none⟩ = some (.int .i64 f) := HL.out.cell 3
  have p4 : w2.cell? ⟨w.heap.size + 1 + 1, 4, none⟩ = some (.int .i64 s) := HL.out.cell 4
  have t0 := HL.out.frozen 0; have t1 := HL.out.frozen 1; have t2 := HL.out.frozen 2; have t3 := HL.out.frozen 3; have t4 := HL.out.frozen 4
  go_wp2_with fail
  clear q0 q1 q2 q3 q4 p0 p1 p2 p3 p4 t0 t1 t2 t3 t4
  replace HX := Lib.hid (HX.out.other (a := ⟨w.heap.size + 1 + 1, 1, none⟩) (by show w.heap.size + 1 + 1 ≠ w.heap.size; omega) (.slice yb mb db))
  replace HR := Lib.hid (HR.out.other (a := ⟨w.heap.size + 1 + 1, 1, none⟩) (by show w.heap.size + 1 + 1 ≠ w.heap.size + 1; omega) (.slice yb mb db))
  replace HL := Lib.hid (HL.out.set 1 (.slice yb mb db))
  replace HB := Lib.hid (HB.out.setCell (p := ⟨w.heap.size + 1 + 1, 1, none⟩) (by show w.heap.size ≤ w.heap.size + 1 + 1; omega) (.slice yb mb db))
  replace HO1 := Lib.hid (own_set (g := w.heap.size + 1 + 1) (i := 1) (u := .slice yb mb db) HO1.out (by omega))
  replace HO2 := Lib.hid (sl_own_set (g := w.heap.size + 1 + 1) (i := 1) (u := .slice yb mb db) HO2.out (by omega))
  refine (l4Copy _ k _ (H0.out.on HB.out).2.2 (by omega)).mono ?_
  rintro e w3 ⟨c1, rfl, ho3, hb3⟩
  obtain ⟨yc, mc, dc_, rfl, -, -, ho3⟩ := ho3.shapeN
  have hs3 := hb3.size
  simp only [World.size_setCell] at hs3 ho3
  replace HX := Lib.hid (HX.out.on hb3); replace HR := Lib.hid (HR.out.on hb3); replace HL := Lib.hid (HL.out.on hb3)
  replace HO1 := Lib.hid (HO1.out.on hb3); replace HO2 := Lib.hid (HO2.out.on hb3)
  replace HB := Lib.hid (HB.out.trans (hb3.mono HB.out.size))
  have HO3 := Lib.hid ho3
  clear ho3 hb3
  have q0 : w3.cell? ⟨w.heap.size, 0, none⟩ = some (.slice xa na ca) := HX.out.cell 0
  have q1 : w3.cell? ⟨w.heap.size, 1, none⟩ = some (.slice xb nb cb) := HX.out.cell 1
  have q2 : w3.cell? ⟨w.heap.size, 2, none⟩ = some (.slice xc nc cc) := HX.out.cell 2
  have q3 : w3.cell? ⟨w.heap.size, 3, none⟩ = some (.int .i64 f) := HX.out.cell 3
  have q4 : w3.cell? ⟨w.heap.size, 4, none⟩ = some (.int .i64 s) := HX.out.cell 4
  have p0 : w3.cell? ⟨w.heap.size + 1 + 1, 0, none⟩ = some (.slice ya ma da) := HL.out.cell 0
  have p1 : w3.cell? ⟨w.heap.size + 1 + 1, 1, none⟩ = some (.slice yb mb db) := HL.out.cell 1
  have p2 : w3.cell? ⟨w.heap.size + 1 + 1, 2, none⟩ = some (.slice xc nc cc) := HL.out.cell 2
  have p3 : w3.cell? ⟨w.heap.size + 1 + 1, 3, none⟩ = some (.int .i64 f) := HL.out.cell 3
  have p4 : w3.cell? ⟨w.heap.size + 1 + 1, 4, none⟩ = some (.int .i64 s) := HL.out.cell 4
  have t0 := HL.out.frozen 0; have t1 := HL.out.frozen 1; have t2 := HL.out.frozen 2; have t3 := HL.out.frozen 3; have t4 := HL.out.frozen 4
  have r0 : w3.cell? ⟨w.heap.size + 1, 0, none⟩ = some (.slice none 0 0) := HR.out.cell 0
  have r1 : w3.cell? ⟨w.heap.size + 1, 1, none⟩ = some (.slice none 0 0) := HR.out.cell 1
  have r2 : w3.cell? ⟨w.heap.size + 1, 2, none⟩ = some (.slice none 0 0) := HR.out.cell 2
  have r3 : w3.cell? ⟨w.heap.size + 1, 3, none⟩ = some (.int .i64 0) := HR.out.cell 3
  have r4 : w3.cell? ⟨w.heap.size + 1, 4, none⟩ = some (.int .i64 0) := HR.out.cell 4
  have u0 := HR.out.frozen 0; have u1 := HR.out.frozen 1; have u2 := HR.out.frozen 2; have u3 := HR.out.frozen 3; have u4 := HR.out.frozen 4
  have Z1 := Lib.hid ((((((HR.out.other (a := ⟨w.heap.size + 1 + 1, 2, none⟩) (by show w.heap.size + 1 + 1 ≠ w.heap.size + 1; omega) (.slice yc mc dc_)).set 0 (.slice ya ma da)).set 1 (.slice yb mb db)).set 2 (.slice yc mc dc_)).set 3 (.int .i64 f)).set 4 (.int .i64 s))
  have Z2 := Lib.hid (own_set (g := w.heap.size + 1) (i := 4) (u := .int .i64 s) (own_set (g := w.heap.size + 1) (i := 3) (u := .int .i64 f) (own_set (g := w.heap.size + 1) (i := 2) (u := .slice yc mc dc_) (own_set (g := w.heap.size + 1) (i := 1) (u := .slice yb mb db) (own_set (g := w.heap.size + 1) (i := 0) (u := .slice ya ma da) (own_set (g := w.heap.size + 1 + 1) (i := 2) (u := .slice yc mc dc_) HO1.out (by omega)) (by omega)) (by omega)) (by omega)) (by omega)) (by omega))
  have Z3 := Lib.hid (sl_own_set (g := w.heap.size + 1) (i := 4) (u := .int .i64 s) (sl_own_set (g := w.heap.size + 1) (i := 3) (u := .int .i64 f) (sl_own_set (g := w.heap.size + 1) (i := 2) (u := .slice yc mc dc_) (sl_own_set (g := w.heap.size + 1) (i := 1) (u := .slice yb mb db) (sl_own_set (g := w.heap.size + 1) (i := 0) (u := .slice ya ma da) (sl_own_set (g := w.heap.size + 1 + 1) (i := 2) (u := .slice yc mc dc_) HO2.out (by omega)) (by omega)) (by omega)) (by omega)) (by omega)) (by omega))
  have Z4 := Lib.hid (own_set (g := w.heap.size + 1) (i := 4) (u := .int .i64 s) (own_set (g := w.heap.size + 1) (i := 3) (u := .int .i64 f) (own_set (g := w.heap.size + 1) (i := 2) (u := .slice yc mc dc_) (own_set (g := w.heap.size + 1) (i := 1) (u := .slice yb mb db) (own_set (g := w.heap.size + 1) (i := 0) (u := .slice ya ma da) (own_set (g := w.heap.size + 1 + 1) (i := 2) (u := .slice yc mc dc_) HO3.out (by omega)) (by omega)) (by omega)) (by omega)) (by omega)) (by omega))
  have Z5 := Lib.hid ((((((HB.out.setCell (p := ⟨w.heap.size + 1 + 1, 2, none⟩) (by show w.heap.size ≤ w.heap.size + 1 + 1; omega) (.slice yc mc dc_)).setCell (p := ⟨w.heap.size + 1, 0, none⟩) (by show w.heap.size ≤ w.heap.size + 1; omega) (.slice ya ma da)).setCell (p := ⟨w.heap.size + 1, 1, none⟩) (by show w.heap.size ≤ w.heap.size + 1; omega) (.slice yb mb db)).setCell (p := ⟨w.heap.size + 1, 2, none⟩) (by show w.heap.size ≤ w.heap.size + 1; omega) (.slice yc mc dc_)).setCell (p := ⟨w.heap.size + 1, 3, none⟩) (by show w.heap.size ≤ w.heap.size + 1; omega) (.int .i64 f)).setCell (p := ⟨w.heap.size + 1, 4, none⟩) (by show w.heap.size ≤ w.heap.size + 1; omega) (.int .i64 s))
  go_wp2_with fail
  refine bodyPost_ret (Ret.results_c rfl _ _ (w.heap.size + 1) (dc (.slice ya ma da) (.slice yb mb db) (.slice yc mc dc_) f s).toList rfl aggD Z1.out.cells) rfl ?_
  have hlb := fun g hg => (Sl.Own.lt Z3.out g hg).1
  have hlc := fun g hg => (Own.lt Z4.out g hg).1
  exact ⟨_, _, _, rfl, ⟨Z2.out.mono (by omega), Sl.Own.mono Z3.out (by omega), Z4.out.mono (by omega), fun g e1 e2 => by have h5 := HLA.out g e1; have h6 := hlb g e2; omega, fun g e1 e2 => by have h5 := HLA.out g e1; have h6 := hlc g e2; omega, fun g e1 e2 => by have h5 := HLB.out g e1; have h6 := hlc g e2; omega⟩, Z5.out⟩

def validD (x : Dt) : Bool := validN x.1 && decide (0 < x.1.length) && decide (x.2.1.length ≤ 60) && validN x.2.2.1 && decide (0 ≤ x.2.2.2.1 ∧ x.2.2.2.1 ≤ 100000) && decide (0 ≤ x.2.2.2.2 ∧ x.2.2.2.2 ≤ 2147483646)
theorem validD_iff {x : Dt} : validD x = true ↔ validN x.1 = true ∧ 0 < x.1.length ∧ x.2.1.length ≤ 60 ∧ validN x.2.2.1 = true ∧ (0 ≤ x.2.2.2.1 ∧ x.2.2.2.1 ≤ 100000) ∧ (0 ≤ x.2.2.2.2 ∧ x.2.2.2.2 ≤ 2147483646) := by
  unfold validD
  simp only [Bool.and_eq_true, decide_eq_true_eq, and_assoc]
theorem validD_no {x : Dt} (h : ¬ (validN x.1 = true ∧ 0 < x.1.length ∧ x.2.1.length ≤ 60 ∧ validN x.2.2.1 = true ∧ (0 ≤ x.2.2.2.1 ∧ x.2.2.2.1 ≤ 100000) ∧ (0 ≤ x.2.2.2.2 ∧ x.2.2.2.2 ≤ 2147483646))) : validD x = false := by
  cases e : validD x with
  | false => rfl
  | true => exact absurd (validD_iff.1 e) h

set_option maxHeartbeats 4000000 in
theorem specValidData (a b c : Value) (x : Dt) (w : World) (h : DHold w a b c x) (h1 : bulk x.1 ≤ 9000000) (h3 : bulk x.2.2.1 ≤ 9000000) :
    Calls Tryz.prog 25 #[.agg (dc a b c x.2.2.2.1 x.2.2.2.2)] w fun e w' => e = .returned (.bool (validD x)) ∧ Below w.heap.size w w' := by
  obtain ⟨l, m, k, f, s⟩ := x
  simp only at h1 h3 ⊢
  obtain ⟨xa, na, ca, xb, nb, cb, xc, nc, cc, rfl, rfl, rfl⟩ := h.shape
  have HA := Lib.hid (show na = l.length from Holds.lenEq h.1); have HM := Lib.hid (show nb = m.length from Sl.Holds.lenEq h.2.1)
  have HB := Lib.hid ((Below.refl w.heap.size w).alloc (Nat.le_refl _) (.cells (dc (.slice xa na ca) (.slice xb nb cb) (.slice xc nc cc) f s) 28))
  have H0 := Lib.hid h
  have HX := Lib.hid (Ret.Blk.new w (dc (.slice xa na ca) (.slice xb nb cb) (.slice xc nc cc) f s) 28)
  clear h
  obtain ⟨v1, hv1⟩ : ∃ z, validN l = z := ⟨_, rfl⟩
  obtain ⟨v2, hv2⟩ : ∃ z, validN k = z := ⟨_, rfl⟩
  have HV1 := Lib.hid hv1; have HV2 := Lib.hid hv2
  clear hv1 hv2
  go_enter Tryz.func25, Tryz.ntmps25
  go_wp2_with fail
  refine (specValidName _ l _ (H0.out.on HB.out).1 (by omega)).mono ?_
  rintro e w1 ⟨rfl, hb⟩
  rw [HV1.out]
  replace HX := Lib.hid (HX.out.on hb)
  replace HB := Lib.hid (HB.out.trans (hb.mono HB.out.size)); clear hb
  have q0 : w1.cell? ⟨w.heap.size, 0, none⟩ = some (.slice xa na ca) := HX.out.cell 0
  have q1 : w1.cell? ⟨w.heap.size, 1, none⟩ = some (.slice xb nb cb) := HX.out.cell 1
  have q2 : w1.cell? ⟨w.heap.size, 2, none⟩ = some (.slice xc nc cc) := HX.out.cell 2
  have q3 : w1.cell? ⟨w.heap.size, 3, none⟩ = some (.int .i64 f) := HX.out.cell 3
  have q4 : w1.cell? ⟨w.heap.size, 4, none⟩ = some (.int .i64 s) := HX.out.cell 4
  cases v1 with
  | false =>
    have HV := Lib.hid (validD_no (x := (l, m, k, f, s)) (fun e => by have h9 := e.1; rw [show validN l = false from HV1.out] at h9; cases h9))
    go_wp2_with fail
    go_ret
    exact ⟨ret_bool HV.out.symm, HB.out⟩
  | true =>
    by_cases hn : 0 < na
    · have t2 : decide ((0 : Int) < (na : Int)) = true := by simp; omega
      by_cases hm : nb ≤ 60
      · have t3 : decide ((nb : Int) ≤ 60) = true := by simp; omega
        go_wp2_with fail
        clear q0 q1 q2 q3 q4
        refine (specValidName _ k _ (H0.out.on HB.out).2.2 (by omega)).mono ?_
        rintro e w2 ⟨rfl, hb⟩
        rw [HV2.out]
        replace HX := Lib.hid (HX.out.on hb)
        replace HB := Lib.hid (HB.out.trans (hb.mono HB.out.size)); clear hb
        have q0 : w2.cell? ⟨w.heap.size, 0, none⟩ = some (.slice xa na ca) := HX.out.cell 0
        have q1 : w2.cell? ⟨w.heap.size, 1, none⟩ = some (.slice xb nb cb) := HX.out.cell 1
        have q2 : w2.cell? ⟨w.heap.size, 2, none⟩ = some (.slice xc nc cc) := HX.out.cell 2
        have q3 : w2.cell? ⟨w.heap.size, 3, none⟩ = some (.int .i64 f) := HX.out.cell 3
        have q4 : w2.cell? ⟨w.heap.size, 4, none⟩ = some (.int .i64 s) := HX.out.cell 4
        cases v2 with
        | false =>
          have HV := Lib.hid (validD_no (x := (l, m, k, f, s)) (fun e => by have h9 := e.2.2.2.1; rw [show validN k = false from HV2.out] at h9; cases h9))
          go_wp2_with fail
          go_ret
          exact ⟨ret_bool HV.out.symm, HB.out⟩
        | true =>
          by_cases hf : 0 ≤ f ∧ f ≤ 100000
          · have HI := Lib.hid (fun wx => Num.specIn_true hf.1 hf.2 wx)
            have H_hf := Lib.hid hf
            clear hf
            go_wp2_with fail
            refine (HI.out _).mono ?_
            rintro e w' ⟨rfl, rfl⟩
            clear HI
            by_cases hs : 0 ≤ s ∧ s ≤ 2147483646
            · have HI := Lib.hid (fun wx => Num.specIn_true hs.1 hs.2 wx)
              have H_hs := Lib.hid hs
              clear hs
              go_wp2_with fail
              refine (HI.out _).mono ?_
              rintro e w' ⟨rfl, rfl⟩
              clear HI
              have HV := Lib.hid ((validD_iff (x := (l, m, k, f, s))).2 (show validN l = true ∧ 0 < l.length ∧ m.length ≤ 60 ∧ validN k = true ∧ (0 ≤ f ∧ f ≤ 100000) ∧ (0 ≤ s ∧ s ≤ 2147483646) from ⟨HV1.out, by rw [← HA.out]; exact hn, by rw [← HM.out]; exact hm, HV2.out, H_hf.out, H_hs.out⟩))
              go_wp2_with fail
              go_ret
              exact ⟨ret_bool HV.out.symm, HB.out⟩
            · have HI := Lib.hid (fun wx => Num.specIn_false hs wx)
              have HV := Lib.hid (validD_no (x := (l, m, k, f, s)) (fun e => hs e.2.2.2.2.2))
              clear hs
              go_wp2_with fail
              refine (HI.out _).mono ?_
              rintro e w' ⟨rfl, rfl⟩
              go_wp2_with fail
              go_ret
              exact ⟨ret_bool HV.out.symm, HB.out⟩
          · have HI := Lib.hid (fun wx => Num.specIn_false hf wx)
            have HV := Lib.hid (validD_no (x := (l, m, k, f, s)) (fun e => hf e.2.2.2.2.1))
            clear hf
            go_wp2_with fail
            refine (HI.out _).mono ?_
            rintro e w' ⟨rfl, rfl⟩
            go_wp2_with fail
            go_ret
            exact ⟨ret_bool HV.out.symm, HB.out⟩
      · have t3 : decide ((nb : Int) ≤ 60) = false := by simp; omega
        have HV := Lib.hid (validD_no (x := (l, m, k, f, s)) (fun e => hm (by rw [HM.out]; exact e.2.2.1)))
        go_wp2_with fail
        go_ret
        exact ⟨ret_bool HV.out.symm, HB.out⟩
    · have t2 : decide ((0 : Int) < (na : Int)) = false := by simp; omega
      have HV := Lib.hid (validD_no (x := (l, m, k, f, s)) (fun e => hn (by rw [HA.out]; exact e.2.1)))
      go_wp2_with fail
      go_ret
      exact ⟨ret_bool HV.out.symm, HB.out⟩

theorem specFreshAt (a b c : Value) (x : Dt) (n : Int) (w : World) (hv : ∃ xa na ca xb nb cb xc nc cc, a = .slice xa na ca ∧ b = .slice xb nb cb ∧ c = .slice xc nc cc) :
    Calls Tryz.prog 23 #[.agg (dc a b c x.2.2.2.1 x.2.2.2.2), .int .i64 n] w fun e w' => e = .returned (.bool (decide (n ≤ x.2.2.2.1))) ∧ Below w.heap.size w w' := by
  obtain ⟨l, m, k, f, s⟩ := x
  obtain ⟨xa, na, ca, xb, nb, cb, xc, nc, cc, rfl, rfl, rfl⟩ := hv
  simp only
  obtain ⟨z, hz⟩ : ∃ z, decide (n ≤ f) = z := ⟨_, rfl⟩
  have HB := Lib.hid ((Below.refl w.heap.size w).alloc (Nat.le_refl _) (.cells (dc (.slice xa na ca) (.slice xb nb cb) (.slice xc nc cc) f s) 28))
  rw [hz]
  go_enter Tryz.func23, Tryz.ntmps23
  go_wp2_with fail
  go_ret
  exact ⟨rfl, HB.out⟩

end Go.Proofs.YtbooamnlocobfaaGreat.Row
/- What chapter 3 computes, on lists of numbers: digest, MAC, the bytes of a slice as numbers, enciphered and deciphered bytes. No conditions. -/
namespace Go.Proofs.YtbooamnlocobfaaGreat.Seal
open Sl (nth nth_eq)

def dstep (d x : Int) : Int := (d * 1000003 + x % 2147483647 + 13) % 2147483647
def digest (l : List Int) : Int := l.foldl dstep 11
def mac (s : Int) (l : List Int) : Int := digest ([s] ++ l ++ [s])
def b2i (l : List Int) : List Int := (l.length : Int) :: l
def derive (s : Int) (l : List Int) : Int := if mac s (b2i l) = 0 then 1 else mac s (b2i l)
def chg (f : Nat → Int → Int) (l : List Int) : List Int := l.mapIdx f
def encF (s : Int) (i : Nat) (x : Int) : Int := (x + mac s [(i : Int)]) % 256
def decF (s : Int) (i : Nat) (x : Int) : Int := (x - mac s [(i : Int)]) % 256
def enc (s : Int) (l : List Int) : List Int := chg (encF s) l
def dec (s : Int) (l : List Int) : List Int := chg (decF s) l

theorem dstep_in (d x : Int) : 0 ≤ dstep d x ∧ dstep d x < 2147483647 := by unfold dstep; omega
theorem foldl_in (l : List Int) : ∀ d : Int, 0 ≤ d → d < 2147483647 → 0 ≤ l.foldl dstep d ∧ l.foldl dstep d < 2147483647 := by
  induction l with
  | nil => intro d h0 h1; exact ⟨h0, h1⟩
  | cons x r ih => intro d h0 h1; exact ih _ (dstep_in d x).1 (dstep_in d x).2
theorem digest_in (l : List Int) : 0 ≤ digest l ∧ digest l < 2147483647 := foldl_in l 11 (by decide) (by decide)
theorem mac_in (s : Int) (l : List Int) : 0 ≤ mac s l ∧ mac s l < 2147483647 := digest_in _
theorem digest_zero (l : List Int) : digest (l.take 0) = 11 := by simp [digest]
theorem digest_step {l : List Int} {k : Nat} (h : k < l.length) : digest (l.take (k + 1)) = dstep (digest (l.take k)) (nth l k) := by
  unfold digest
  rw [List.take_succ_eq_append_getElem h, List.foldl_append, nth_eq h]; rfl
theorem b2i_length (l : List Int) : (b2i l).length = l.length + 1 := rfl
theorem b2i_step {l : List Int} {k : Nat} (h : k < l.length) : (l.length : Int) :: l.take (k + 1) = ((l.length : Int) :: l.take k) ++ [nth l k] := by
  rw [List.take_succ_eq_append_getElem h, nth_eq h]; rfl
theorem chg_length (f : Nat → Int → Int) (l : List Int) : (chg f l).length = l.length := by simp [chg]
theorem enc_length (s : Int) (l : List Int) : (enc s l).length = l.length := chg_length _ _
theorem dec_length (s : Int) (l : List Int) : (dec s l).length = l.length := chg_length _ _
theorem dec_enc {s : Int} {l : List Int} (h : ∀ x ∈ l, 0 ≤ x ∧ x ≤ 255) : dec s (enc s l) = l := by
  apply List.ext_getElem
  · rw [dec_length, enc_length]
  · intro i h1 h2
    have := h _ (List.getElem_mem h2)
    simp only [dec, enc, chg, List.getElem_mapIdx, decF, encF]
    omega
theorem enc_dec {s : Int} {l : List Int} (h : ∀ x ∈ l, 0 ≤ x ∧ x ≤ 255) : enc s (dec s l) = l := by
  apply List.ext_getElem
  · rw [enc_length, dec_length]
  · intro i h1 h2
    have := h _ (List.getElem_mem h2)
    simp only [dec, enc, chg, List.getElem_mapIdx, decF, encF]
    omega
/-- A step keeps numbers apart: 1000003 is invertible modulo 2147483647. -/
theorem back (a : Int) : a * 1000003 % 2147483647 * 1523789695 % 2147483647 = a % 2147483647 := by
  rw [Int.mul_emod, Int.emod_emod, ← Int.mul_emod, Int.mul_assoc, show (1000003 * 1523789695 : Int) = 1 + 709572 * 2147483647 by decide, Int.mul_add, Int.mul_one, ← Int.mul_assoc, Int.add_mul_emod_self_right]
theorem fac {a b : Int} (h : a * 1000003 % 2147483647 = b * 1000003 % 2147483647) : a % 2147483647 = b % 2147483647 := by
  rw [← back a, ← back b, h]
theorem shift {A B r : Int} (h : (A + r + 13) % 2147483647 = (B + r + 13) % 2147483647) : A % 2147483647 = B % 2147483647 := by omega
theorem dstep_left {a b : Int} (x : Int) (ha : 0 ≤ a) (ha' : a < 2147483647) (hb : 0 ≤ b) (hb' : b < 2147483647) (h : dstep a x = dstep b x) : a = b := by
  unfold dstep at h
  have h2 := fac (shift h)
  rwa [Int.emod_eq_of_lt ha ha', Int.emod_eq_of_lt hb hb'] at h2
theorem foldl_inj (l : List Int) : ∀ a b : Int, 0 ≤ a → a < 2147483647 → 0 ≤ b → b < 2147483647 → l.foldl dstep a = l.foldl dstep b → a = b := by
  induction l with
  | nil => intro a b _ _ _ _ h; exact h
  | cons x r ih =>
    intro a b a0 a1 b0 b1 h
    exact dstep_left x a0 a1 b0 b1 (ih _ _ (dstep_in a x).1 (dstep_in a x).2 (dstep_in b x).1 (dstep_in b x).2 h)
theorem dstep_right {d x y : Int} (h : dstep d x = dstep d y) : x % 2147483647 = y % 2147483647 := by
  unfold dstep at h; omega
end Go.Proofs.YtbooamnlocobfaaGreat.Seal
/- Contracts of the library's slices.Grow at the nil slice, slices.Concat and slices.Equal at slices of integers. No conditions but that lengths fit. -/
namespace Go.Proofs.YtbooamnlocobfaaGreat.Sl
open Go.ChangeShapes Go.WideShapes Go.ChangeAt Go.RowKit Go.Instr
set_option linter.unusedVariables false
set_option maxRecDepth 100000

theorem own_one (k : IntKind) (e : TypeId) (w : World) (x : Int) : Own e k w.heap.size (w.alloc (.cells #[.int k x] e)) (.slice (some ⟨w.heap.size, 0, none⟩) 1 1) [x] :=
  World.ownsRow_lit w #[.int k x] 1 (Nat.le_refl _) (by unfold maxLen; omega) rfl

set_option maxHeartbeats 1000000 in
theorem growNil (n : Nat) (w : World) (hn : n ≤ 100000000) :
    Calls Tryz.prog 100 #[.slice none 0 0, .int .i64 n] w (GivesI w []) := by
  by_cases h0 : 0 < n
  · obtain ⟨i0, hi, hz0, hz1, hz2⟩ := info_parts elemINT
    have hrz : ∀ ty, (Builtin.append_ #[47, 3] ty #[.slice none 0 0, .int .i64 (n : Int)]).run Tryz.prog w =
        .ok (.slice (some ⟨w.heap.size, 0, none⟩) (0 + n) (grownCap w (0 + n) 0 3)) (w.drew.alloc (.cells (([] : List Value).toArray ++ Builtin.zeroCells (Value.int .i64 0).cells n ++ Builtin.zeroCells (Value.int .i64 0).cells (grownCap w (0 + n) 0 3 - (0 + n))) 3)) := fun ty => by
      have hfit := growslice_fits (need := 0 + n) (old := 0) (bytes := i0.bytes) (by omega) (by rw [hz2]; omega)
      exact Lib.run_append_grow_zeros w 47 3 ty 3 i0 (.int .i64 0) .i64 .i64 Tryz.underlying47 Tryz.underlying3 hi hz0 none 0 0 [] (by rw [hz1]; exact run_firstCells_none w.drew 1 0 0 0) n h0 (by rw [hz1]; decide) (by omega) (by omega) (by rw [hz2]; omega) hfit
    have hGn : 0 + n ≤ grownCap w (0 + n) 0 3 := grownCap_ge w _ _ _
    have hG63 := grownCap_le_maxLen w (0 + n) 0 3 (by unfold maxLen; omega)
    obtain ⟨G, hG⟩ : ∃ G, G = grownCap w (0 + n) 0 3 := ⟨_, rfl⟩
    rw [← hG] at hrz hGn hG63
    have hown : Own 3 .i64 w.heap.size ((w.alloc (.cells (Builtin.zeroCells #[.int .i64 0] n ++ Builtin.zeroCells #[.int .i64 0] (G - n)) 3)).drew) (.slice (some ⟨w.heap.size, 0, none⟩) 0 G) [] := by
      refine ⟨rfl, .inr ⟨w.heap.size, G, _, rfl, Nat.le_refl _, heap_alloc_new w _, Nat.zero_le _, hG63, ?_, by simp⟩⟩
      simp only [Array.size_append, size_zeroCells]
      simp; omega
    have HOWN := Lib.hid hown; have HR := Lib.hid hrz
    unfold maxLen at hG63
    clear hi hz0 hz1 hz2 hG hown hrz
    go_enter Tryz.func100, Tryz.ntmps100
    go_wp2_with (at_builtin; refine Lib.wpList_append_run _ rfl _ _ _ _ rfl _ _ rfl rfl _ _ (HR.out _) ?_)
    all_goals (go_ret; exact ⟨.slice (some ⟨w.heap.size, 0, none⟩) 0 G, rfl, HOWN.out, ((Below.refl _ _).alloc (Nat.le_refl _) _).drew⟩)
  · obtain rfl : n = 0 := by omega
    go_enter Tryz.func100, Tryz.ntmps100
    go_wp2_with fail
    go_ret
    exact ⟨_, rfl, Own.nil _ _ _ _, Below.refl _ _⟩

/-- The first k lists, one behind the other. -/
def cat (ls : Nat → List Int) : Nat → List Int
  | 0 => []
  | k + 1 => cat ls k ++ ls k
theorem cat_mono (ls : Nat → List Int) {k n : Nat} (h : k ≤ n) : (cat ls k).length ≤ (cat ls n).length := by
  induction n with
  | zero => obtain rfl : k = 0 := by omega
            exact Nat.le_refl _
  | succ n ih =>
    by_cases e : k = n + 1
    · subst e; exact Nat.le_refl _
    · have := ih (by omega)
      simp only [cat, List.length_append]; omega

set_option maxHeartbeats 2000000 in
theorem concat (b : Nat) (vs : Nat → Value) (ls : Nat → List Int) (n : Nat) (w : World) (hn : n ≤ 1000) (hc : ∀ j, j < n → w.cell? ⟨b, j, none⟩ = some (vs j)) (hh : ∀ j, j < n → Holds .i64 w (vs j) (ls j)) (hlen : (cat ls n).length ≤ 10000000) :
    Calls Tryz.prog 91 #[.slice (some ⟨b, 0, none⟩) n n] w (GivesI w (cat ls n)) := by
  have HC := Lib.hid hc; have HH := Lib.hid hh
  clear hc hh
  go_enter Tryz.func91, Tryz.ntmps91
  go_wp2_with fail
  go_loop [3, 11] (fun sv iv => ∃ k : Nat, k ≤ n ∧ iv = .int .i64 k ∧ sv = .int .i64 ((cat ls k).length : Nat)) (fun _ iv => n - (intOf iv).toNat)
  case atStart => exact ⟨0, Nat.zero_le _, rfl, rfl⟩
  case round =>
    obtain ⟨k, hk, rfl, rfl⟩ := hrel
    by_cases hlt : k < n
    · have hcell := HC.out k hlt
      obtain ⟨x, cap, hv, hcap, -⟩ := (HH.out k hlt).shape
      rw [hv] at hcell
      have hm := cat_mono ls (k := k + 1) (n := n) (by omega)
      have HS := Lib.hid (show (cat ls (k + 1)).length = (cat ls k).length + (ls k).length by simp [cat])
      have hm2 : (cat ls k).length + (ls k).length ≤ 10000000 := by rw [← HS.out]; omega
      obtain ⟨c, hcc⟩ : ∃ c, c = (cat ls k).length := ⟨_, rfl⟩
      obtain ⟨d, hdd⟩ : ∃ d, d = (ls k).length := ⟨_, rfl⟩
      rw [← hcc, ← hdd] at HS hm2
      rw [← hcc]
      rw [← hdd] at hcell hcap
      clear hv hm hcc hdd
      go_wp2_with fail
      go_round
      case rel => exact ⟨k + 1, by omega, by go_num, by rw [HS.out]; go_num⟩
      case measure => simp [intOf]; omega
    · obtain rfl : k = n := by omega
      clear hlt
      have HG := Lib.hid (growNil (cat ls k).length w (by omega))
      obtain ⟨c, hcc⟩ : ∃ c, c = (cat ls k).length := ⟨_, rfl⟩
      have HL := Lib.hid hlen
      rw [← hcc] at HG ⊢
      clear hcc hlen
      go_wp2_with fail
      refine HG.out.mono ?_
      rintro e w1 ⟨v1, rfl, ho, hb⟩
      have HO := Lib.hid ho; have HB := Lib.hid hb
      clear ho hb
      go_wp2_with fail
      go_loopw [6, 27] (fun rv iv wr => ∃ j : Nat, j ≤ k ∧ iv = .int .i64 j ∧ Hid (Own 3 .i64 w.heap.size wr rv (cat ls j)) ∧ Hid (Below w.heap.size w wr)) (fun _ iv _ => k - (intOf iv).toNat)
      case atStart => exact ⟨0, Nat.zero_le _, rfl, HO, HB⟩
      case round =>
        obtain ⟨j, hj, rfl, hr, hbr⟩ := hrel
        by_cases hlt : j < k
        · have hcell := hbr.out.cell (cell_lt (HC.out j hlt))
          rw [HC.out j hlt] at hcell
          have HHJ := (HH.out j hlt).on hbr.out
          have hmono := cat_mono ls (k := j + 1) (n := k) (by omega)
          have hsum : (cat ls j).length + (ls j).length ≤ 10000000 := by
            have := HL.out
            simp only [cat, List.length_append] at hmono; omega
          obtain ⟨x, cap, hv, hcap, hh⟩ := HHJ.shape
          rw [hv] at hcell
          have HHH := Lib.hid hh
          clear hv hmono HHJ hh
          go_wp2_with (at_builtin; refine wpList_app (k := .i64) (B := w.heap.size) (l := cat ls j) (m := ls j) rfl _ _ rfl Tryz.underlying47 elemINT rfl rfl rfl hr.out HHH.out ?_ (by decide) hbr.out.size ?_)
          · omega
          intro v2 w2 ho hg
          have HO2 := Lib.hid ho; have HB2 := Lib.hid (hbr.out.grown hg hbr.out.size (fun g hh => (hr.out.lt g hh).1))
          clear ho hg
          go_wp2_with fail
          go_roundw
          case rel => exact ⟨j + 1, by omega, by go_num, HO2, HB2⟩
          case measure => simp [intOf]; omega
        · obtain rfl : j = k := by omega
          clear hlt
          go_wp2_with fail
          go_ret
          exact ⟨_, rfl, hr.out, hbr.out⟩

theorem libEqI_len (x y : Option Addr) (n m cx cy : Nat) (w : World) (h : (((n : Nat) : Int) != ((m : Nat) : Int)) = true) :
    Calls Tryz.prog 88 #[.slice x n cx, .slice y m cy] w fun e w' => e = .returned (.bool false) ∧ w = w' := by
  go_enter Tryz.func88, Tryz.ntmps88
  go_wp2
  go_ret
  exact ⟨rfl, rfl⟩

set_option maxHeartbeats 1000000 in
theorem libEqI (v u : Value) (l m : List Int) (w : World) (h : Holds .i64 w v l) (g : Holds .i64 w u m) (hl : l.length ≤ 100000000) (hm : m.length ≤ 100000000) :
    Calls Tryz.prog 88 #[v, u] w fun e w' => e = .returned (.bool (eqB l m)) ∧ Below w.heap.size w w' := by
  obtain ⟨x, cx, rfl, hcx, hh⟩ := h.shape
  obtain ⟨y, cy, rfl, hcy, hg⟩ := g.shape
  by_cases he : l.length = m.length
  · obtain ⟨n, hn⟩ : ∃ n, n = l.length := ⟨_, rfl⟩
    rw [← he] at hg hm hcy ⊢
    rw [← hn] at hcx hh hl hg hm hcy ⊢
    have HE := Lib.hid he
    have HN := Lib.hid hn
    have HH := Lib.hid hh
    have HG := Lib.hid hg
    have htest : (((n : Nat) : Int) != ((n : Nat) : Int)) = false := by simp
    clear hn h hh g hg he
    go_enter Tryz.func88, Tryz.ntmps88
    go_wp2
    go_loopw [13] (fun i wr => ∃ k nq : Nat, k ≤ n ∧ i = .int .i64 k ∧ Hid (agree l m k) ∧ wr = w.drewN nq) (fun i _ => n - (intOf i).toNat)
    case atStart => exact ⟨0, 0, Nat.zero_le _, rfl, Lib.hid (agree_zero _ _), rfl⟩
    case round =>
      obtain ⟨k, nq, hk, rfl, ha, rfl⟩ := hrel
      by_cases hlt : k < n
      · have hlen := HN.out
        have hlen2 := HE.out
        obtain ⟨b, off, rfl, hc⟩ := HH.out.at (j := k) (by omega)
        obtain ⟨b', off', rfl, hc'⟩ := HG.out.at (j := k) (by omega)
        clear hlen hlen2
        by_cases hd : nth l k = nth m k
        · have hd2 : (nth l k != nth m k) = false := by simpa using hd
          have HD := Lib.hid hd; clear hd
          go_wp2_with fail
          go_quiet (fail)
          go_wp2_with fail
          go_roundw
          case rel => exact ⟨k + 1, _, by omega, by go_num, Lib.hid (agree_succ ha.out HD.out), rfl⟩
          case measure => simp [intOf]; omega
        · have hd2 : (nth l k != nth m k) = true := by simpa using hd
          have HD := Lib.hid (eqB_false (differ_at hd)); clear hd
          go_wp2_with fail
          go_quiet (fail)
          go_wp2_with fail
          go_ret
          exact ⟨ret_bool HD.out.symm, below_drewN (below_drewN (Below.refl _ _) _) _⟩
      · obtain rfl : k = n := by omega
        have HD := Lib.hid (eqB_true (agree_all HE.out (HN.out ▸ ha.out)))
        clear hlt
        go_wp2
        go_ret
        exact ⟨ret_bool HD.out.symm, below_drewN (Below.refl _ _) _⟩
  · have htest : (((l.length : Nat) : Int) != ((m.length : Nat) : Int)) = true := by
      rw [bne_iff_ne]; omega
    rw [eqB_false (fun e => he (by rw [e]))]
    exact (libEqI_len x y _ _ cx cy w htest).mono fun e w' ⟨h1, h2⟩ => ⟨h1, by subst h2; exact Below.refl _ _⟩
end Go.Proofs.YtbooamnlocobfaaGreat.Sl
/- Contracts of the laws' own comparisons of slices of numbers: whether they hold equal lists. Nothing in memory turns but the count of draws. No conditions but that lengths fit. -/
namespace Go.Proofs.YtbooamnlocobfaaGreat.Sl
open Go.ChangeShapes Go.WideShapes Go.ChangeAt Go.RowKit Go.Instr
set_option linter.unusedVariables false
set_option maxRecDepth 100000

theorem sameB_len (x y : Option Addr) (n m cx cy : Nat) (w : World) (h : (((n : Nat) : Int) != ((m : Nat) : Int)) = true) :
    Calls Tryz.prog 14 #[.slice x n cx, .slice y m cy] w fun e w' => e = .returned (.bool false) ∧ w = w' := by
  go_enter Tryz.func14, Tryz.ntmps14
  go_wp2
  go_ret
  exact ⟨rfl, rfl⟩

set_option maxHeartbeats 1000000 in
theorem sameB (v u : Value) (l m : List Int) (w : World) (h : Holds .u8 w v l) (g : Holds .u8 w u m) (hl : l.length ≤ 100000000) (hm : m.length ≤ 100000000) :
    Calls Tryz.prog 14 #[v, u] w fun e w' => e = .returned (.bool (eqB l m)) ∧ Below w.heap.size w w' := by
  obtain ⟨x, cx, rfl, hcx, hh⟩ := h.shape
  obtain ⟨y, cy, rfl, hcy, hg⟩ := g.shape
  by_cases he : l.length = m.length
  · obtain ⟨n, hn⟩ : ∃ n, n = l.length := ⟨_, rfl⟩
    rw [← he] at hg hm hcy ⊢
    rw [← hn] at hcx hh hl hg hm hcy ⊢
    have HE := Lib.hid he
    have HN := Lib.hid hn
    have HH := Lib.hid hh
    have HG := Lib.hid hg
    have htest : (((n : Nat) : Int) != ((n : Nat) : Int)) = false := by simp
    clear hn h hh g hg he
    go_enter Tryz.func14, Tryz.ntmps14
    go_wp2
    go_loopw [5] (fun i wr => ∃ k nq : Nat, k ≤ n ∧ i = .int .i64 k ∧ Hid (agree l m k) ∧ wr = w.drewN nq) (fun i _ => n - (intOf i).toNat)
    case atStart => exact ⟨0, 0, Nat.zero_le _, rfl, Lib.hid (agree_zero _ _), rfl⟩
    case round =>
      obtain ⟨k, nq, hk, rfl, ha, rfl⟩ := hrel
      by_cases hlt : k < n
      · have hlen := HN.out
        have hlen2 := HE.out
        obtain ⟨b, off, rfl, hc⟩ := HH.out.at (j := k) (by omega)
        obtain ⟨b', off', rfl, hc'⟩ := HG.out.at (j := k) (by omega)
        clear hlen hlen2
        by_cases hd : nth l k = nth m k
        · have hd2 : (nth l k != nth m k) = false := by simpa using hd
          have HD := Lib.hid hd; clear hd
          go_wp2_with fail
          go_quiet (fail)
          go_wp2_with fail
          go_roundw
          case rel => exact ⟨k + 1, _, by omega, by go_num, Lib.hid (agree_succ ha.out HD.out), rfl⟩
          case measure => simp [intOf]; omega
        · have hd2 : (nth l k != nth m k) = true := by simpa using hd
          have HD := Lib.hid (eqB_false (differ_at hd)); clear hd
          go_wp2_with fail
          go_quiet (fail)
          go_wp2_with fail
          go_ret
          exact ⟨ret_bool HD.out.symm, below_drewN (below_drewN (Below.refl _ _) _) _⟩
      · obtain rfl : k = n := by omega
        have HD := Lib.hid (eqB_true (agree_all HE.out (HN.out ▸ ha.out)))
        clear hlt
        go_wp2
        go_ret
        exact ⟨ret_bool HD.out.symm, below_drewN (Below.refl _ _) _⟩
  · have htest : (((l.length : Nat) : Int) != ((m.length : Nat) : Int)) = true := by
      rw [bne_iff_ne]; omega
    rw [eqB_false (fun e => he (by rw [e]))]
    exact (sameB_len x y _ _ cx cy w htest).mono fun e w' ⟨h1, h2⟩ => ⟨h1, by subst h2; exact Below.refl _ _⟩

theorem sameI_len (x y : Option Addr) (n m cx cy : Nat) (w : World) (h : (((n : Nat) : Int) != ((m : Nat) : Int)) = true) :
    Calls Tryz.prog 26 #[.slice x n cx, .slice y m cy] w fun e w' => e = .returned (.bool false) ∧ w = w' := by
  go_enter Tryz.func26, Tryz.ntmps26
  go_wp2
  go_ret
  exact ⟨rfl, rfl⟩

set_option maxHeartbeats 1000000 in
theorem sameI (v u : Value) (l m : List Int) (w : World) (h : Holds .i64 w v l) (g : Holds .i64 w u m) (hl : l.length ≤ 100000000) (hm : m.length ≤ 100000000) :
    Calls Tryz.prog 26 #[v, u] w fun e w' => e = .returned (.bool (eqB l m)) ∧ Below w.heap.size w w' := by
  obtain ⟨x, cx, rfl, hcx, hh⟩ := h.shape
  obtain ⟨y, cy, rfl, hcy, hg⟩ := g.shape
  by_cases he : l.length = m.length
  · obtain ⟨n, hn⟩ : ∃ n, n = l.length := ⟨_, rfl⟩
    rw [← he] at hg hm hcy ⊢
    rw [← hn] at hcx hh hl hg hm hcy ⊢
    have HE := Lib.hid he
    have HN := Lib.hid hn
    have HH := Lib.hid hh
    have HG := Lib.hid hg
    have htest : (((n : Nat) : Int) != ((n : Nat) : Int)) = false := by simp
    clear hn h hh g hg he
    go_enter Tryz.func26, Tryz.ntmps26
    go_wp2
    go_loopw [5] (fun i wr => ∃ k nq : Nat, k ≤ n ∧ i = .int .i64 k ∧ Hid (agree l m k) ∧ wr = w.drewN nq) (fun i _ => n - (intOf i).toNat)
    case atStart => exact ⟨0, 0, Nat.zero_le _, rfl, Lib.hid (agree_zero _ _), rfl⟩
    case round =>
      obtain ⟨k, nq, hk, rfl, ha, rfl⟩ := hrel
      by_cases hlt : k < n
      · have hlen := HN.out
        have hlen2 := HE.out
        obtain ⟨b, off, rfl, hc⟩ := HH.out.at (j := k) (by omega)
        obtain ⟨b', off', rfl, hc'⟩ := HG.out.at (j := k) (by omega)
        clear hlen hlen2
        by_cases hd : nth l k = nth m k
        · have hd2 : (nth l k != nth m k) = false := by simpa using hd
          have HD := Lib.hid hd; clear hd
          go_wp2_with fail
          go_quiet (fail)
          go_wp2_with fail
          go_roundw
          case rel => exact ⟨k + 1, _, by omega, by go_num, Lib.hid (agree_succ ha.out HD.out), rfl⟩
          case measure => simp [intOf]; omega
        · have hd2 : (nth l k != nth m k) = true := by simpa using hd
          have HD := Lib.hid (eqB_false (differ_at hd)); clear hd
          go_wp2_with fail
          go_quiet (fail)
          go_wp2_with fail
          go_ret
          exact ⟨ret_bool HD.out.symm, below_drewN (below_drewN (Below.refl _ _) _) _⟩
      · obtain rfl : k = n := by omega
        have HD := Lib.hid (eqB_true (agree_all HE.out (HN.out ▸ ha.out)))
        clear hlt
        go_wp2
        go_ret
        exact ⟨ret_bool HD.out.symm, below_drewN (Below.refl _ _) _⟩
  · have htest : (((l.length : Nat) : Int) != ((m.length : Nat) : Int)) = true := by
      rw [bne_iff_ne]; omega
    rw [eqB_false (fun e => he (by rw [e]))]
    exact (sameI_len x y _ _ cx cy w htest).mono fun e w' ⟨h1, h2⟩ => ⟨h1, by subst h2; exact Below.refl _ _⟩


theorem sameB_self (v u : Value) (l : List Int) (w : World) (h : Holds .u8 w v l) (g : Holds .u8 w u l) (hl : l.length ≤ 100000000) :
    Calls Tryz.prog 14 #[v, u] w fun e w' => e = .returned (.bool true) ∧ Below w.heap.size w w' := by
  have := sameB v u l l w h g hl hl
  rwa [eqB_self] at this
theorem sameI_self (v u : Value) (l : List Int) (w : World) (h : Holds .i64 w v l) (g : Holds .i64 w u l) (hl : l.length ≤ 100000000) :
    Calls Tryz.prog 26 #[v, u] w fun e w' => e = .returned (.bool true) ∧ Below w.heap.size w w' := by
  have := sameI v u l l w h g hl hl
  rwa [eqB_self] at this
end Go.Proofs.YtbooamnlocobfaaGreat.Sl
/- Contracts of chapter 3's digests and MACs, the reference model's and the program's: Digest, ComputeMAC, ValidSecret, BytesToInts, DeriveSecret, EqualInts. What was in memory stays as it was. No conditions but that lengths fit. -/
namespace Go.Proofs.YtbooamnlocobfaaGreat.Sl
open Go.ChangeShapes Go.WideShapes Go.ChangeAt Go.RowKit Go.Instr
open Seal (digest mac b2i derive dstep)
set_option linter.unusedVariables false
set_option maxRecDepth 100000

theorem implModP (n : Int) (w : World) : Calls Tryz.prog 103 #[.int .i64 n, .int .i64 2147483647] w fun e w' => (∃ r : Int, e = .returned (.int .i64 r) ∧ r = n % 2147483647 ∧ 0 ≤ r ∧ r < 2147483647) ∧ w = w' := by
  refine (Num.implMod n 2147483647 w).mono ?_
  rintro e w' ⟨rfl, rfl⟩
  exact ⟨⟨_, rfl, by simp [Num.modI], Num.modI_nonneg _ (by decide), Num.modI_lt _ (by decide)⟩, rfl⟩
theorem specModP (n : Int) (w : World) : Calls Tryz.prog 97 #[.int .i64 n, .int .i64 2147483647] w fun e w' => (∃ r : Int, e = .returned (.int .i64 r) ∧ r = n % 2147483647 ∧ 0 ≤ r ∧ r < 2147483647) ∧ w = w' := by
  refine (Num.specMod n 2147483647 w).mono ?_
  rintro e w' ⟨rfl, rfl⟩
  exact ⟨⟨_, rfl, by simp [Num.modI], Num.modI_nonneg _ (by decide), Num.modI_lt _ (by decide)⟩, rfl⟩

set_option maxHeartbeats 1000000 in
theorem implDigest (v : Value) (l : List Int) (w : World) (h : Holds .i64 w v l) (hl : l.length ≤ 100000000) :
    Calls Tryz.prog 98 #[v] w fun e w' => e = .returned (.int .i64 (digest l)) ∧ w = w' := by
  obtain ⟨x, cap, rfl, hcap, hh⟩ := h.shape
  obtain ⟨n, hn⟩ : ∃ n, n = l.length := ⟨_, rfl⟩
  rw [← hn] at hcap hh hl ⊢
  have HN := Lib.hid hn; have HH := Lib.hid hh
  clear hn h hh
  go_enter Tryz.func98, Tryz.ntmps98
  go_wp2_with fail
  go_loop [3, 8] (fun dv iv => ∃ (k : Nat) (d : Int), k ≤ n ∧ iv = .int .i64 k ∧ dv = .int .i64 d ∧ 0 ≤ d ∧ d < 2147483647 ∧ Hid (d = digest (l.take k))) (fun _ iv => n - (intOf iv).toNat)
  case atStart => exact ⟨0, 11, Nat.zero_le _, rfl, rfl, by decide, by decide, Lib.hid (Seal.digest_zero l).symm⟩
  case round =>
    obtain ⟨k, d, hk, rfl, rfl, d0, d1, hd⟩ := hrel
    by_cases hlt : k < n
    · have hlen := HN.out
      obtain ⟨b, off, rfl, hc⟩ := HH.out.at (j := k) (by omega)
      have HS := Lib.hid (Seal.digest_step (l := l) (k := k) (by omega))
      clear hlen
      go_wp2_with fail
      refine (implModP _ _).mono ?_
      rintro e w' ⟨⟨r, rfl, hr, r0, r1⟩, rfl⟩
      have HR := Lib.hid hr; clear hr
      go_wp2_with fail
      refine (implModP _ _).mono ?_
      rintro e w' ⟨⟨q, rfl, hq, q0, q1⟩, rfl⟩
      have HQ := Lib.hid hq; clear hq
      go_wp2_with fail
      go_round
      case rel => exact ⟨k + 1, q, by omega, by go_num, rfl, q0, q1, Lib.hid (by rw [HS.out, ← hd.out, HQ.out, HR.out]; rfl)⟩
      case measure => simp [intOf]; omega
    · obtain rfl : k = n := by omega
      have HD := Lib.hid (show d = digest l by rw [hd.out, HN.out, List.take_length])
      clear hlt
      go_wp2
      go_ret
      exact ⟨ret_int HD.out, rfl⟩

set_option maxHeartbeats 1000000 in
theorem specDigest (v : Value) (l : List Int) (w : World) (h : Holds .i64 w v l) (hl : l.length ≤ 100000000) :
    Calls Tryz.prog 84 #[v] w fun e w' => e = .returned (.int .i64 (digest l)) ∧ w = w' := by
  obtain ⟨x, cap, rfl, hcap, hh⟩ := h.shape
  obtain ⟨n, hn⟩ : ∃ n, n = l.length := ⟨_, rfl⟩
  rw [← hn] at hcap hh hl ⊢
  have HN := Lib.hid hn; have HH := Lib.hid hh
  clear hn h hh
  go_enter Tryz.func84, Tryz.ntmps84
  go_wp2_with fail
  go_loop [3, 4] (fun dv iv => ∃ (k : Nat) (d : Int), k ≤ n ∧ iv = .int .i64 k ∧ dv = .int .i64 d ∧ 0 ≤ d ∧ d < 2147483647 ∧ Hid (d = digest (l.take k))) (fun _ iv => n - (intOf iv).toNat)
  case atStart => exact ⟨0, 11, Nat.zero_le _, rfl, rfl, by decide, by decide, Lib.hid (Seal.digest_zero l).symm⟩
  case round =>
    obtain ⟨k, d, hk, rfl, rfl, d0, d1, hd⟩ := hrel
    by_cases hlt : k < n
    · have hlen := HN.out
      obtain ⟨b, off, rfl, hc⟩ := HH.out.at (j := k) (by omega)
      have HS := Lib.hid (Seal.digest_step (l := l) (k := k) (by omega))
      clear hlen
      go_wp2_with fail
      refine (specModP _ _).mono ?_
      rintro e w' ⟨⟨r, rfl, hr, r0, r1⟩, rfl⟩
      have HR := Lib.hid hr; clear hr
      obtain ⟨q, hq⟩ : ∃ q, q = (d * 1000003 + r + 13) % 2147483647 := ⟨_, rfl⟩
      have HQ := Lib.hid hq; clear hq
      go_wp2_with fail
      go_round
      case rel => exact ⟨k + 1, q, by omega, by go_num, by rw [HQ.out], by have := HQ.out; omega, by have := HQ.out; omega, Lib.hid (by rw [HS.out, ← hd.out, HQ.out, HR.out]; rfl)⟩
      case measure => simp [intOf]; omega
    · obtain rfl : k = n := by omega
      have HD := Lib.hid (show d = digest l by rw [hd.out, HN.out, List.take_length])
      clear hlt
      go_wp2
      go_ret
      exact ⟨ret_int HD.out, rfl⟩

def GivesN (w : World) (n : Int) (e : Ending) (w' : World) : Prop := e = .returned (.int .i64 n) ∧ Below w.heap.size w w'

set_option maxHeartbeats 1000000 in
theorem specComputeMAC (s : Int) (v : Value) (l : List Int) (w : World) (h : Holds .i64 w v l) (hl : l.length ≤ 10000000) :
    Calls Tryz.prog 55 #[.int .i64 s, v] w (GivesN w (mac s l)) := by
  obtain ⟨x, cap, rfl, hcap, hh⟩ := h.shape
  have HH := Lib.hid hh
  have O0 := Lib.hid (own_one .i64 3 w s)
  have HB0 := Lib.hid ((Below.refl w.heap.size w).alloc (Nat.le_refl _) (.cells #[.int .i64 s] 3))
  clear h hh
  go_enter Tryz.func55, Tryz.ntmps55
  go_wp2_with (at_builtin; refine wpList_app (k := .i64) (B := w.heap.size) (l := [s]) (m := l) rfl _ _ rfl Tryz.underlying47 elemINT rfl rfl rfl O0.out (HH.out.on HB0.out) ?_ (by decide) HB0.out.size ?_)
  · simp; omega
  intro v1 w1 ho hg
  have HO1 := Lib.hid ho; have HB1 := Lib.hid (HB0.out.grown hg HB0.out.size (fun g hh => (O0.out.lt g hh).1))
  clear ho hg
  have HO1' := Lib.hid (HO1.out.on ((Below.refl w1.heap.size w1).alloc (Nat.le_refl _) (.cells #[.int .i64 s] 3)))
  have HB1' := Lib.hid (HB1.out.alloc HB1.out.size (.cells #[.int .i64 s] 3))
  go_wp2_with (at_builtin; refine wpList_app (k := .i64) (B := w.heap.size) (l := [s] ++ l) (m := [s]) rfl _ _ rfl Tryz.underlying47 elemINT rfl rfl rfl HO1'.out (holds_one .i64 _ _ _) ?_ (by decide) HB1'.out.size ?_)
  · simp; omega
  intro v2 w2 ho hg
  have HO2 := Lib.hid ho; have HB2 := Lib.hid (HB1'.out.grown hg HB1'.out.size (fun g hh => (HO1'.out.lt g hh).1))
  clear ho hg
  go_wp2_with fail
  refine (specDigest _ ([s] ++ l ++ [s]) _ HO2.out.holds (by simp; omega)).mono ?_
  rintro e w3 ⟨rfl, rfl⟩
  go_wp2_with fail
  go_ret
  exact ⟨rfl, HB2.out⟩

set_option maxHeartbeats 1000000 in
theorem implComputeMAC (s : Int) (v : Value) (l : List Int) (w : World) (h : Holds .i64 w v l) (hl : l.length ≤ 9000000) :
    Calls Tryz.prog 85 #[.int .i64 s, v] w (GivesN w (mac s l)) := by
  obtain ⟨x, cap, rfl, hcap, hh⟩ := h.shape
  obtain ⟨n, hn⟩ : ∃ n, n = l.length := ⟨_, rfl⟩
  rw [← hn] at h hh hcap ⊢
  obtain ⟨wz, hwz⟩ : ∃ wz, wz = ((w.alloc (.cells #[.int .i64 s] 3)).alloc (.cells #[.int .i64 s] 3)).alloc (.cells #[.slice (some ⟨w.heap.size, 0, none⟩) 1 1, .slice x n cap, .slice (some ⟨w.heap.size + 1, 0, none⟩) 1 1] 47) := ⟨_, rfl⟩
  have hb0 := (Below.refl w.heap.size w).alloc (Nat.le_refl _) (.cells #[.int .i64 s] 3)
  have hb1 := hb0.alloc hb0.size (.cells #[.int .i64 s] 3)
  have hbz := hb1.alloc hb1.size (.cells #[.slice (some ⟨w.heap.size, 0, none⟩) 1 1, .slice x n cap, .slice (some ⟨w.heap.size + 1, 0, none⟩) 1 1] 47)
  rw [← hwz] at hbz
  have c0 : ∀ j, j < 3 → wz.cell? ⟨w.heap.size + 2, j, none⟩ = some (if j = 0 then .slice (some ⟨w.heap.size, 0, none⟩) 1 1 else if j = 1 then .slice x n cap else .slice (some ⟨w.heap.size + 1, 0, none⟩) 1 1) := by
    intro j hj
    obtain rfl | rfl | rfl : j = 0 ∨ j = 1 ∨ j = 2 := by omega
    all_goals (rw [hwz]; go_simp)
  have h0 : ∀ j, j < 3 → Holds .i64 wz (if j = 0 then .slice (some ⟨w.heap.size, 0, none⟩) 1 1 else if j = 1 then .slice x n cap else .slice (some ⟨w.heap.size + 1, 0, none⟩) 1 1) (if j = 0 then [s] else if j = 1 then l else [s]) := by
    intro j hj
    obtain rfl | rfl | rfl : j = 0 ∨ j = 1 ∨ j = 2 := by omega
    · refine ⟨_, 1, rfl, by simp, Or.inr ⟨_, _, rfl, fun i hi => ?_⟩⟩
      obtain rfl : i = 0 := by simpa using hi
      rw [hwz]; go_simp; rfl
    · exact h.on hbz
    · refine ⟨_, 1, rfl, by simp, Or.inr ⟨_, _, rfl, fun i hi => ?_⟩⟩
      obtain rfl : i = 0 := by simpa using hi
      rw [hwz]; go_simp; rfl
  have hcat : cat (fun j => if j = 0 then [s] else if j = 1 then l else [s]) 3 = [s] ++ l ++ [s] := by simp [cat]
  have HC := Lib.hid (concat (w.heap.size + 2) _ (fun j => if j = 0 then [s] else if j = 1 then l else [s]) 3 wz (by decide) c0 h0 (by rw [hcat]; simp; omega))
  rw [hcat] at HC
  have HBZ := Lib.hid hbz
  rw [hwz] at HC HBZ
  have HN := Lib.hid hn
  clear hn hwz hb0 hb1 hbz c0 h0 hcat h hh
  go_enter Tryz.func85, Tryz.ntmps85
  go_wp2_with fail
  refine HC.out.mono ?_
  rintro e w1 ⟨v1, rfl, ho, hb⟩
  have HO := Lib.hid ho; have HB := Lib.hid (HBZ.out.trans (hb.mono HBZ.out.size))
  clear ho hb
  go_wp2_with fail
  refine (implDigest _ ([s] ++ l ++ [s]) _ HO.out.holds (by simp; omega)).mono ?_
  rintro e w3 ⟨rfl, rfl⟩
  go_wp2_with fail
  go_ret
  exact ⟨rfl, HB.out⟩

theorem implValidSecret (s : Int) (w : World) :
    Calls Tryz.prog 29 #[.int .i64 s] w fun e w' => e = .returned (.bool (Num.inB s 1 2147483646)) ∧ w = w' := by
  go_enter Tryz.func29, Tryz.ntmps29
  go_wp2_with fail
  refine (Num.implInRange _ _ _ _).mono ?_
  rintro e w' ⟨rfl, rfl⟩
  go_wp2_with fail
  go_ret
  exact ⟨rfl, rfl⟩
theorem specValidSecret (s : Int) (w : World) :
    Calls Tryz.prog 57 #[.int .i64 s] w fun e w' => e = .returned (.bool (Num.inB s 1 2147483646)) ∧ w = w' := by
  go_enter Tryz.func57, Tryz.ntmps57
  go_wp2_with fail
  refine (Num.specIn _ _ _ _).mono ?_
  rintro e w' ⟨rfl, rfl⟩
  go_wp2_with fail
  go_ret
  exact ⟨rfl, rfl⟩

theorem implEqualInts (v u : Value) (l m : List Int) (w : World) (h : Holds .i64 w v l) (g : Holds .i64 w u m) (hl : l.length ≤ 100000000) (hm : m.length ≤ 100000000) :
    Calls Tryz.prog 60 #[v, u] w fun e w' => e = .returned (.bool (eqB l m)) ∧ Below w.heap.size w w' := by
  have HC := Lib.hid (libEqI v u l m w h g hl hm)
  clear h g hl hm
  go_enter Tryz.func60, Tryz.ntmps60
  go_wp2_with fail
  refine HC.out.mono ?_
  rintro e w' ⟨rfl, hb⟩
  go_wp2_with fail
  go_ret
  exact ⟨rfl, hb⟩

end Go.Proofs.YtbooamnlocobfaaGreat.Sl
