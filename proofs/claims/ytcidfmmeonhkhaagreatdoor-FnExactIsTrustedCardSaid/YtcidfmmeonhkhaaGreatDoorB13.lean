/- Contracts and mathematics, joined: ThingS, SealMath, LibI, Same, Seal, SealB. No conditions but those that each states. -/
import Derived.Test.YtcidfmmeonhkhaaGreatDoorB12
import Derived.Test.YtcidfmmeonhkhaaGreatDoorB11
import Derived.Test.YtcidfmmeonhkhaaGreatDoorB10
import Derived.Test.YtcidfmmeonhkhaaGreatDoorB3
import Derived.Lib.AppendZerosOnto
import Derived.Deep.RegionHeld3
import Derived.Test.YtcidfmmeonhkhaaGreatDoorB2
import Derived.Laws.BytesArg
import Derived.Deep.RegionLawGrows
/- Contracts of the model's functions on data packets: copy, validity, freshness, equality. No conditions but that lengths fit. -/
namespace Go.Proofs.YtcidfmmeonhkhaaGreatDoor.Row
open Go.ChangeShapes Go.WideShapes Go.ChangeAt Go.RowKit Go.Instr
set_option linter.unusedVariables false
set_option maxRecDepth 100000

/-- A result that is a packet of the call's own. -/
def GivesD (w : World) (x : Dt) (e : Ending) (w' : World) : Prop := ∃ a b c, e = .returned (.agg (dc a b c x.2.2.2.1 x.2.2.2.2)) ∧ DOwn w.heap.size w' a b c x ∧ Below w.heap.size w w'
def GivesDB (w : World) (x : Dt) (z : Bool) (e : Ending) (w' : World) : Prop := ∃ a b c, e = .returned (.tuple #[.agg (dc a b c x.2.2.2.1 x.2.2.2.2), .bool z]) ∧ DOwn w.heap.size w' a b c x ∧ Below w.heap.size w w'

def validD (x : Dt) : Bool := validN x.1 && decide (0 < x.1.length) && decide (x.2.1.length ≤ 60) && validN x.2.2.1 && decide (0 ≤ x.2.2.2.1 ∧ x.2.2.2.1 ≤ 100000) && decide (0 ≤ x.2.2.2.2 ∧ x.2.2.2.2 ≤ 2147483646)
theorem validD_iff {x : Dt} : validD x = true ↔ validN x.1 = true ∧ 0 < x.1.length ∧ x.2.1.length ≤ 60 ∧ validN x.2.2.1 = true ∧ (0 ≤ x.2.2.2.1 ∧ x.2.2.2.1 ≤ 100000) ∧ (0 ≤ x.2.2.2.2 ∧ x.2.2.2.2 ≤ 2147483646) := by
  unfold validD
  simp only [Bool.and_eq_true, decide_eq_true_eq, and_assoc]
theorem validD_no {x : Dt} (h : ¬ (validN x.1 = true ∧ 0 < x.1.length ∧ x.2.1.length ≤ 60 ∧ validN x.2.2.1 = true ∧ (0 ≤ x.2.2.2.1 ∧ x.2.2.2.1 ≤ 100000) ∧ (0 ≤ x.2.2.2.2 ∧ x.2.2.2.2 ≤ 2147483646))) : validD x = false := by
  cases e : validD x with
  | false => rfl
  | true => exact absurd (validD_iff.1 e) h

set_option maxHeartbeats 4000000 in
theorem specValidData (a b c : Value) (x : Dt) (w : World) (h : DHold w a b c x) (h1 : bulk x.1 ≤ 9000000) (h3 : bulk x.2.2.1 ≤ 9000000) :
    Calls Tryz.prog 63 #[.agg (dc a b c x.2.2.2.1 x.2.2.2.2)] w fun e w' => e = .returned (.bool (validD x)) ∧ Below w.heap.size w w' := by
  obtain ⟨l, m, k, f, s⟩ := x
  simp only at h1 h3 ⊢
  obtain ⟨xa, na, ca, xb, nb, cb, xc, nc, cc, rfl, rfl, rfl⟩ := h.shape
  have HA := Lib.hid (show na = l.length from Holds.lenEq h.1); have HM := Lib.hid (show nb = m.length from Sl.Holds.lenEq h.2.1)
  have HB := Lib.hid ((Below.refl w.heap.size w).alloc (Nat.le_refl _) (.cells (dc (.slice xa na ca) (.slice xb nb cb) (.slice xc nc cc) f s) 34))
  have H0 := Lib.hid h
  have HX := Lib.hid (Ret.Blk.new w (dc (.slice xa na ca) (.slice xb nb cb) (.slice xc nc cc) f s) 34)
  clear h
  obtain ⟨v1, hv1⟩ : ∃ z, validN l = z := ⟨_, rfl⟩
  obtain ⟨v2, hv2⟩ : ∃ z, validN k = z := ⟨_, rfl⟩
  have HV1 := Lib.hid hv1; have HV2 := Lib.hid hv2
  clear hv1 hv2
  go_enter Tryz.func63, Tryz.ntmps63
  go_wp2_with fail
  refine (specValidName _ l _ (H0.out.on HB.out).1 (by omega)).mono ?_
  rintro e w1 ⟨rfl, hb⟩
  rw [HV1.out]
  replace HX := Lib.hid (HX.out.on hb)
  replace HB := Lib.hid (HB.out.trans (hb.mono HB.out.size)); clear hb
  have q0 : w1.cell? ⟨w.heap.size, 0, none⟩ = some (.slice xa na ca) := HX.out.cell 0
  have q1 : w1.cell? ⟨w.heap.size, 1, none⟩ = some (.slice xb nb cb) := HX.out.cell 1
  have q2 : w1.cell? ⟨w.heap.size, 2, none⟩ = some (.slice xc nc cc) := HX.out.cell 2
  have q3 : w1.cell? ⟨w.heap.size, 3, none⟩ = some (.int .i64 f) := HX.out.cell 3
  have q4 : w1.cell? ⟨w.heap.size, 4, none⟩ = some (.int .i64 s) := HX.out.cell 4
  cases v1 with
  | false =>
    have HV := Lib.hid (validD_no (x := (l, m, k, f, s)) (fun e => by have h9 := e.1; rw [show validN l = false from HV1.out] at h9; cases h9))
    go_wp2_with fail
    go_ret
    exact ⟨ret_bool HV.out.symm, HB.out⟩
  | true =>
    by_cases hn : 0 < na
    · have t2 : decide ((0 : Int) < (na : Int)) = true := by simp; omega
      by_cases hm : nb ≤ 60
      · have t3 : decide ((nb : Int) ≤ 60) = true := by simp; omega
        go_wp2_with fail
        clear q0 q1 q2 q3 q4
        refine (specValidName _ k _ (H0.out.on HB.out).2.2 (by omega)).mono ?_
        rintro e w2 ⟨rfl, hb⟩
        rw [HV2.out]
        replace HX := Lib.hid (HX.out.on hb)
        replace HB := Lib.hid (HB.out.trans (hb.mono HB.out.size)); clear hb
        have q0 : w2.cell? ⟨w.heap.size, 0, none⟩ = some (.slice xa na ca) := HX.out.cell 0
        have q1 : w2.cell? ⟨w.heap.size, 1, none⟩ = some (.slice xb nb cb) := HX.out.cell 1
        have q2 : w2.cell? ⟨w.heap.size, 2, none⟩ = some (.slice xc nc cc) := HX.out.cell 2
        have q3 : w2.cell? ⟨w.heap.size, 3, none⟩ = some (.int .i64 f) := HX.out.cell 3
        have q4 : w2.cell? ⟨w.heap.size, 4, none⟩ = some (.int .i64 s) := HX.out.cell 4
        cases v2 with
        | false =>
          have HV := Lib.hid (validD_no (x := (l, m, k, f, s)) (fun e => by have h9 := e.2.2.2.1; rw [show validN k = false from HV2.out] at h9; cases h9))
          go_wp2_with fail
          go_ret
          exact ⟨ret_bool HV.out.symm, HB.out⟩
        | true =>
          by_cases hf : 0 ≤ f ∧ f ≤ 100000
          · have HI := Lib.hid (fun wx => Num.specIn_true hf.1 hf.2 wx)
            have H_hf := Lib.hid hf
            clear hf
            go_wp2_with fail
            refine (HI.out _).mono ?_
            rintro e w' ⟨rfl, rfl⟩
            clear HI
            by_cases hs : 0 ≤ s ∧ s ≤ 2147483646
            · have HI := Lib.hid (fun wx => Num.specIn_true hs.1 hs.2 wx)
              have H_hs := Lib.hid hs
              clear hs
              go_wp2_with fail
              refine (HI.out _).mono ?_
              rintro e w' ⟨rfl, rfl⟩
              clear HI
              have HV := Lib.hid ((validD_iff (x := (l, m, k, f, s))).2 (show validN l = true ∧ 0 < l.length ∧ m.length ≤ 60 ∧ validN k = true ∧ (0 ≤ f ∧ f ≤ 100000) ∧ (0 ≤ s ∧ s ≤ 2147483646) from ⟨HV1.out, by rw [← HA.out]; exact hn, by rw [← HM.out]; exact hm, HV2.out, H_hf.out, H_hs.out⟩))
              go_wp2_with fail
              go_ret
              exact ⟨ret_bool HV.out.symm, HB.out⟩
            · have HI := Lib.hid (fun wx => Num.specIn_false hs wx)
              have HV := Lib.hid (validD_no (x := (l, m, k, f, s)) (fun e => hs e.2.2.2.2.2))
              clear hs
              go_wp2_with fail
              refine (HI.out _).mono ?_
              rintro e w' ⟨rfl, rfl⟩
              go_wp2_with fail
              go_ret
              exact ⟨ret_bool HV.out.symm, HB.out⟩
          · have HI := Lib.hid (fun wx => Num.specIn_false hf wx)
            have HV := Lib.hid (validD_no (x := (l, m, k, f, s)) (fun e => hf e.2.2.2.2.1))
            clear hf
            go_wp2_with fail
            refine (HI.out _).mono ?_
            rintro e w' ⟨rfl, rfl⟩
            go_wp2_with fail
            go_ret
            exact ⟨ret_bool HV.out.symm, HB.out⟩
      · have t3 : decide ((nb : Int) ≤ 60) = false := by simp; omega
        have HV := Lib.hid (validD_no (x := (l, m, k, f, s)) (fun e => hm (by rw [HM.out]; exact e.2.2.1)))
        go_wp2_with fail
        go_ret
        exact ⟨ret_bool HV.out.symm, HB.out⟩
    · have t2 : decide ((0 : Int) < (na : Int)) = false := by simp; omega
      have HV := Lib.hid (validD_no (x := (l, m, k, f, s)) (fun e => hn (by rw [HA.out]; exact e.2.1)))
      go_wp2_with fail
      go_ret
      exact ⟨ret_bool HV.out.symm, HB.out⟩

theorem specFreshAt (a b c : Value) (x : Dt) (n : Int) (w : World) (hv : ∃ xa na ca xb nb cb xc nc cc, a = .slice xa na ca ∧ b = .slice xb nb cb ∧ c = .slice xc nc cc) :
    Calls Tryz.prog 71 #[.agg (dc a b c x.2.2.2.1 x.2.2.2.2), .int .i64 n] w fun e w' => e = .returned (.bool (decide (n ≤ x.2.2.2.1))) ∧ Below w.heap.size w w' := by
  obtain ⟨l, m, k, f, s⟩ := x
  obtain ⟨xa, na, ca, xb, nb, cb, xc, nc, cc, rfl, rfl, rfl⟩ := hv
  simp only
  obtain ⟨z, hz⟩ : ∃ z, decide (n ≤ f) = z := ⟨_, rfl⟩
  have HB := Lib.hid ((Below.refl w.heap.size w).alloc (Nat.le_refl _) (.cells (dc (.slice xa na ca) (.slice xb nb cb) (.slice xc nc cc) f s) 34))
  rw [hz]
  go_enter Tryz.func71, Tryz.ntmps71
  go_wp2_with fail
  go_ret
  exact ⟨rfl, HB.out⟩

end Go.Proofs.YtcidfmmeonhkhaaGreatDoor.Row
/- What chapter 3 computes, on lists of numbers: digest, MAC, the bytes of a slice as numbers, enciphered and deciphered bytes. No conditions. -/
namespace Go.Proofs.YtcidfmmeonhkhaaGreatDoor.Seal
open Sl (nth nth_eq)

def dstep (d x : Int) : Int := (d * 1000003 + x % 2147483647 + 13) % 2147483647
def digest (l : List Int) : Int := l.foldl dstep 11
def mac (s : Int) (l : List Int) : Int := digest ([s] ++ l ++ [s])
def b2i (l : List Int) : List Int := (l.length : Int) :: l
def derive (s : Int) (l : List Int) : Int := if mac s (b2i l) = 0 then 1 else mac s (b2i l)
def chg (f : Nat → Int → Int) (l : List Int) : List Int := l.mapIdx f
def encF (s : Int) (i : Nat) (x : Int) : Int := (x + mac s [(i : Int)]) % 256
def decF (s : Int) (i : Nat) (x : Int) : Int := (x - mac s [(i : Int)]) % 256
def enc (s : Int) (l : List Int) : List Int := chg (encF s) l
def dec (s : Int) (l : List Int) : List Int := chg (decF s) l

theorem dstep_in (d x : Int) : 0 ≤ dstep d x ∧ dstep d x < 2147483647 := by unfold dstep; omega
theorem foldl_in (l : List Int) : ∀ d : Int, 0 ≤ d → d < 2147483647 → 0 ≤ l.foldl dstep d ∧ l.foldl dstep d < 2147483647 := by
  induction l with
  | nil => intro d h0 h1; exact ⟨h0, h1⟩
  | cons x r ih => intro d h0 h1; exact ih _ (dstep_in d x).1 (dstep_in d x).2
theorem digest_in (l : List Int) : 0 ≤ digest l ∧ digest l < 2147483647 := foldl_in l 11 (by decide) (by decide)
theorem digest_zero (l : List Int) : digest (l.take 0) = 11 := by simp [digest]
theorem digest_step {l : List Int} {k : Nat} (h : k < l.length) : digest (l.take (k + 1)) = dstep (digest (l.take k)) (nth l k) := by
  unfold digest
  rw [List.take_succ_eq_append_getElem h, List.foldl_append, nth_eq h]; rfl
theorem b2i_length (l : List Int) : (b2i l).length = l.length + 1 := rfl
theorem b2i_step {l : List Int} {k : Nat} (h : k < l.length) : (l.length : Int) :: l.take (k + 1) = ((l.length : Int) :: l.take k) ++ [nth l k] := by
  rw [List.take_succ_eq_append_getElem h, nth_eq h]; rfl
end Go.Proofs.YtcidfmmeonhkhaaGreatDoor.Seal
/- Contracts of the library's slices.Grow at the nil slice, slices.Concat and slices.Equal at slices of integers. No conditions but that lengths fit. -/
namespace Go.Proofs.YtcidfmmeonhkhaaGreatDoor.Sl
open Go.ChangeShapes Go.WideShapes Go.ChangeAt Go.RowKit Go.Instr
set_option linter.unusedVariables false
set_option maxRecDepth 100000

theorem own_one (k : IntKind) (e : TypeId) (w : World) (x : Int) : Own e k w.heap.size (w.alloc (.cells #[.int k x] e)) (.slice (some ⟨w.heap.size, 0, none⟩) 1 1) [x] :=
  World.ownsRow_lit w #[.int k x] 1 (Nat.le_refl _) (by unfold maxLen; omega) rfl

set_option maxHeartbeats 1000000 in
theorem growNil (n : Nat) (w : World) (hn : n ≤ 100000000) :
    Calls Tryz.prog 231 #[.slice none 0 0, .int .i64 n] w (GivesI w []) := by
  by_cases h0 : 0 < n
  · obtain ⟨i0, hi, hz0, hz1, hz2⟩ := info_parts elemINT
    have hrz : ∀ ty, (Builtin.append_ #[97, 3] ty #[.slice none 0 0, .int .i64 (n : Int)]).run Tryz.prog w =
        .ok (.slice (some ⟨w.heap.size, 0, none⟩) (0 + n) (grownCap w (0 + n) 0 3)) (w.drew.alloc (.cells (([] : List Value).toArray ++ Builtin.zeroCells (Value.int .i64 0).cells n ++ Builtin.zeroCells (Value.int .i64 0).cells (grownCap w (0 + n) 0 3 - (0 + n))) 3)) := fun ty => by
      have hfit := growslice_fits (need := 0 + n) (old := 0) (bytes := i0.bytes) (by omega) (by rw [hz2]; omega)
      exact Lib.run_append_grow_zeros w 97 3 ty 3 i0 (.int .i64 0) .i64 .i64 Tryz.underlying97 Tryz.underlying3 hi hz0 none 0 0 [] (by rw [hz1]; exact run_firstCells_none w.drew 1 0 0 0) n h0 (by rw [hz1]; decide) (by omega) (by omega) (by rw [hz2]; omega) hfit
    have hGn : 0 + n ≤ grownCap w (0 + n) 0 3 := grownCap_ge w _ _ _
    have hG63 := grownCap_le_maxLen w (0 + n) 0 3 (by unfold maxLen; omega)
    obtain ⟨G, hG⟩ : ∃ G, G = grownCap w (0 + n) 0 3 := ⟨_, rfl⟩
    rw [← hG] at hrz hGn hG63
    have hown : Own 3 .i64 w.heap.size ((w.alloc (.cells (Builtin.zeroCells #[.int .i64 0] n ++ Builtin.zeroCells #[.int .i64 0] (G - n)) 3)).drew) (.slice (some ⟨w.heap.size, 0, none⟩) 0 G) [] := by
      refine ⟨rfl, .inr ⟨w.heap.size, G, _, rfl, Nat.le_refl _, heap_alloc_new w _, Nat.zero_le _, hG63, ?_, by simp⟩⟩
      simp only [Array.size_append, size_zeroCells]
      simp; omega
    have HOWN := Lib.hid hown; have HR := Lib.hid hrz
    unfold maxLen at hG63
    clear hi hz0 hz1 hz2 hG hown hrz
    go_enter Tryz.func231, Tryz.ntmps231
    go_wp2_with (at_builtin; refine Lib.wpList_append_run _ rfl _ _ _ _ rfl _ _ rfl rfl _ _ (HR.out _) ?_)
    all_goals (go_ret; exact ⟨.slice (some ⟨w.heap.size, 0, none⟩) 0 G, rfl, HOWN.out, ((Below.refl _ _).alloc (Nat.le_refl _) _).drew⟩)
  · obtain rfl : n = 0 := by omega
    go_enter Tryz.func231, Tryz.ntmps231
    go_wp2_with fail
    go_ret
    exact ⟨_, rfl, Own.nil _ _ _ _, Below.refl _ _⟩

/-- The first k lists, one behind the other. -/
def cat (ls : Nat → List Int) : Nat → List Int
  | 0 => []
  | k + 1 => cat ls k ++ ls k
theorem cat_mono (ls : Nat → List Int) {k n : Nat} (h : k ≤ n) : (cat ls k).length ≤ (cat ls n).length := by
  induction n with
  | zero => obtain rfl : k = 0 := by omega
            exact Nat.le_refl _
  | succ n ih =>
    by_cases e : k = n + 1
    · subst e; exact Nat.le_refl _
    · have := ih (by omega)
      simp only [cat, List.length_append]; omega

set_option maxHeartbeats 2000000 in
theorem concat (b : Nat) (vs : Nat → Value) (ls : Nat → List Int) (n : Nat) (w : World) (hn : n ≤ 1000) (hc : ∀ j, j < n → w.cell? ⟨b, j, none⟩ = some (vs j)) (hh : ∀ j, j < n → Holds .i64 w (vs j) (ls j)) (hlen : (cat ls n).length ≤ 10000000) :
    Calls Tryz.prog 221 #[.slice (some ⟨b, 0, none⟩) n n] w (GivesI w (cat ls n)) := by
  have HC := Lib.hid hc; have HH := Lib.hid hh
  clear hc hh
  go_enter Tryz.func221, Tryz.ntmps221
  go_wp2_with fail
  go_loop [3, 11] (fun sv iv => ∃ k : Nat, k ≤ n ∧ iv = .int .i64 k ∧ sv = .int .i64 ((cat ls k).length : Nat)) (fun _ iv => n - (intOf iv).toNat)
  case atStart => exact ⟨0, Nat.zero_le _, rfl, rfl⟩
  case round =>
    obtain ⟨k, hk, rfl, rfl⟩ := hrel
    by_cases hlt : k < n
    · have hcell := HC.out k hlt
      obtain ⟨x, cap, hv, hcap, -⟩ := (HH.out k hlt).shape
      rw [hv] at hcell
      have hm := cat_mono ls (k := k + 1) (n := n) (by omega)
      have HS := Lib.hid (show (cat ls (k + 1)).length = (cat ls k).length + (ls k).length by simp [cat])
      have hm2 : (cat ls k).length + (ls k).length ≤ 10000000 := by rw [← HS.out]; omega
      obtain ⟨c, hcc⟩ : ∃ c, c = (cat ls k).length := ⟨_, rfl⟩
      obtain ⟨d, hdd⟩ : ∃ d, d = (ls k).length := ⟨_, rfl⟩
      rw [← hcc, ← hdd] at HS hm2
      rw [← hcc]
      rw [← hdd] at hcell hcap
      clear hv hm hcc hdd
      go_wp2_with fail
      go_round
      case rel => exact ⟨k + 1, by omega, by go_num, by rw [HS.out]; go_num⟩
      case measure => simp [intOf]; omega
    · obtain rfl : k = n := by omega
      clear hlt
      have HG := Lib.hid (growNil (cat ls k).length w (by omega))
      obtain ⟨c, hcc⟩ : ∃ c, c = (cat ls k).length := ⟨_, rfl⟩
      have HL := Lib.hid hlen
      rw [← hcc] at HG ⊢
      clear hcc hlen
      go_wp2_with fail
      refine HG.out.mono ?_
      rintro e w1 ⟨v1, rfl, ho, hb⟩
      have HO := Lib.hid ho; have HB := Lib.hid hb
      clear ho hb
      go_wp2_with fail
      go_loopw [6, 27] (fun rv iv wr => ∃ j : Nat, j ≤ k ∧ iv = .int .i64 j ∧ Hid (Own 3 .i64 w.heap.size wr rv (cat ls j)) ∧ Hid (Below w.heap.size w wr)) (fun _ iv _ => k - (intOf iv).toNat)
      case atStart => exact ⟨0, Nat.zero_le _, rfl, HO, HB⟩
      case round =>
        obtain ⟨j, hj, rfl, hr, hbr⟩ := hrel
        by_cases hlt : j < k
        · have hcell := hbr.out.cell (cell_lt (HC.out j hlt))
          rw [HC.out j hlt] at hcell
          have HHJ := (HH.out j hlt).on hbr.out
          have hmono := cat_mono ls (k := j + 1) (n := k) (by omega)
          have hsum : (cat ls j).length + (ls j).length ≤ 10000000 := by
            have := HL.out
            simp only [cat, List.length_append] at hmono; omega
          obtain ⟨x, cap, hv, hcap, hh⟩ := HHJ.shape
          rw [hv] at hcell
          have HHH := Lib.hid hh
          clear hv hmono HHJ hh
          go_wp2_with (at_builtin; refine wpList_app (k := .i64) (B := w.heap.size) (l := cat ls j) (m := ls j) rfl _ _ rfl Tryz.underlying97 elemINT rfl rfl rfl hr.out HHH.out ?_ (by decide) hbr.out.size ?_)
          · omega
          intro v2 w2 ho hg
          have HO2 := Lib.hid ho; have HB2 := Lib.hid (hbr.out.grown hg hbr.out.size (fun g hh => (hr.out.lt g hh).1))
          clear ho hg
          go_wp2_with fail
          go_roundw
          case rel => exact ⟨j + 1, by omega, by go_num, HO2, HB2⟩
          case measure => simp [intOf]; omega
        · obtain rfl : j = k := by omega
          clear hlt
          go_wp2_with fail
          go_ret
          exact ⟨_, rfl, hr.out, hbr.out⟩

end Go.Proofs.YtcidfmmeonhkhaaGreatDoor.Sl
/- Contracts of the laws' own comparisons of slices of numbers: whether they hold equal lists. Nothing in memory turns but the count of draws. No conditions but that lengths fit. -/
namespace Go.Proofs.YtcidfmmeonhkhaaGreatDoor.Sl
open Go.ChangeShapes Go.WideShapes Go.ChangeAt Go.RowKit Go.Instr
set_option linter.unusedVariables false
set_option maxRecDepth 100000

end Go.Proofs.YtcidfmmeonhkhaaGreatDoor.Sl
/- Contracts of chapter 3's digests and MACs, the reference model's and the program's: Digest, ComputeMAC, ValidSecret, BytesToInts, DeriveSecret, EqualInts. What was in memory stays as it was. No conditions but that lengths fit. -/
namespace Go.Proofs.YtcidfmmeonhkhaaGreatDoor.Sl
open Go.ChangeShapes Go.WideShapes Go.ChangeAt Go.RowKit Go.Instr
open Seal (digest mac b2i derive dstep)
set_option linter.unusedVariables false
set_option maxRecDepth 100000

theorem implModP (n : Int) (w : World) : Calls Tryz.prog 151 #[.int .i64 n, .int .i64 2147483647] w fun e w' => (∃ r : Int, e = .returned (.int .i64 r) ∧ r = n % 2147483647 ∧ 0 ≤ r ∧ r < 2147483647) ∧ w = w' := by
  refine (Num.implMod n 2147483647 w).mono ?_
  rintro e w' ⟨rfl, rfl⟩
  exact ⟨⟨_, rfl, by simp [Num.modI], Num.modI_nonneg _ (by decide), Num.modI_lt _ (by decide)⟩, rfl⟩
theorem specModP (n : Int) (w : World) : Calls Tryz.prog 152 #[.int .i64 n, .int .i64 2147483647] w fun e w' => (∃ r : Int, e = .returned (.int .i64 r) ∧ r = n % 2147483647 ∧ 0 ≤ r ∧ r < 2147483647) ∧ w = w' := by
  refine (Num.specMod n 2147483647 w).mono ?_
  rintro e w' ⟨rfl, rfl⟩
  exact ⟨⟨_, rfl, by simp [Num.modI], Num.modI_nonneg _ (by decide), Num.modI_lt _ (by decide)⟩, rfl⟩

set_option maxHeartbeats 1000000 in
theorem implDigest (v : Value) (l : List Int) (w : World) (h : Holds .i64 w v l) (hl : l.length ≤ 100000000) :
    Calls Tryz.prog 84 #[v] w fun e w' => e = .returned (.int .i64 (digest l)) ∧ w = w' := by
  obtain ⟨x, cap, rfl, hcap, hh⟩ := h.shape
  obtain ⟨n, hn⟩ : ∃ n, n = l.length := ⟨_, rfl⟩
  rw [← hn] at hcap hh hl ⊢
  have HN := Lib.hid hn; have HH := Lib.hid hh
  clear hn h hh
  go_enter Tryz.func84, Tryz.ntmps84
  go_wp2_with fail
  go_loop [3, 8] (fun dv iv => ∃ (k : Nat) (d : Int), k ≤ n ∧ iv = .int .i64 k ∧ dv = .int .i64 d ∧ 0 ≤ d ∧ d < 2147483647 ∧ Hid (d = digest (l.take k))) (fun _ iv => n - (intOf iv).toNat)
  case atStart => exact ⟨0, 11, Nat.zero_le _, rfl, rfl, by decide, by decide, Lib.hid (Seal.digest_zero l).symm⟩
  case round =>
    obtain ⟨k, d, hk, rfl, rfl, d0, d1, hd⟩ := hrel
    by_cases hlt : k < n
    · have hlen := HN.out
      obtain ⟨b, off, rfl, hc⟩ := HH.out.at (j := k) (by omega)
      have HS := Lib.hid (Seal.digest_step (l := l) (k := k) (by omega))
      clear hlen
      go_wp2_with fail
      refine (implModP _ _).mono ?_
      rintro e w' ⟨⟨r, rfl, hr, r0, r1⟩, rfl⟩
      have HR := Lib.hid hr; clear hr
      go_wp2_with fail
      refine (implModP _ _).mono ?_
      rintro e w' ⟨⟨q, rfl, hq, q0, q1⟩, rfl⟩
      have HQ := Lib.hid hq; clear hq
      go_wp2_with fail
      go_round
      case rel => exact ⟨k + 1, q, by omega, by go_num, rfl, q0, q1, Lib.hid (by rw [HS.out, ← hd.out, HQ.out, HR.out]; rfl)⟩
      case measure => simp [intOf]; omega
    · obtain rfl : k = n := by omega
      have HD := Lib.hid (show d = digest l by rw [hd.out, HN.out, List.take_length])
      clear hlt
      go_wp2
      go_ret
      exact ⟨ret_int HD.out, rfl⟩

set_option maxHeartbeats 1000000 in
theorem specDigest (v : Value) (l : List Int) (w : World) (h : Holds .i64 w v l) (hl : l.length ≤ 100000000) :
    Calls Tryz.prog 86 #[v] w fun e w' => e = .returned (.int .i64 (digest l)) ∧ w = w' := by
  obtain ⟨x, cap, rfl, hcap, hh⟩ := h.shape
  obtain ⟨n, hn⟩ : ∃ n, n = l.length := ⟨_, rfl⟩
  rw [← hn] at hcap hh hl ⊢
  have HN := Lib.hid hn; have HH := Lib.hid hh
  clear hn h hh
  go_enter Tryz.func86, Tryz.ntmps86
  go_wp2_with fail
  go_loop [3, 4] (fun dv iv => ∃ (k : Nat) (d : Int), k ≤ n ∧ iv = .int .i64 k ∧ dv = .int .i64 d ∧ 0 ≤ d ∧ d < 2147483647 ∧ Hid (d = digest (l.take k))) (fun _ iv => n - (intOf iv).toNat)
  case atStart => exact ⟨0, 11, Nat.zero_le _, rfl, rfl, by decide, by decide, Lib.hid (Seal.digest_zero l).symm⟩
  case round =>
    obtain ⟨k, d, hk, rfl, rfl, d0, d1, hd⟩ := hrel
    by_cases hlt : k < n
    · have hlen := HN.out
      obtain ⟨b, off, rfl, hc⟩ := HH.out.at (j := k) (by omega)
      have HS := Lib.hid (Seal.digest_step (l := l) (k := k) (by omega))
      clear hlen
      go_wp2_with fail
      refine (specModP _ _).mono ?_
      rintro e w' ⟨⟨r, rfl, hr, r0, r1⟩, rfl⟩
      have HR := Lib.hid hr; clear hr
      obtain ⟨q, hq⟩ : ∃ q, q = (d * 1000003 + r + 13) % 2147483647 := ⟨_, rfl⟩
      have HQ := Lib.hid hq; clear hq
      go_wp2_with fail
      go_round
      case rel => exact ⟨k + 1, q, by omega, by go_num, by rw [HQ.out], by have := HQ.out; omega, by have := HQ.out; omega, Lib.hid (by rw [HS.out, ← hd.out, HQ.out, HR.out]; rfl)⟩
      case measure => simp [intOf]; omega
    · obtain rfl : k = n := by omega
      have HD := Lib.hid (show d = digest l by rw [hd.out, HN.out, List.take_length])
      clear hlt
      go_wp2
      go_ret
      exact ⟨ret_int HD.out, rfl⟩

def GivesN (w : World) (n : Int) (e : Ending) (w' : World) : Prop := e = .returned (.int .i64 n) ∧ Below w.heap.size w w'

set_option maxHeartbeats 1000000 in
theorem specComputeMAC (s : Int) (v : Value) (l : List Int) (w : World) (h : Holds .i64 w v l) (hl : l.length ≤ 10000000) :
    Calls Tryz.prog 177 #[.int .i64 s, v] w (GivesN w (mac s l)) := by
  obtain ⟨x, cap, rfl, hcap, hh⟩ := h.shape
  have HH := Lib.hid hh
  have O0 := Lib.hid (own_one .i64 3 w s)
  have HB0 := Lib.hid ((Below.refl w.heap.size w).alloc (Nat.le_refl _) (.cells #[.int .i64 s] 3))
  clear h hh
  go_enter Tryz.func177, Tryz.ntmps177
  go_wp2_with (at_builtin; refine wpList_app (k := .i64) (B := w.heap.size) (l := [s]) (m := l) rfl _ _ rfl Tryz.underlying97 elemINT rfl rfl rfl O0.out (HH.out.on HB0.out) ?_ (by decide) HB0.out.size ?_)
  · simp; omega
  intro v1 w1 ho hg
  have HO1 := Lib.hid ho; have HB1 := Lib.hid (HB0.out.grown hg HB0.out.size (fun g hh => (O0.out.lt g hh).1))
  clear ho hg
  have HO1' := Lib.hid (HO1.out.on ((Below.refl w1.heap.size w1).alloc (Nat.le_refl _) (.cells #[.int .i64 s] 3)))
  have HB1' := Lib.hid (HB1.out.alloc HB1.out.size (.cells #[.int .i64 s] 3))
  go_wp2_with (at_builtin; refine wpList_app (k := .i64) (B := w.heap.size) (l := [s] ++ l) (m := [s]) rfl _ _ rfl Tryz.underlying97 elemINT rfl rfl rfl HO1'.out (holds_one .i64 _ _ _) ?_ (by decide) HB1'.out.size ?_)
  · simp; omega
  intro v2 w2 ho hg
  have HO2 := Lib.hid ho; have HB2 := Lib.hid (HB1'.out.grown hg HB1'.out.size (fun g hh => (HO1'.out.lt g hh).1))
  clear ho hg
  go_wp2_with fail
  refine (specDigest _ ([s] ++ l ++ [s]) _ HO2.out.holds (by simp; omega)).mono ?_
  rintro e w3 ⟨rfl, rfl⟩
  go_wp2_with fail
  go_ret
  exact ⟨rfl, HB2.out⟩

set_option maxHeartbeats 1000000 in
theorem implComputeMAC (s : Int) (v : Value) (l : List Int) (w : World) (h : Holds .i64 w v l) (hl : l.length ≤ 9000000) :
    Calls Tryz.prog 199 #[.int .i64 s, v] w (GivesN w (mac s l)) := by
  obtain ⟨x, cap, rfl, hcap, hh⟩ := h.shape
  obtain ⟨n, hn⟩ : ∃ n, n = l.length := ⟨_, rfl⟩
  rw [← hn] at h hh hcap ⊢
  obtain ⟨wz, hwz⟩ : ∃ wz, wz = ((w.alloc (.cells #[.int .i64 s] 3)).alloc (.cells #[.int .i64 s] 3)).alloc (.cells #[.slice (some ⟨w.heap.size, 0, none⟩) 1 1, .slice x n cap, .slice (some ⟨w.heap.size + 1, 0, none⟩) 1 1] 97) := ⟨_, rfl⟩
  have hb0 := (Below.refl w.heap.size w).alloc (Nat.le_refl _) (.cells #[.int .i64 s] 3)
  have hb1 := hb0.alloc hb0.size (.cells #[.int .i64 s] 3)
  have hbz := hb1.alloc hb1.size (.cells #[.slice (some ⟨w.heap.size, 0, none⟩) 1 1, .slice x n cap, .slice (some ⟨w.heap.size + 1, 0, none⟩) 1 1] 97)
  rw [← hwz] at hbz
  have c0 : ∀ j, j < 3 → wz.cell? ⟨w.heap.size + 2, j, none⟩ = some (if j = 0 then .slice (some ⟨w.heap.size, 0, none⟩) 1 1 else if j = 1 then .slice x n cap else .slice (some ⟨w.heap.size + 1, 0, none⟩) 1 1) := by
    intro j hj
    obtain rfl | rfl | rfl : j = 0 ∨ j = 1 ∨ j = 2 := by omega
    all_goals (rw [hwz]; go_simp)
  have h0 : ∀ j, j < 3 → Holds .i64 wz (if j = 0 then .slice (some ⟨w.heap.size, 0, none⟩) 1 1 else if j = 1 then .slice x n cap else .slice (some ⟨w.heap.size + 1, 0, none⟩) 1 1) (if j = 0 then [s] else if j = 1 then l else [s]) := by
    intro j hj
    obtain rfl | rfl | rfl : j = 0 ∨ j = 1 ∨ j = 2 := by omega
    · refine ⟨_, 1, rfl, by simp, Or.inr ⟨_, _, rfl, fun i hi => ?_⟩⟩
      obtain rfl : i = 0 := by simpa using hi
      rw [hwz]; go_simp; rfl
    · exact h.on hbz
    · refine ⟨_, 1, rfl, by simp, Or.inr ⟨_, _, rfl, fun i hi => ?_⟩⟩
      obtain rfl : i = 0 := by simpa using hi
      rw [hwz]; go_simp; rfl
  have hcat : cat (fun j => if j = 0 then [s] else if j = 1 then l else [s]) 3 = [s] ++ l ++ [s] := by simp [cat]
  have HC := Lib.hid (concat (w.heap.size + 2) _ (fun j => if j = 0 then [s] else if j = 1 then l else [s]) 3 wz (by decide) c0 h0 (by rw [hcat]; simp; omega))
  rw [hcat] at HC
  have HBZ := Lib.hid hbz
  rw [hwz] at HC HBZ
  have HN := Lib.hid hn
  clear hn hwz hb0 hb1 hbz c0 h0 hcat h hh
  go_enter Tryz.func199, Tryz.ntmps199
  go_wp2_with fail
  refine HC.out.mono ?_
  rintro e w1 ⟨v1, rfl, ho, hb⟩
  have HO := Lib.hid ho; have HB := Lib.hid (HBZ.out.trans (hb.mono HBZ.out.size))
  clear ho hb
  go_wp2_with fail
  refine (implDigest _ ([s] ++ l ++ [s]) _ HO.out.holds (by simp; omega)).mono ?_
  rintro e w3 ⟨rfl, rfl⟩
  go_wp2_with fail
  go_ret
  exact ⟨rfl, HB.out⟩

theorem implValidSecret (s : Int) (w : World) :
    Calls Tryz.prog 155 #[.int .i64 s] w fun e w' => e = .returned (.bool (Num.inB s 1 2147483646)) ∧ w = w' := by
  go_enter Tryz.func155, Tryz.ntmps155
  go_wp2_with fail
  refine (Num.implInRange _ _ _ _).mono ?_
  rintro e w' ⟨rfl, rfl⟩
  go_wp2_with fail
  go_ret
  exact ⟨rfl, rfl⟩
theorem specValidSecret (s : Int) (w : World) :
    Calls Tryz.prog 146 #[.int .i64 s] w fun e w' => e = .returned (.bool (Num.inB s 1 2147483646)) ∧ w = w' := by
  go_enter Tryz.func146, Tryz.ntmps146
  go_wp2_with fail
  refine (Num.specIn _ _ _ _).mono ?_
  rintro e w' ⟨rfl, rfl⟩
  go_wp2_with fail
  go_ret
  exact ⟨rfl, rfl⟩

end Go.Proofs.YtcidfmmeonhkhaaGreatDoor.Sl
/- Contracts of chapter 3's BytesToInts, DeriveSecret, Encrypt and Decrypt, the reference model's and the program's: what they give lies in memory of the call's own; what was in memory stays as it was. No conditions but that lengths fit and that the elements are bytes. -/
namespace Go.Proofs.YtcidfmmeonhkhaaGreatDoor.Sl
open Go.ChangeShapes Go.WideShapes Go.ChangeAt Go.RowKit Go.Instr
open Seal (digest mac b2i derive dstep chg encF decF enc dec)
set_option linter.unusedVariables false
set_option maxRecDepth 100000

set_option maxHeartbeats 1000000 in
theorem specBytesToInts (v : Value) (l : List Int) (w : World) (h : Holds .u8 w v l) (hB : Byt l) (hl : l.length ≤ 8000000) :
    Calls Tryz.prog 206 #[v] w (GivesI w (b2i l)) := by
  obtain ⟨x, cap, rfl, hcap, hh⟩ := h.shape
  obtain ⟨n, hn⟩ : ∃ n, n = l.length := ⟨_, rfl⟩
  rw [← hn] at hcap hh hl ⊢
  have HN := Lib.hid hn; have HH := Lib.hid hh; have HBY := Lib.hid hB
  have H0 := Lib.hid (own_one .i64 3 w n)
  have B0 := Lib.hid ((Below.refl w.heap.size w).alloc (Nat.le_refl _) (.cells #[.int .i64 n] 3))
  clear hn h hh hB
  go_enter Tryz.func206, Tryz.ntmps206
  go_wp2_with fail
  go_loopw [3, 4] (fun rv iv wr => ∃ k : Nat, k ≤ n ∧ iv = .int .i64 k ∧ Hid (Own 3 .i64 w.heap.size wr rv ((n : Int) :: l.take k)) ∧ Hid (Below w.heap.size w wr)) (fun _ iv _ => n - (intOf iv).toNat)
  case atStart => exact ⟨0, Nat.zero_le _, rfl, H0, B0⟩
  case round =>
    obtain ⟨k, hk, rfl, ho, hb⟩ := hrel
    by_cases hlt : k < n
    · have hlen := HN.out
      obtain ⟨b, off, rfl, hc⟩ := (HH.out.on hb.out).at (j := k) (by omega)
      obtain ⟨y0, y1⟩ := HBY.out.at (j := k) (by omega)
      have HS := Lib.hid (Seal.b2i_step (l := l) (k := k) (by omega))
      rw [← hlen] at HS
      clear hlen
      go_wp2_with (at_builtin; refine wpList_app (k := .i64) (B := w.heap.size) (l := (n : Int) :: l.take k) (m := [nth l k]) rfl _ _ rfl Tryz.underlying97 elemINT rfl rfl rfl (ho.out.on ((Below.refl _ _).alloc (Nat.le_refl _) _)) (holds_one .i64 _ _ _) ?_ (by decide) ?_ ?_)
      · rw [List.length_cons, List.length_take, List.length_singleton]; omega
      · have := hb.out.size; simp; omega
      intro v2 w2 ho2 hg
      have HO2 := Lib.hid ho2; have HB2 := Lib.hid ((hb.out.alloc hb.out.size _).grown hg (by have := hb.out.size; simp; omega) (fun g hh => (ho.out.lt g hh).1))
      clear ho2 hg
      go_wp2_with fail
      go_roundw
      case rel => exact ⟨k + 1, by omega, by go_num, by rw [HS.out]; exact HO2, HB2⟩
      case measure => simp [intOf]; omega
    · obtain rfl : k = n := by omega
      clear hlt
      go_wp2_with fail
      go_ret
      refine ⟨_, rfl, ?_, hb.out⟩
      have := ho.out
      rw [HN.out, List.take_length] at this
      exact this

set_option maxHeartbeats 1000000 in
theorem implBytesToInts (v : Value) (l : List Int) (w : World) (h : Holds .u8 w v l) (hB : Byt l) (hl : l.length ≤ 8000000) :
    Calls Tryz.prog 222 #[v] w (GivesI w (b2i l)) := by
  obtain ⟨x, cap, rfl, hcap, hh⟩ := h.shape
  obtain ⟨i0, hi, hz0, hz1, hz2⟩ := info_parts elemINT
  obtain ⟨n, hn⟩ : ∃ n, n = l.length := ⟨_, rfl⟩
  rw [← hn] at hcap hh hl ⊢
  have HN := Lib.hid hn; have HH := Lib.hid hh; have HBY := Lib.hid hB
  have HI := Lib.hid hi; have HZ0 := Lib.hid hz0; have HZ1 := Lib.hid hz1; have HZ2 := Lib.hid hz2
  clear hn h hh hB hi hz0 hz1 hz2
  go_enter Tryz.func222, Tryz.ntmps222
  go_wp2_with (at_make; refine wpList_make_own _ rfl _ _ 97 rfl w.heap.size 3 i0 (.int .i64 0) 1 Tryz.underlying97 HI.out HZ0.out HZ1.out _ _ _ (n + 1) rfl rfl ?_ (by rw [HZ2.out]; omega) (by unfold maxLen; omega) (Nat.le_refl _) ?_)
  · rfl
  intro w1 hown hgrow
  have HO1 := Lib.hid (show Own 3 .i64 w.heap.size w1 (.slice (some ⟨w.heap.size, 0, none⟩) 0 (n + 1)) [] from hown)
  have HB1 := Lib.hid ((Below.refl w.heap.size w).grown hgrow (Nat.le_refl _) (fun k hk => by cases hk))
  clear hown hgrow
  go_wp2_with (at_builtin; refine wpList_app (k := .i64) (B := w.heap.size) (l := []) (m := [(n : Int)]) rfl _ _ rfl Tryz.underlying97 elemINT rfl rfl rfl (HO1.out.on ((Below.refl _ _).alloc (Nat.le_refl _) _)) (holds_one .i64 _ _ _) ?_ (by decide) ?_ ?_)
  · simp
  · have := HB1.out.size; simp; omega
  intro v2 w2 ho2 hg
  have HO2 := Lib.hid ho2; have HB2 := Lib.hid ((HB1.out.alloc HB1.out.size _).grown hg (by have := HB1.out.size; simp; omega) (fun g hh => (HO1.out.lt g hh).1))
  clear ho2 hg
  go_wp2_with fail
  go_loopw [3, 17] (fun rv iv wr => ∃ k : Nat, k ≤ n ∧ iv = .int .i64 k ∧ Hid (Own 3 .i64 w.heap.size wr rv ((n : Int) :: l.take k)) ∧ Hid (Below w.heap.size w wr)) (fun _ iv _ => n - (intOf iv).toNat)
  case atStart => exact ⟨0, Nat.zero_le _, rfl, HO2, HB2⟩
  case round =>
    obtain ⟨k, hk, rfl, ho, hb⟩ := hrel
    by_cases hlt : k < n
    · have hlen := HN.out
      obtain ⟨b, off, rfl, hc⟩ := (HH.out.on hb.out).at (j := k) (by omega)
      obtain ⟨y0, y1⟩ := HBY.out.at (j := k) (by omega)
      have HS := Lib.hid (Seal.b2i_step (l := l) (k := k) (by omega))
      rw [← hlen] at HS
      clear hlen
      go_wp2_with (at_builtin; refine wpList_app (k := .i64) (B := w.heap.size) (l := (n : Int) :: l.take k) (m := [nth l k]) rfl _ _ rfl Tryz.underlying97 elemINT rfl rfl rfl (ho.out.on ((Below.refl _ _).alloc (Nat.le_refl _) _)) (holds_one .i64 _ _ _) ?_ (by decide) ?_ ?_)
      · rw [List.length_cons, List.length_take, List.length_singleton]; omega
      · have := hb.out.size; simp; omega
      intro v2 w2 ho2 hg
      have HO2 := Lib.hid ho2; have HB2 := Lib.hid ((hb.out.alloc hb.out.size _).grown hg (by have := hb.out.size; simp; omega) (fun g hh => (ho.out.lt g hh).1))
      clear ho2 hg
      go_wp2_with fail
      go_roundw
      case rel => exact ⟨k + 1, by omega, by go_num, by rw [HS.out]; exact HO2, HB2⟩
      case measure => simp [intOf]; omega
    · obtain rfl : k = n := by omega
      clear hlt
      go_wp2_with fail
      go_ret
      refine ⟨_, rfl, ?_, hb.out⟩
      have := ho.out
      rw [HN.out, List.take_length] at this
      exact this

/-- A MAC over one number. -/
def GivesM (w : World) (s i : Int) (e : Ending) (w' : World) : Prop := ∃ m : Int, e = .returned (.int .i64 m) ∧ m = mac s [i] ∧ 0 ≤ m ∧ m < 2147483647 ∧ Below w.heap.size w w'
def GivesU (w : World) (n : Int) (e : Ending) (w' : World) : Prop := ∃ m : Int, e = .returned (.int .u8 m) ∧ m = n ∧ 0 ≤ m ∧ m ≤ 255 ∧ Below w.heap.size w w'

end Go.Proofs.YtcidfmmeonhkhaaGreatDoor.Sl
