/- Contracts and mathematics, joined: RingC, RingE, KInt, KFun8, ThingE, ThingQ, ThingD0, ThingD, ThingR, KFunD, RingD, RingG, RingH, KRing, TrustB, TrustC, NameMath, Let, VPat, VPat2, Bind, Find, Step, Match, Match2, Match3, Split, ParseN, PParse. No conditions but those that each states. -/
import Derived.Test.YtcidfmmeonhkhaaB8
import Derived.Test.YtcidfmmeonhkhaaB2
import Derived.BigQuiet
import Derived.Test.YtcidfmmeonhkhaaB1
import Derived.Test.YtcidfmmeonhkhaaB7
import Derived.Test.YtcidfmmeonhkhaaB6
import Derived.Test.YtcidfmmeonhkhaaB5
import Derived.Lib.Join
import Derived.Test.YtcidfmmeonhkhaaB3
import Derived.Lib.OthersKept
/- The contract of the model's ValidKeys. No conditions but that lengths fit. -/
namespace Go.Proofs.Ytcidfmmeonhkhaa.Row.Ring
open Go.ChangeShapes Go.WideShapes Go.ChangeAt Go.RowKit Go.Instr
set_option linter.unusedVariables false
set_option maxRecDepth 100000

def okM (T : List (List ByteArray × Int)) (k : Nat) : Prop := okS T k ∧ ((T.take k).map (·.1)).Nodup
theorem okM_zero (T : List (List ByteArray × Int)) : okM T 0 := ⟨okS_zero T, by simp⟩
theorem named {T : List (List ByteArray × Int)} {m : List ByteArray} : 0 ≤ ixT (isN m) T ↔ m ∈ T.map (·.1) := by
  rcases ixT_cases (isN m) T with ⟨h1, -, h3⟩ | ⟨i, hi, h1, -, h3, -⟩
  · rw [h1]
    constructor
    · intro h; omega
    · intro h
      obtain ⟨x, hx, rfl⟩ := List.mem_map.1 h
      obtain ⟨j, hj, rfl⟩ := List.getElem_of_mem hx
      have := h3 j hj
      rw [nth_eq hj] at this
      unfold isN at this
      rw [eqB_true rfl] at this
      cases this
  · rw [h1]
    refine ⟨fun _ => ?_, fun _ => by omega⟩
    have e : (nth T i).1 = m := by
      apply Classical.byContradiction
      intro e
      unfold isN at h3
      rw [eqB_false e] at h3
      cases h3
    rw [← e]
    exact List.mem_map_of_mem (nth_mem hi)
theorem okM_next {T : List (List ByteArray × Int)} {k : Nat} (h : okM T k) (hk : k < T.length) (hv : vkey (nth T k) = true) (hn : ¬ 0 ≤ ixT (isN (nth T k).1) (T.take k)) (hs : ∀ j, j < k → (nth T j).2 ≠ (nth T k).2) : okM T (k + 1) := by
  refine ⟨okS_next h.1 hk hv fun hm => ?_, ?_⟩
  · obtain ⟨x, hx, e⟩ := List.mem_map.1 hm
    obtain ⟨j, hj, rfl⟩ := List.getElem_of_mem hx
    rw [List.length_take] at hj
    have := hs j (by omega)
    rw [nth_eq (by omega)] at this
    rw [List.getElem_take] at e
    exact this e
  · rw [List.take_succ_eq_append_getElem hk, ← nth_eq hk, List.map_append, List.nodup_append]
    exact ⟨h.2, by simp, fun a ha b hb e => hn (named.2 (by simp at hb; rw [← hb, ← e]; exact ha))⟩
theorem validK_named {T : List (List ByteArray × Int)} {k : Nat} (hk : k < T.length) (hs : 0 ≤ ixT (isN (nth T k).1) (T.take k)) : validK T = false :=
  validK_no fun h => by
    have h2 : ((T.take (k + 1)).map (·.1)).Nodup := by
      have e : T.map (·.1) = (T.take (k + 1)).map (·.1) ++ (T.drop (k + 1)).map (·.1) := by rw [← List.map_append, List.take_append_drop]
      have h3 := h.2.1
      rw [e, List.nodup_append] at h3
      exact h3.1
    rw [List.take_succ_eq_append_getElem hk, ← nth_eq hk, List.map_append, List.nodup_append] at h2
    exact h2.2.2 _ (named.1 hs) _ (by simp) rfl
theorem validK_pair {T : List (List ByteArray × Int)} {k j : Nat} (hk : k < T.length) (hj : j < k) (hs : (nth T j).2 = (nth T k).2) : validK T = false :=
  validK_twice hk (by
    rw [← hs]
    refine List.mem_map_of_mem ?_
    rw [nth_eq (by omega), List.mem_take_iff_getElem]
    exact ⟨j, by omega, rfl⟩)
theorem validK_all {T : List (List ByteArray × Int)} (h : okM T T.length) : validK T = decide (T.length ≤ 8) := by
  rw [validK_of h.1]
  have h2 := h.2
  rw [List.take_length] at h2
  rw [decide_eq_true h2, Bool.and_true]
theorem vkey_not1 {l : List ByteArray} {s : Int} (h : validN l = false) : vkey (l, s) = false := by unfold vkey; rw [show validN (l, s).1 = false from h]; rfl
theorem vkey_not2 {l : List ByteArray} {s : Int} (h : l.length = 0) : vkey (l, s) = false := by unfold vkey; rw [show decide (0 < (l, s).1.length) = false from decide_eq_false (by show ¬ 0 < l.length; omega)]; simp
theorem vkey_not3 {l : List ByteArray} {s : Int} (h : Num.inB s 1 2147483646 = false) : vkey (l, s) = false := by unfold vkey; rw [show Num.inB (l, s).2 1 2147483646 = false from h]; simp
theorem vkey_yes {l : List ByteArray} {s : Int} (h1 : validN l = true) (h2 : 0 < l.length) (h3 : Num.inB s 1 2147483646 = true) : vkey (l, s) = true := by unfold vkey; rw [show validN (l, s).1 = true from h1, show Num.inB (l, s).2 1 2147483646 = true from h3, decide_eq_true (show 0 < (l, s).1.length from h2)]; rfl
theorem TabH.upto {w : World} {x : Option Addr} {n cap : Nat} {L : List Ent} (h : TabH w (.slice x n cap) L) {k : Nat} (hk : k ≤ L.length) : TabH w (.slice x k cap) (L.take k) := ⟨h.1.take szE hk, fun y hy => h.2 y (List.mem_of_mem_take hy)⟩

set_option maxHeartbeats 8000000 in
theorem specValidKeys (v : Value) (T : List (List ByteArray × Int)) (w : World) (h : TabHolds w v T) (hl : T.length ≤ 4000000) (hT : smT T) :
    Calls Try.prog 38 #[v] w fun e w' => e = .returned (.bool (validK T)) ∧ Below w.heap.size w w' := by
  obtain ⟨L, rfl, h⟩ := h
  obtain ⟨x, n, cx, rfl, hn, hcx, hh⟩ := h.shapeN
  rw [strip_length, ← hn] at hl
  have HN := Lib.hid hn; have HH := Lib.hid hh; have HT := Lib.hid hT
  clear hn h hh hT
  go_enter Try.func38, Try.ntmps38
  go_wp2_with fail
  go_loopw [3] (fun i wr => ∃ k : Nat, k ≤ n ∧ i = .int .i64 k ∧ Hid (okM (strip L) k) ∧ Hid (Below w.heap.size w wr)) (fun i _ => n - (intOf i).toNat)
  case atStart => exact ⟨0, Nat.zero_le _, rfl, Lib.hid (okM_zero _), Lib.hid (Below.refl _ _)⟩
  case round =>
    obtain ⟨k, hk, rfl, hO, hB⟩ := hrel
    by_cases hlt : k < n
    · have HKL := Lib.hid (show k < L.length by have := HN.out; omega)
      have HHr := Lib.hid (HH.out.on hB.out)
      obtain ⟨b, off, rfl, hc, hd, hnm⟩ := HHr.out.at HKL.out
      have HPS := Lib.hid (smT_ps HT.out HKL.out)
      have HE := Lib.hid (strip_nth HKL.out)
      have HKT := Lib.hid (show k < (strip L).length by rw [strip_length]; exact HKL.out)
      have HC := Lib.hid hc; have HD := Lib.hid hd; have HNM := Lib.hid hnm
      have hkc : k ≤ cx := by omega
      have hlen0 := hnm.lenEq
      have HLEN := Lib.hid hlen0
      clear hc hd hnm hlen0
      obtain ⟨z1, hz1⟩ : ∃ z, validN (nth L k).ps = z := ⟨_, rfl⟩
      have HZ1 := Lib.hid hz1
      clear hz1
      cases z1 with
      | false =>
        have HV := Lib.hid (validK_bad HKT.out (by rw [HE.out]; exact vkey_not1 HZ1.out))
        go_wp2_with fail
        refine regK1 hlt hkc hl HC HD HNM HPS HZ1 ?_
        intro u11 u12 u13 u14 u15 u16 u17 u18 u19 u20 u21 u22 u23 u24 u25 u26 u27 u28 u29 u30 u31 u32 u33 u34 u35 u36 u37 u38 u39 u40 u41 u42 u43 u44 u45 u46 u47 wx hb1
        have HB2 := Lib.hid (hB.out.trans (hb1.mono hB.out.size))
        clear hb1
        go_wp2_with fail
        go_ret
        exact ⟨ret_bool HV.out.symm, HB2.out⟩
      | true =>
        by_cases hna : (nth L k).n = 0
        · have HV := Lib.hid (validK_bad HKT.out (by rw [HE.out]; exact vkey_not2 (by have := HLEN.out; omega)))
          rw [hna] at HC HNM
          clear hna
          go_wp2_with fail
          refine regK2 hlt hkc hl HC HD HNM HPS HZ1 ?_
          intro u11 u12 u13 u14 u15 u16 u17 u18 u19 u20 u21 u22 u23 u24 u25 u26 u27 u28 u29 u30 u31 u32 u33 u34 u35 u36 u37 u38 u39 u40 u41 u42 u43 u44 u45 u46 u47 wx hb1
          have HB2 := Lib.hid (hB.out.trans (hb1.mono hB.out.size))
          clear hb1
          go_wp2_with fail
          go_ret
          exact ⟨ret_bool HV.out.symm, HB2.out⟩
        · have HNA := Lib.hid (show (((nth L k).n : Int) == 0) = false by simpa using hna)
          have HP0 := Lib.hid (show 0 < (nth L k).ps.length by have := HLEN.out; omega)
          clear hna
          obtain ⟨z2, hz2⟩ : ∃ z, Num.inB (nth L k).val 1 2147483646 = z := ⟨_, rfl⟩
          have HZ2 := Lib.hid hz2
          clear hz2
          cases z2 with
          | false =>
            have HV := Lib.hid (validK_bad HKT.out (by rw [HE.out]; exact vkey_not3 HZ2.out))
            go_wp2_with fail
            refine regK3 hlt hkc hl HC HD HNM HPS HNA.out HZ1 HZ2 ?_
            intro u11 u12 u13 u14 u15 u16 u17 u18 u19 u20 u21 u22 u23 u24 u25 u26 u27 u28 u29 u30 u31 u32 u33 u34 u35 u36 u37 u38 u39 u40 u41 u42 u43 u44 u45 u46 u47 wx hb1
            have HB2 := Lib.hid (hB.out.trans (hb1.mono hB.out.size))
            clear hb1
            go_wp2_with fail
            go_ret
            exact ⟨ret_bool HV.out.symm, HB2.out⟩
          | true =>
            obtain ⟨r, hr⟩ : ∃ r, ixT (isN (nth L k).ps) (strip (L.take k)) = r := ⟨_, rfl⟩
            have HR := Lib.hid hr
            have HR2 := Lib.hid (show ixT (isN (nth (strip L) k).1) ((strip L).take k) = r by rw [HE.out, ← strip_take]; exact hr)
            have HT1 := Lib.hid (HHr.out.upto (Nat.le_of_lt HKL.out))
            have HT2 := Lib.hid (show (strip (L.take k)).length ≤ 100000000 by rw [strip_length, List.length_take]; have := HN.out; omega)
            have HT3 := Lib.hid (show smT (strip (L.take k)) by rw [strip_take]; exact smT_take HT.out k)
            have HT4 := Lib.hid (smT_psl HT.out HKL.out)
            clear hr
            by_cases hr0 : 0 ≤ r
            · have hrd : decide (0 ≤ r) = true := decide_eq_true hr0
              have HV := Lib.hid (validK_named HKT.out (by rw [HR2.out]; exact hr0))
              go_wp2_with fail
              refine regK4 hlt hkc hl HC HD HNM HPS HNA.out HT1 HT2 HT3 HT4 HR HZ1 HZ2 ?_
              intro u11 u12 u13 u14 u15 u16 u17 u18 u19 u20 u21 u22 u23 u24 u25 u26 u27 u28 u29 u30 u31 u32 u33 u34 u35 u36 u37 u38 u39 u40 u41 u42 u43 u44 u45 u46 u47 wx hb1
              have HB2 := Lib.hid (hB.out.trans (hb1.mono hB.out.size))
              clear hb1
              go_wp2_with fail
              go_ret
              exact ⟨ret_bool HV.out.symm, HB2.out⟩
            · have hrd : decide (0 ≤ r) = false := decide_eq_false hr0
              have HRN := Lib.hid (show ¬ 0 ≤ ixT (isN (nth (strip L) k).1) ((strip L).take k) by rw [HR2.out]; exact hr0)
              go_wp2_with fail
              refine regK4 hlt hkc hl HC HD HNM HPS HNA.out HT1 HT2 HT3 HT4 HR HZ1 HZ2 ?_
              intro u11 u12 u13 u14 u15 u16 u17 u18 u19 u20 u21 u22 u23 u24 u25 u26 u27 u28 u29 u30 u31 u32 u33 u34 u35 u36 u37 u38 u39 u40 u41 u42 u43 u44 u45 u46 u47 wx hb1
              have HB2 := Lib.hid (hB.out.trans (hb1.mono hB.out.size))
              have HH2 := Lib.hid (HHr.out.on hb1)
              clear hb1 HHr HT1 HT2 HT3 HR HR2 HC HD HNM
              go_wp2_with fail
              go_loopw [4] (fun i wq => ∃ j : Nat, j ≤ k ∧ i = .int .i64 j ∧ Hid (∀ p, p < j → (nth (strip L) p).2 ≠ (nth (strip L) k).2) ∧ Hid (Below wx.heap.size wx wq)) (fun i _ => k - (intOf i).toNat)
              case atStart => exact ⟨0, Nat.zero_le _, rfl, Lib.hid (fun p hp => absurd hp (by omega)), Lib.hid (Below.refl _ _)⟩
              case round =>
                obtain ⟨j, hj, rfl, hS, hB3⟩ := hrel
                by_cases hjk : j < k
                · have hjl : j < L.length := Nat.lt_trans hjk HKL.out
                  have HJ := Lib.hid (strip_nth hjl)
                  obtain ⟨b', off', hxx, -, hdj, -⟩ := (HH2.out.on hB3.out).at hjl
                  cases hxx
                  obtain ⟨b'', off'', hxx, -, hdk, -⟩ := (HH2.out.on hB3.out).at HKL.out
                  cases hxx
                  have hjn : (j : Int) < (n : Int) := by omega
                  have hkn : (k : Int) < (n : Int) := by omega
                  clear hjl
                  by_cases hs : (nth L j).val = (nth L k).val
                  · have ht : ((nth L j).val == (nth L k).val) = true := by simpa using hs
                    have HV := Lib.hid (validK_pair HKT.out hjk (by rw [HE.out, HJ.out]; exact hs))
                    clear hs
                    go_wp2_with (go_quiet (fail))
                    all_goals
                      go_ret
                      exact ⟨ret_bool HV.out.symm, Lib.hid (below_drewN (HB2.out.trans (hB3.out.mono HB2.out.size)) _) |>.out⟩
                  · have ht : ((nth L j).val == (nth L k).val) = false := by simpa using hs
                    have HS2 := Lib.hid (show ∀ p, p < j + 1 → (nth (strip L) p).2 ≠ (nth (strip L) k).2 from fun p hp => by
                      by_cases e : p = j
                      · subst e; rw [HE.out, HJ.out]; exact hs
                      · exact hS.out p (by omega))
                    clear hs
                    go_wp2_with (go_quiet (fail))
                    all_goals
                      go_roundw
                      case rel => exact ⟨j + 1, by omega, by go_num, HS2, Lib.hid (below_drewN hB3.out _)⟩
                      case measure => simp [intOf]; omega
                · obtain rfl : j = k := by omega
                  have HO2 := Lib.hid (okM_next hO.out HKT.out (by rw [HE.out]; exact vkey_yes HZ1.out HP0.out HZ2.out) (by have := HRN.out; omega) hS.out)
                  have HB4 := Lib.hid (HB2.out.trans (hB3.out.mono HB2.out.size))
                  clear hjk
                  go_wp2_with fail
                  go_roundw
                  case rel => exact ⟨j + 1, by omega, by go_num, HO2, HB4⟩
                  case measure => simp [intOf]; omega
    · obtain rfl : k = n := by omega
      have hV := validK_all (T := strip L) (by rw [strip_length, ← HN.out]; exact hO.out)
      rw [strip_length, ← HN.out] at hV
      have HV := Lib.hid hV
      clear hlt hV
      go_wp2_with fail
      go_ret
      refine ⟨ret_bool ?_, hB.out⟩
      rw [HV.out]
      exact decide_eq_decide.2 (by omega)
end Go.Proofs.Ytcidfmmeonhkhaa.Row.Ring
/- Contracts of the library's slices.Grow at the nil slice and slices.Concat at lists of keys, and of the program's AddKey. No conditions but that lengths fit. -/
namespace Go.Proofs.Ytcidfmmeonhkhaa.Row.Ring
open Go.ChangeShapes Go.WideShapes Go.ChangeAt Go.RowKit Go.Instr
set_option linter.unusedVariables false
set_option maxRecDepth 100000

/-- A row of keys of the call's own (their names may be others'). -/
def GivesK (w : World) (L : List Ent) (e : Ending) (w' : World) : Prop := ∃ v, e = .returned v ∧ OwnK 89 encE 2 w.heap.size w' v L ∧ Below w.heap.size w w'

/-- The first k lists, one behind the other. -/
def catK (ls : Nat → List Ent) : Nat → List Ent
  | 0 => []
  | k + 1 => catK ls k ++ ls k
/-! ### AddKey -/
def addK (T : List (List ByteArray × Int)) (x : List ByteArray × Int) : List (List ByteArray × Int) := if validK (T ++ [x]) then T ++ [x] else T
/-- A list of keys of the call's own, and whether the key is in it. -/
def GivesKB (w : World) (T : List (List ByteArray × Int)) (z : Bool) (e : Ending) (w' : World) : Prop := ∃ v, e = .returned (.tuple #[v, .bool z]) ∧ TabOwn w.heap.size w' v T ∧ Below w.heap.size w w'
end Go.Proofs.Ytcidfmmeonhkhaa.Row.Ring
/- Slices of ints in the words of the exact laws. No conditions but that lengths fit. -/
namespace Go.Proofs.Ytcidfmmeonhkhaa.Row
open Go.ChangeShapes Go.WideShapes Go.ChangeAt Go.RowKit Go.Instr
set_option linter.unusedVariables false
set_option maxRecDepth 100000

def kI : Kd (List Int) (Rw Int) := kS 3 (Value.int .i64) (fun _ => rfl)
section
variable {w : World} {v V : Value} {l : List Int} {B E : Nat}
end
end Go.Proofs.Ytcidfmmeonhkhaa.Row
/- Chapter 8's functions, the model's and the program's, in the words of kinds. No conditions but that lengths fit. -/
namespace Go.Proofs.Ytcidfmmeonhkhaa.Row
open Go.ChangeShapes Go.WideShapes Go.ChangeAt Go.RowKit Go.Instr
set_option linter.unusedVariables false
set_option maxRecDepth 100000

set_option maxHeartbeats 4000000 in
theorem implValidData (a b c : Value) (x : Dt) (w : World) (h : DHold w a b c x) (h1 : bulk x.1 ≤ 9000000) (h3 : bulk x.2.2.1 ≤ 9000000) :
    Calls Try.prog 93 #[.agg (dc a b c x.2.2.2.1 x.2.2.2.2)] w fun e w' => e = .returned (.bool (validD x)) ∧ Below w.heap.size w w' := by
  obtain ⟨l, m, k, f, s⟩ := x
  simp only at h1 h3 ⊢
  obtain ⟨xa, na, ca, xb, nb, cb, xc, nc, cc, rfl, rfl, rfl⟩ := h.shape
  have HA := Lib.hid (show na = l.length from Holds.lenEq h.1); have HM := Lib.hid (show nb = m.length from Sl.Holds.lenEq h.2.1)
  have HB := Lib.hid ((Below.refl w.heap.size w).alloc (Nat.le_refl _) (.cells (dc (.slice xa na ca) (.slice xb nb cb) (.slice xc nc cc) f s) 61))
  have H0 := Lib.hid h
  have HX := Lib.hid (Ret.Blk.new w (dc (.slice xa na ca) (.slice xb nb cb) (.slice xc nc cc) f s) 61)
  clear h
  obtain ⟨v1, hv1⟩ : ∃ z, validN l = z := ⟨_, rfl⟩
  obtain ⟨v2, hv2⟩ : ∃ z, validN k = z := ⟨_, rfl⟩
  have HV1 := Lib.hid hv1; have HV2 := Lib.hid hv2
  clear hv1 hv2
  go_enter Try.func93, Try.ntmps93
  go_wp2_with fail
  refine (implValidName _ l _ (H0.out.on HB.out).1 (by omega)).mono ?_
  rintro e w1 ⟨rfl, hb⟩
  rw [HV1.out]
  replace HX := Lib.hid (HX.out.on hb)
  replace HB := Lib.hid (HB.out.trans (hb.mono HB.out.size)); clear hb
  have q0 : w1.cell? ⟨w.heap.size, 0, none⟩ = some (.slice xa na ca) := HX.out.cell 0
  have q1 : w1.cell? ⟨w.heap.size, 1, none⟩ = some (.slice xb nb cb) := HX.out.cell 1
  have q2 : w1.cell? ⟨w.heap.size, 2, none⟩ = some (.slice xc nc cc) := HX.out.cell 2
  have q3 : w1.cell? ⟨w.heap.size, 3, none⟩ = some (.int .i64 f) := HX.out.cell 3
  have q4 : w1.cell? ⟨w.heap.size, 4, none⟩ = some (.int .i64 s) := HX.out.cell 4
  cases v1 with
  | false =>
    have HV := Lib.hid (validD_no (x := (l, m, k, f, s)) (fun e => by have h9 := e.1; rw [show validN l = false from HV1.out] at h9; cases h9))
    go_wp2_with fail
    go_ret
    exact ⟨ret_bool HV.out.symm, HB.out⟩
  | true =>
    by_cases hn : 0 < na
    · have t2 : decide ((0 : Int) < (na : Int)) = true := by simp; omega
      by_cases hm : nb ≤ 60
      · have t3 : decide ((nb : Int) ≤ 60) = true := by simp; omega
        go_wp2_with fail
        clear q0 q1 q2 q3 q4
        refine (implValidName _ k _ (H0.out.on HB.out).2.2 (by omega)).mono ?_
        rintro e w2 ⟨rfl, hb⟩
        rw [HV2.out]
        replace HX := Lib.hid (HX.out.on hb)
        replace HB := Lib.hid (HB.out.trans (hb.mono HB.out.size)); clear hb
        have q0 : w2.cell? ⟨w.heap.size, 0, none⟩ = some (.slice xa na ca) := HX.out.cell 0
        have q1 : w2.cell? ⟨w.heap.size, 1, none⟩ = some (.slice xb nb cb) := HX.out.cell 1
        have q2 : w2.cell? ⟨w.heap.size, 2, none⟩ = some (.slice xc nc cc) := HX.out.cell 2
        have q3 : w2.cell? ⟨w.heap.size, 3, none⟩ = some (.int .i64 f) := HX.out.cell 3
        have q4 : w2.cell? ⟨w.heap.size, 4, none⟩ = some (.int .i64 s) := HX.out.cell 4
        cases v2 with
        | false =>
          have HV := Lib.hid (validD_no (x := (l, m, k, f, s)) (fun e => by have h9 := e.2.2.2.1; rw [show validN k = false from HV2.out] at h9; cases h9))
          go_wp2_with fail
          go_ret
          exact ⟨ret_bool HV.out.symm, HB.out⟩
        | true =>
          by_cases hf : 0 ≤ f ∧ f ≤ 100000
          · have HI := Lib.hid (fun wx => Num.implIn_true hf.1 hf.2 wx)
            have H_hf := Lib.hid hf
            clear hf
            go_wp2_with fail
            refine (HI.out _).mono ?_
            rintro e w' ⟨rfl, rfl⟩
            clear HI
            by_cases hs : 0 ≤ s ∧ s ≤ 2147483646
            · have HI := Lib.hid (fun wx => Num.implIn_true hs.1 hs.2 wx)
              have H_hs := Lib.hid hs
              clear hs
              go_wp2_with fail
              refine (HI.out _).mono ?_
              rintro e w' ⟨rfl, rfl⟩
              clear HI
              have HV := Lib.hid ((validD_iff (x := (l, m, k, f, s))).2 (show validN l = true ∧ 0 < l.length ∧ m.length ≤ 60 ∧ validN k = true ∧ (0 ≤ f ∧ f ≤ 100000) ∧ (0 ≤ s ∧ s ≤ 2147483646) from ⟨HV1.out, by rw [← HA.out]; exact hn, by rw [← HM.out]; exact hm, HV2.out, H_hf.out, H_hs.out⟩))
              go_wp2_with fail
              go_ret
              exact ⟨ret_bool HV.out.symm, HB.out⟩
            · have HI := Lib.hid (fun wx => Num.implIn_false hs wx)
              have HV := Lib.hid (validD_no (x := (l, m, k, f, s)) (fun e => hs e.2.2.2.2.2))
              clear hs
              go_wp2_with fail
              refine (HI.out _).mono ?_
              rintro e w' ⟨rfl, rfl⟩
              go_wp2_with fail
              go_ret
              exact ⟨ret_bool HV.out.symm, HB.out⟩
          · have HI := Lib.hid (fun wx => Num.implIn_false hf wx)
            have HV := Lib.hid (validD_no (x := (l, m, k, f, s)) (fun e => hf e.2.2.2.2.1))
            clear hf
            go_wp2_with fail
            refine (HI.out _).mono ?_
            rintro e w' ⟨rfl, rfl⟩
            go_wp2_with fail
            go_ret
            exact ⟨ret_bool HV.out.symm, HB.out⟩
      · have t3 : decide ((nb : Int) ≤ 60) = false := by simp; omega
        have HV := Lib.hid (validD_no (x := (l, m, k, f, s)) (fun e => hm (by rw [HM.out]; exact e.2.2.1)))
        go_wp2_with fail
        go_ret
        exact ⟨ret_bool HV.out.symm, HB.out⟩
    · have t2 : decide ((0 : Int) < (na : Int)) = false := by simp; omega
      have HV := Lib.hid (validD_no (x := (l, m, k, f, s)) (fun e => hn (by rw [HA.out]; exact e.2.1)))
      go_wp2_with fail
      go_ret
      exact ⟨ret_bool HV.out.symm, HB.out⟩

theorem specValidDataK (V : Value) (x : Dt) (w : World) (h : kD.At w V x) (hl : bulkD x ≤ 9000000) :
    Calls Try.prog 41 #[V] w fun e w' => e = .returned (.bool (validD x)) ∧ Below w.heap.size w w' := by
  obtain ⟨a, b, c, rfl, h9⟩ := kD_at h
  unfold bulkD at hl
  exact specValidData a b c x w h9 (by omega) (by omega)
theorem implValidDataK (V : Value) (x : Dt) (w : World) (h : kD.At w V x) (hl : bulkD x ≤ 9000000) :
    Calls Try.prog 93 #[V] w fun e w' => e = .returned (.bool (validD x)) ∧ Below w.heap.size w w' := by
  obtain ⟨a, b, c, rfl, h9⟩ := kD_at h
  unfold bulkD at hl
  exact implValidData a b c x w h9 (by omega) (by omega)
end Go.Proofs.Ytcidfmmeonhkhaa.Row
/- EncodeData, model and program; the program's numbers. No conditions but that lengths fit. -/
namespace Go.Proofs.Ytcidfmmeonhkhaa.Row
open Go.ChangeShapes Go.WideShapes Go.ChangeAt Go.RowKit Go.Instr
set_option linter.unusedVariables false
set_option maxRecDepth 100000

def encD (x : Dt) : List Int := if validD x = true then appName (appName [] x.1 ++ Var.var x.2.1.length ++ x.2.1) x.2.2.1 ++ Sl.encs [x.2.2.2.1, x.2.2.2.2] else []
end Go.Proofs.Ytcidfmmeonhkhaa.Row
/- Contract of the program's EqualData. No conditions but that lengths fit. -/
namespace Go.Proofs.Ytcidfmmeonhkhaa.Row
open Go.ChangeShapes Go.WideShapes Go.ChangeAt Go.RowKit Go.Instr
set_option linter.unusedVariables false
set_option maxRecDepth 100000

end Go.Proofs.Ytcidfmmeonhkhaa.Row
/- Mathematics of DecodeData. No conditions but that lengths fit. -/
namespace Go.Proofs.Ytcidfmmeonhkhaa.Row
open Go.ChangeShapes Go.WideShapes Go.ChangeAt Go.RowKit Go.Instr
set_option linter.unusedVariables false
set_option maxRecDepth 100000

def d0 : Dt := ([], [], [], 0, 0)
def rN1 (b : List Int) : List ByteArray × Int × Bool := rdN b 0
def rB1 (b : List Int) : List Int × Int × Bool := Sl.readB b (rN1 b).2.1 60
def rN2 (b : List Int) : List ByteArray × Int × Bool := rdN b (rB1 b).2.1
def rI1 (b : List Int) : List Int × Int × Bool := Sl.readIs b (rN2 b).2.1 2
/-- What DecodeData reads. -/
def gotD (b : List Int) : Dt := ((rN1 b).1, (rB1 b).1, (rN2 b).1, Sl.nth (rI1 b).1 0, Sl.nth (rI1 b).1 1)
def okD (b : List Int) : Prop := (rN1 b).2.2 = true ∧ (rB1 b).2.2 = true ∧ (rN2 b).2.2 = true ∧ (rI1 b).2.2 = true
noncomputable def dcD (b : List Int) : Dt × Bool := open Classical in if okD b ∧ (rI1 b).2.1 = b.length ∧ validD (gotD b) = true then (gotD b, true) else (d0, false)
theorem DOwn.nil (B : Nat) (w : World) : DOwn B w (.slice none 0 0) (.slice none 0 0) (.slice none 0 0) d0 := ⟨Own.nil _ _ _ _, Sl.Own.nil _ _ _ _, Own.nil _ _ _ _, fun g e => by (cases e), fun g e => by (cases e), fun g e => by (cases e)⟩
theorem DOwn.on {B : Nat} {w w' : World} {a b c : Value} {x : Dt} (h : DOwn B w a b c x) (hb : Below w.heap.size w w') : DOwn B w' a b c x := ⟨h.1.on hb, Sl.Own.on h.2.1 hb, h.2.2.1.on hb, h.2.2.2⟩
end Go.Proofs.Ytcidfmmeonhkhaa.Row
/- Contract of the model's DecodeData. No conditions but that lengths fit. -/
namespace Go.Proofs.Ytcidfmmeonhkhaa.Row
open Go.ChangeShapes Go.WideShapes Go.ChangeAt Go.RowKit Go.Instr
set_option linter.unusedVariables false
set_option maxRecDepth 100000

end Go.Proofs.Ytcidfmmeonhkhaa.Row
/- Contract of the program's read and DecodeData. No conditions but that lengths fit. -/
namespace Go.Proofs.Ytcidfmmeonhkhaa.Row
open Go.ChangeShapes Go.WideShapes Go.ChangeAt Go.RowKit Go.Instr
set_option linter.unusedVariables false
set_option maxRecDepth 100000

/-- What read leaves: the packet at block g, or nothing. -/
def ReadPost (w : World) (g : Nat) (b : List Int) (e : Ending) (w' : World) : Prop :=
  (okD b ∧ e = .returned (.tuple #[.int .i64 (rI1 b).2.1, .bool true]) ∧ w.grownBy w' (some g) ∧ ∃ a1 b1 c1, Ret.Blk w' g (dc a1 b1 c1 (gotD b).2.2.2.1 (gotD b).2.2.2.2) 61 ∧ DOwn w.heap.size w' a1 b1 c1 (gotD b)) ∨
  (¬ okD b ∧ e = .returned (.tuple #[.int .i64 0, .bool false]) ∧ Below w.heap.size w w')
end Go.Proofs.Ytcidfmmeonhkhaa.Row
/- Chapter 8's functions, the model's and the program's, in the words of kinds. No conditions but that lengths fit. -/
namespace Go.Proofs.Ytcidfmmeonhkhaa.Row
open Go.ChangeShapes Go.WideShapes Go.ChangeAt Go.RowKit Go.Instr
set_option linter.unusedVariables false
set_option maxRecDepth 100000

def eqD (x y : Dt) : Bool := decide (x = y)
section
variable {P : Program} {f : FuncId} {args : Array Value} {w : World}
theorem giveB {l : List Int} (h : Calls P f args w (Sl.GivesB w l)) : Calls P f args w fun e w' => ∃ U, e = .returned U ∧ kB.In w.heap.size w'.heap.size w' U l ∧ Below w.heap.size w w' := h.mono fun e w' ⟨v, a, b, c⟩ => ⟨v, a, kB_own b, c⟩
end
end Go.Proofs.Ytcidfmmeonhkhaa.Row
/- Contracts of VerifySignature and MatchingKeys, the program's and the model's. No conditions but that lengths fit. -/
namespace Go.Proofs.Ytcidfmmeonhkhaa.Row.Ring
open Go.ChangeShapes Go.WideShapes Go.ChangeAt Go.RowKit Go.Instr
set_option linter.unusedVariables false
set_option maxRecDepth 100000

/-- The places of the keys that verify, up to place k. -/
def matTo (T : List (List ByteArray × Int)) (x : Dt) (k : Nat) : List Int := ((List.range k).filter (fun i => verD (nth T i).2 x)).map (fun i : Nat => (i : Int))
def matK (T : List (List ByteArray × Int)) (x : Dt) : List Int := matTo T x T.length
end Go.Proofs.Ytcidfmmeonhkhaa.Row.Ring
/- Contracts of the model's AddKey, and of SignWithKey, the model's and the program's. No conditions but that lengths fit. -/
namespace Go.Proofs.Ytcidfmmeonhkhaa.Row.Ring
open Go.ChangeShapes Go.WideShapes Go.ChangeAt Go.RowKit Go.Instr
set_option linter.unusedVariables false
set_option maxRecDepth 100000

/-! ### SignWithKey -/
end Go.Proofs.Ytcidfmmeonhkhaa.Row.Ring
namespace Go.Proofs.Ytcidfmmeonhkhaa.Row
open Go.ChangeShapes Go.WideShapes Go.ChangeAt Go.RowKit Go.Instr
set_option linter.unusedVariables false
set_option maxRecDepth 100000
theorem DOwn.mono {B B' : Nat} {w : World} {a b c : Value} {x : Dt} (h : DOwn B w a b c x) (hB : B' ≤ B) : DOwn B' w a b c x := ⟨h.1.mono hB, Sl.Own.mono h.2.1 hB, h.2.2.1.mono hB, h.2.2.2⟩
end Go.Proofs.Ytcidfmmeonhkhaa.Row
namespace Go.Proofs.Ytcidfmmeonhkhaa.Row.Ring
open Go.ChangeShapes Go.WideShapes Go.ChangeAt Go.RowKit Go.Instr
set_option linter.unusedVariables false
set_option maxRecDepth 100000
def zD : Dt := ([], [], [], 0, 0)
/-- What SignWithKey signs. -/
def sgX (T : List (List ByteArray × Int)) (key n : List ByteArray) (b : List Int) (u : Int) : Dt := sgD (lkN T key) (n, b, key, u, 0)
def sgOk (T : List (List ByteArray × Int)) (key n : List ByteArray) (b : List Int) (u : Int) : Bool := !(lkN T key == 0) && validD (sgX T key n b u)
def sgK (T : List (List ByteArray × Int)) (key n : List ByteArray) (b : List Int) (u : Int) : Dt := if sgOk T key n b u then sgX T key n b u else zD
/-- A signed packet: its cells in letters. -/
def GivesX (w : World) (ln : List ByteArray) (lb : List Int) (lk : List ByteArray) (u M : Int) (e : Ending) (w' : World) : Prop :=
  ∃ xa na ca xb nb cb xc nc cc, e = .returned (.agg #[.slice xa na ca, .slice xb nb cb, .slice xc nc cc, .int .i64 u, .int .i64 M]) ∧ DOwn w.heap.size w' (.slice xa na ca) (.slice xb nb cb) (.slice xc nc cc) (ln, lb, lk, u, M) ∧ Below w.heap.size w w'
end Go.Proofs.Ytcidfmmeonhkhaa.Row.Ring
/- Contracts of SignWithKey, the model's and the program's. No conditions but that lengths fit. -/
namespace Go.Proofs.Ytcidfmmeonhkhaa.Row.Ring
open Go.ChangeShapes Go.WideShapes Go.ChangeAt Go.RowKit Go.Instr
set_option linter.unusedVariables false
set_option maxRecDepth 100000

end Go.Proofs.Ytcidfmmeonhkhaa.Row.Ring
/- Lists of keys, and a key, in the words of the exact laws; chapter 9's functions, the model's and the program's, in these words. No conditions but that lengths fit. -/
namespace Go.Proofs.Ytcidfmmeonhkhaa.Row.Ring
open Go.ChangeShapes Go.WideShapes Go.ChangeAt Go.RowKit Go.Instr
set_option linter.unusedVariables false
set_option maxRecDepth 100000

abbrev Kt := List (List ByteArray × Int)
def kK.At (w : World) (V : Value) (T : Kt) : Prop := TabHolds w V T
def kK.In (B E : Nat) (w : World) (V : Value) (T : Kt) : Prop := TabIn B E w V T
section
variable {B E B' E' : Nat} {w w' : World} {V : Value} {T : Kt}
theorem kK.At.on (h : kK.At w V T) (hb : Below w.heap.size w w') : kK.At w' V T := TabHolds.on h hb
theorem kK.In.on (h : kK.In B E w V T) (hb : Below w.heap.size w w') : kK.In B E w' V T := TabIn.on h hb
theorem kK.In.at (h : kK.In B E w V T) : kK.At w V T := TabIn.holds h
theorem kK.In.wrote (h : kK.In B E w V T) (hw : Wrote B' E' w w') (hn : E ≤ B' ∨ E' ≤ B) : kK.In B E w' V T := TabIn.wrote h hw hn
theorem kK_shape (h : kK.In B E w V T) : ∃ x n c, V = .slice x n c ∧ kK.In B E w (.slice x n c) T := by
  obtain ⟨x, n, c, rfl, -, -, -⟩ := (TabIn.holds h).shapeN
  exact ⟨x, n, c, rfl, h⟩
theorem kK_shapeA (h : kK.At w V T) : ∃ x n c, V = .slice x n c ∧ kK.At w (.slice x n c) T := by
  obtain ⟨x, n, c, rfl, -, -, h⟩ := TabHolds.shapeN h
  exact ⟨x, n, c, rfl, h⟩
end
theorem adv_big {T : Kt} {n : Nat} (h : bulkT T ≤ n) : adv T ≤ n := Nat.le_trans (adv_bulk T) h
theorem lnT_adv {T : Kt} (h : adv T ≤ 9000000) : lnT T := fun t ht => by
  obtain ⟨j, hj, rfl⟩ := List.getElem_of_mem ht
  have h1 := adv_take hj
  have h2 := adv_take_le T (j + 1)
  rw [nth_eq hj] at h1
  omega
theorem szKK (V : Value) (T : Kt) (w : World) (left : Int) (h : kK.At w V T) (hl : T.length ≤ 9223372036854775807) (hs : ∀ t ∈ T, t.1.length ≤ 9223372036854775807 ∧ (∀ x ∈ t.1, x.size ≤ maxLen) ∧ (Lit.int .i64 t.2).wf = true) (h0 : 0 ≤ left) (h1 : left ≤ 1048576) :
    Calls Try.prog 13 #[V, .int .i64 left] w fun e w' => e = .returned (.int .i64 (szLT T left)) ∧ Below w.heap.size w w' :=
  szKeyS V T w left h hl (fun t ht => ⟨(hs t ht).1, (hs t ht).2.1⟩) h0 h1
theorem toKK (V : Value) (T : Kt) (w : World) (h : kK.At w V T) (hl : bulkT T ≤ 9000000) :
    Calls Try.prog 16 #[V] w fun e w' => ∃ U, e = .returned U ∧ kK.In w.heap.size w'.heap.size w' U T ∧ Below w.heap.size w w' :=
  (toKeyS V T w h (by have := bulkT_len T; omega) (fun t ht => by have := bulkT_mem ht; have := bulk_len t.1; omega)).mono fun e w' ⟨v, a, b, c⟩ => ⟨v, a, TabIn.of b |> fun h => (by
    obtain ⟨L, e, h, h1, h2⟩ := h
    exact ⟨L, e, h, h1, h2⟩), c⟩
theorem sameKK (V U : Value) (T : Kt) (w : World) (h : kK.At w V T) (g : kK.At w U T) (hl : adv T ≤ 9000000) :
    Calls Try.prog 20 #[V, U] w fun e w' => e = .returned (.bool true) ∧ Below w.heap.size w w' := by
  have hl2 : T.length ≤ 140737488351232 := by have := adv_len T; omega
  have := eqKeyS V U T T w h g hl2 hl2 (lnT_adv hl) (lnT_adv hl)
  rwa [eqT_self] at this
theorem markKK (B E : Nat) (V : Value) (T : Kt) (w : World) (k : Int) (h : kK.In B E w V T) (hl : adv T ≤ 100000000) (h0 : 0 ≤ k) (h1 : k ≤ 1000000000) :
    Calls Try.prog 22 #[V, .int .i64 k] w fun e w' => e = .returned (.int .i64 (k + (adv T : Int))) ∧ kK.In B E w' V (markTb k T) ∧ Wrote B E w w' := markKeyS B E V T w k h hl h0 (by omega)
/-! ### a key -/
abbrev K1 := List ByteArray × Int
def k1.At (w : World) (V : Value) (x : K1) : Prop := ∃ v, V = .agg #[v, .int .i64 x.2] ∧ Holds Value.string w v x.1
def k1.In (B E : Nat) (w : World) (V : Value) (x : K1) : Prop := ∃ v, V = .agg #[v, .int .i64 x.2] ∧ Own 9 Value.string B w v x.1 ∧ ∀ g, v.ownBlock = some g → g < E
section
variable {B E B' E' : Nat} {w w' : World} {V : Value} {x : K1}
theorem k1.At.on (h : k1.At w V x) (hb : Below w.heap.size w w') : k1.At w' V x := by
  obtain ⟨v, rfl, h⟩ := h
  exact ⟨v, rfl, h.on hb⟩
theorem k1.In.on (h : k1.In B E w V x) (hb : Below w.heap.size w w') : k1.In B E w' V x := by
  obtain ⟨v, rfl, h, h1⟩ := h
  exact ⟨v, rfl, h.on hb, h1⟩
theorem k1.In.at (h : k1.In B E w V x) : k1.At w V x := by
  obtain ⟨v, rfl, h, h1⟩ := h
  exact ⟨v, rfl, h.holds⟩
theorem k1.In.wrote (h : k1.In B E w V x) (hw : Wrote B' E' w w') (hn : E ≤ B' ∨ E' ≤ B) : k1.In B E w' V x := by
  obtain ⟨v, rfl, h, h1⟩ := h
  exact ⟨v, rfl, hw.row h (fun g hg => by have := (h.lt g hg).1; have := h1 g hg; omega), h1⟩
end
def WfK1 (x : K1) : Prop := (∀ y ∈ x.1, y.size ≤ maxLen) ∧ (Lit.int .i64 x.2).wf = true
def mk1 (k : Int) (x : K1) : K1 := (marks markT k x.1.length, x.2)
/-! ### the functions -/
theorem len_bulkT {T : Kt} (h : bulkT T ≤ 1200000) : T.length ≤ 3000000 := by have := bulkT_len T; omega
theorem sm_bulkT {T : Kt} (h : bulkT T ≤ 1200000) : smT T := smT_of (by omega)
theorem specValidKeysK (V : Value) (T : Kt) (w : World) (h : kK.At w V T) (hl : bulkT T ≤ 1200000) :
    Calls Try.prog 38 #[V] w fun e w' => e = .returned (.bool (validK T)) ∧ Below w.heap.size w w' := specValidKeys V T w h (Nat.le_trans (len_bulkT hl) (by decide)) (sm_bulkT hl)
theorem specSecretOfK (V U : Value) (T : Kt) (m : List ByteArray) (w : World) (h : kK.At w V T) (g : kN.At w U m) (hl : bulkT T ≤ 1200000) (hm : bulk m ≤ 1200000) :
    Calls Try.prog 54 #[V, U] w fun e w' => e = .returned (.int .i64 (lkN T m)) ∧ Below w.heap.size w w' := by
  obtain ⟨v, rfl, g9⟩ := kN_at g
  exact specSecretOf V v T m w h g9 (Nat.le_trans (len_bulkT hl) (by decide)) (sm_bulkT hl) (by omega)
theorem implValidKeysK (V : Value) (T : Kt) (w : World) (h : kK.At w V T) (hn : ∀ t ∈ T, t.1.length ≤ 9223372036854775807 ∧ (∀ x ∈ t.1, x.size ≤ maxLen) ∧ (Lit.int .i64 t.2).wf = true) (hl : bulkT T ≤ 1200000) :
    Calls Try.prog 45 #[V] w fun e w' => e = .returned (.bool (validK T)) ∧ Below w.heap.size w w' := implValidKeys V T w h (Nat.le_trans (len_bulkT hl) (by decide)) (sm_bulkT hl) (fun t ht => (hn t ht).2.2)
theorem implSecretOfK (V U : Value) (T : Kt) (m : List ByteArray) (w : World) (h : kK.At w V T) (g : kN.At w U m) (hl : bulkT T ≤ 1200000) (hm : bulk m ≤ 1200000) :
    Calls Try.prog 59 #[V, U] w fun e w' => e = .returned (.int .i64 (lkN T m)) ∧ Below w.heap.size w w' := by
  obtain ⟨v, rfl, g9⟩ := kN_at g
  exact implSecretOf V v T m w h g9 (Nat.le_trans (len_bulkT hl) (by decide)) (sm_bulkT hl) (by omega)
end Go.Proofs.Ytcidfmmeonhkhaa.Row.Ring
/- Lists of keys and data packets of kstruct.py's kinds, as chapters 8 and 9 read them. No conditions. -/
namespace Go.Proofs.Ytcidfmmeonhkhaa.Row
open Go.ChangeShapes Go.WideShapes Go.ChangeAt Go.RowKit Go.Instr
set_option linter.unusedVariables false
set_option maxRecDepth 100000

/-! ### what is read as a kind is read as the elder words say -/
theorem kD_ofK {w : World} {V : Value} {x : Dzt} (h : kDz.At w V x) : kD.At w V x := by
  obtain ⟨x0, n0, c0, x1, n1, c1, x2, n2, c2, rfl, g0, g1, g2⟩ := kDz_at h
  obtain ⟨v, e, h0⟩ := kN_at g0
  cases e
  obtain ⟨v, e, h1⟩ := kB_at g1
  cases e
  obtain ⟨v, e, h2⟩ := kN_at g2
  cases e
  exact kD_of (x := x) ⟨h0, h1, h2⟩
def entOf (m : Kym) : Ring.Ent := ⟨m.1.ad, m.1.n, m.1.cap, m.1.els, m.2⟩
theorem kK_ofK {w : World} {V : Value} {l : List Kyt} (h : kLKy.At w V l) : Ring.kK.At w V l := by
  obtain ⟨ad, n, cap, L, rfl, hn, rfl, hh, hel⟩ := kLKy_at h
  have hc : ∀ m : Kym, Ring.encE (entOf m) = kKy.cells m := fun m => rfl
  have hf : ∀ L : List Kym, flat Ring.encE (L.map entOf) = flat kKy.cells L := fun L => by
    unfold flat
    rw [List.flatMap_map]
    rfl
  refine ⟨L.map entOf, ?_, ?_, fun x hx => ?_⟩
  · unfold Ring.strip
    rw [List.map_map]
    refine List.map_congr_left fun m hm => ?_
    show (m.1.els, m.2) = (kN.strip m.1, m.2)
    rw [kN_strip]
  · obtain ⟨a, b, hv, hb, h9⟩ := hh
    refine ⟨a, b, by rw [List.length_map]; exact hv, by rw [List.length_map]; exact hb, ?_⟩
    rcases h9 with h9 | ⟨g, off, e, h9⟩
    · exact Or.inl (by rw [h9]; rfl)
    · exact Or.inr ⟨g, off, e, by rw [hf, List.length_map]; exact h9⟩
  · obtain ⟨m, hm, rfl⟩ := List.mem_map.1 hx
    have h1 := (hel m hm).1
    obtain ⟨v, e, h2⟩ := kN_at (Kd.at_of (k := kN) h1)
    rw [kN_strip] at h2
    have e2 : v = m.1.v := by
      have e3 : (Value.agg #[m.1.v]) = .agg #[v] := e
      injection e3 with e3
      exact (List.cons.inj (congrArg Array.toList e3)).1.symm
    rw [e2] at h2
    exact h2

end Go.Proofs.Ytcidfmmeonhkhaa.Row
/- The model's KeyDigest. No conditions but that lengths fit. -/
namespace Go.Proofs.Ytcidfmmeonhkhaa.Row
open Go.ChangeShapes Go.WideShapes Go.ChangeAt Go.RowKit Go.Instr
set_option linter.unusedVariables false
set_option maxRecDepth 100000

/-- What a key's certificate holds: nothing where there is no such key. -/
def digK (T : Ring.Kt) (m : List ByteArray) : List Int := if Ring.lkN T m = 0 then [] else Var.var (Seal.digest [Ring.lkN T m])
theorem digK_len (T : Ring.Kt) (m : List ByteArray) : (digK T m).length ≤ 6 := by
  unfold digK
  split
  · simp
  · exact Var.var_len _

set_option maxHeartbeats 4000000 in
theorem specKeyDigest (V U : Value) (T : Ring.Kt) (m : List ByteArray) (w : World) (z : List Int) (hz : digK T m = z) (h : Ring.kK.At w V T) (g : kN.At w U m) (hl : Ring.bulkT T ≤ 1200000) (hm : bulk m ≤ 1200000) :
    Calls Try.prog 15 #[V, U] w (Sl.GivesB w z) := by
  obtain ⟨x, n, c, rfl, h⟩ := Ring.kK_shapeA h
  obtain ⟨xn, nn, cn, rfl, g⟩ := kN_shapeA g
  have hal := (Below.refl w.heap.size w).alloc (Nat.le_refl _) (.cells #[.slice xn nn cn] 47)
  have HB := Lib.hid hal
  have HC := Lib.hid (Ret.Box.new w (.slice xn nn cn) 47)
  have HS := Lib.hid (Ring.specSecretOfK _ _ T m _ (h.on hal) (g.on hal) hl hm)
  have HZ := Lib.hid hz
  clear h g hal hz hl hm
  go_enter Try.func15, Try.ntmps15
  have c0 := HC.out.cell
  go_wp2_with fail
  refine HS.out.mono ?_
  rintro e w1 ⟨rfl, hb⟩
  replace HB := Lib.hid (HB.out.trans (hb.mono HB.out.size))
  clear hb c0 HS HC
  obtain ⟨s, hs⟩ : ∃ s, Ring.lkN T m = s := ⟨_, rfl⟩
  rw [hs]
  have HK := Lib.hid hs
  clear hs
  by_cases h0 : s = 0
  · subst h0
    have HE := Lib.hid (show z = [] by rw [← HZ.out]; unfold digK; rw [if_pos HK.out])
    have HO := Lib.hid (Sl.own_empty .u8 5 w1)
    go_wp2_with fail
    go_ret
    exact ⟨_, rfl, by rw [HE.out]; exact Sl.Own.mono HO.out HB.out.size, HB.out.alloc HB.out.size _⟩
  · have HE := Lib.hid (show z = [] ++ Var.var (Seal.digest [s]) by rw [← HZ.out]; unfold digK; rw [HK.out, if_neg h0]; rfl)
    have hb1 := (Below.refl w1.heap.size w1).alloc (Nat.le_refl _) (.cells #[] 5)
    have hb2 := (Below.refl (w1.alloc (.cells #[] 5)).heap.size (w1.alloc (.cells #[] 5))).alloc (Nat.le_refl _) (.cells #[.int .i64 s] 3)
    have HO := Lib.hid ((Sl.own_empty .u8 5 w1).holds.on hb2)
    have hi := Sl.holds_one .i64 3 (w1.alloc (.cells #[] 5)) s
    rw [World.size_alloc] at hi
    have HI := Lib.hid hi
    clear hi
    have HBB := Lib.hid ((HB.out.trans (hb1.mono HB.out.size)).trans (hb2.mono (Nat.le_trans HB.out.size hb1.size)))
    clear hb1 hb2
    go_wp2_with fail
    refine (Sl.specDigest _ [s] _ HI.out (by simp)).mono ?_
    rintro e w2 ⟨rfl, rfl⟩
    go_wp2_with fail
    refine (Sl.specAppendVarint _ [] _ _ HO.out (by decide)).mono ?_
    rintro e w3 ⟨v, rfl, ho, hb⟩
    have HV := Lib.hid (Sl.Own.mono ho HBB.out.size); have HB3 := Lib.hid (HBB.out.trans (hb.mono HBB.out.size))
    clear ho hb
    go_wp2_with fail
    go_ret
    exact ⟨_, rfl, by rw [HE.out]; exact HV.out, HB3.out⟩
end Go.Proofs.Ytcidfmmeonhkhaa.Row
/- Plain mathematics of names and their texts, no program in sight: a text is split at its slashes; joined again it is the text; a joined list of parts without slashes is split into the parts; runes and bytes. No conditions. -/
namespace Go.Proofs.Ytcidfmmeonhkhaa.Row
open Go.ChangeShapes Go.WideShapes Go.ChangeAt Go.RowKit Go.Instr
set_option linter.unusedVariables false
set_option maxRecDepth 100000

def bl (s : ByteArray) : List UInt8 := s.data.toList
def mk (l : List UInt8) : ByteArray := ⟨l.toArray⟩
theorem bl_length (s : ByteArray) : (bl s).length = s.size := by
  show s.data.toList.length = s.data.size
  exact Array.length_toList
theorem bl_get (s : ByteArray) (i : Nat) (h : i < s.size) : (bl s)[i]'(by rw [bl_length]; exact h) = s[i]'h := by
  simp [bl]; rfl
/-! ### splitting at slashes -/
def goS (cur : List UInt8) : List UInt8 → List (List UInt8)
  | [] => [cur]
  | c :: t => if c = 47 then cur :: goS [] t else goS (cur ++ [c]) t
/-! ### texts of names -/
def fmtL (l : List ByteArray) : List UInt8 := 47 :: Lib.join (l.map bl) [47]
def fmtS (l : List ByteArray) : ByteArray := mk (fmtL l)
def splitB (s : ByteArray) : List ByteArray := (goS [] (bl s)).map mk
def fullB (s : ByteArray) : Bool := decide (s.size ≠ 0)
def partsB (s : ByteArray) : List ByteArray := (splitB s).filter fullB
def pOk (s : ByteArray) : Bool := validN (partsB s) && decide (fmtS (partsB s) = s)
def pN (s : ByteArray) : List ByteArray := if pOk s = true then partsB s else []
/-! ### runs of bytes and runes -/
def seg (s : ByteArray) (f i : Nat) : List UInt8 := ((bl s).drop f).take (i - f)
def rest (s : ByteArray) (i : Nat) : List UInt8 := (bl s).drop i
theorem rest_cons (s : ByteArray) {i : Nat} (h : i < s.size) : rest s i = s[i]'h :: rest s (i + 1) := by
  unfold rest
  rw [List.drop_eq_getElem_cons (by rw [bl_length]; exact h), bl_get s i h]
theorem seg_succ (s : ByteArray) {f i : Nat} (hf : f ≤ i) (h : i < s.size) : seg s f (i + 1) = seg s f i ++ [s[i]'h] := by
  unfold seg
  have e : i + 1 - f = (i - f) + 1 := by omega
  rw [e, List.take_add_one, List.getElem?_drop, show f + (i - f) = i by omega, List.getElem?_eq_getElem (by rw [bl_length]; exact h), bl_get s i h]
  rfl
theorem goS_byte (s : ByteArray) {f i : Nat} (hf : f ≤ i) (h : i < s.size) (hc : s[i]'h ≠ 47) : goS (seg s f i) (rest s i) = goS (seg s f (i + 1)) (rest s (i + 1)) := by
  rw [rest_cons s h, goS, if_neg hc, seg_succ s hf h]
theorem goS_bytes (s : ByteArray) {f i : Nat} (hf : f ≤ i) : ∀ m, (hm : i + m ≤ s.size) → (∀ j (hj : j < m), s[i + j]'(by omega) ≠ 47) → goS (seg s f i) (rest s i) = goS (seg s f (i + m)) (rest s (i + m))
  | 0, _, _ => rfl
  | m + 1, hm, hc => by
    rw [goS_bytes s hf m (by omega) (fun j hj => hc j (by omega)), goS_byte s (by omega) (by omega) (hc m (by omega))]
    rfl

end Go.Proofs.Ytcidfmmeonhkhaa.Row
/- What a pattern's parts are: a variable (a question mark and a letter), the program's and the model's test of it; the texts * and **; which parts are right. No conditions but that lengths fit. -/
namespace Go.Proofs.Ytcidfmmeonhkhaa.Row
open Go.ChangeShapes Go.WideShapes Go.ChangeAt Go.RowKit Go.Instr
set_option linter.unusedVariables false
set_option maxRecDepth 100000

def letterP (s : ByteArray) : Bool := decide (∃ h : s.size = 2, (s[0]'(by omega)).toNat = 63 ∧ 97 ≤ (s[1]'(by omega)).toNat ∧ (s[1]'(by omega)).toNat ≤ 122)
theorem letterP_size {s : ByteArray} (h : ¬ s.size = 2) : letterP s = false := decide_eq_false fun ⟨e, _⟩ => h e
theorem letterP_0 {s : ByteArray} (h : s.size = 2) (h0 : ¬ (s[0]'(by omega)).toNat = 63) : letterP s = false := decide_eq_false fun ⟨e, h1, _⟩ => h0 h1
theorem letterP_1 {s : ByteArray} (h : s.size = 2) (h0 : ¬ (97 ≤ (s[1]'(by omega)).toNat ∧ (s[1]'(by omega)).toNat ≤ 122)) : letterP s = false := decide_eq_false fun ⟨e, _, h1⟩ => h0 h1
theorem letterP_yes {s : ByteArray} (h : s.size = 2) (h0 : (s[0]'(by omega)).toNat = 63) (h1 : 97 ≤ (s[1]'(by omega)).toNat ∧ (s[1]'(by omega)).toNat ≤ 122) : letterP s = true := decide_eq_true ⟨h, h0, h1⟩
theorem letterP_iff {s : ByteArray} : letterP s = true ↔ ∃ h : s.size = 2, (s[0]'(by omega)).toNat = 63 ∧ 97 ≤ (s[1]'(by omega)).toNat ∧ (s[1]'(by omega)).toNat ≤ 122 := by unfold letterP; exact decide_eq_true_iff

set_option maxHeartbeats 1000000 in
theorem isVariable (s : ByteArray) (w : World) (hl : s.size ≤ 140737488351232) :
    Calls Try.prog 135 #[.string s] w fun e w' => e = .returned (.bool (letterP s)) ∧ w = w' := by
  by_cases h2 : s.size = 2
  · have hb0 := (s[0]'(by omega)).toNat_lt
    have hb1 := (s[1]'(by omega)).toNat_lt
    by_cases h0 : (s[0]'(by omega)).toNat = 63
    · by_cases ha : 97 ≤ (s[1]'(by omega)).toNat
      · by_cases hz : (s[1]'(by omega)).toNat ≤ 122
        · have HV := Lib.hid (letterP_yes h2 h0 ⟨ha, hz⟩)
          have t0 : (((s[0]'(by omega)).toNat : Int) == 63) = true := by simp [h0]
          clear h0
          go_enter Try.func135, Try.ntmps135
          go_wp2
          go_ret
          refine ⟨ret_bool ?_, rfl⟩
          rw [HV.out]; exact decide_eq_true (by omega)
        · have HV := Lib.hid (letterP_1 h2 (fun e => hz e.2))
          have t0 : (((s[0]'(by omega)).toNat : Int) == 63) = true := by simp [h0]
          clear h0
          go_enter Try.func135, Try.ntmps135
          go_wp2
          go_ret
          refine ⟨ret_bool ?_, rfl⟩
          rw [HV.out]; exact decide_eq_false (by omega)
      · have HV := Lib.hid (letterP_1 h2 (fun e => ha e.1))
        have t0 : (((s[0]'(by omega)).toNat : Int) == 63) = true := by simp [h0]
        clear h0
        go_enter Try.func135, Try.ntmps135
        go_wp2
        go_ret
        exact ⟨ret_bool HV.out.symm, rfl⟩
    · have HV := Lib.hid (letterP_0 h2 h0)
      have t0 : (((s[0]'(by omega)).toNat : Int) == 63) = false := by simp; omega
      clear h0
      go_enter Try.func135, Try.ntmps135
      go_wp2
      go_ret
      exact ⟨ret_bool HV.out.symm, rfl⟩
  · have HV := Lib.hid (letterP_size h2)
    have t0 : (((s.size : Nat) : Int) == 2) = false := by simp; omega
    clear h2
    go_enter Try.func135, Try.ntmps135
    go_wp2
    go_ret
    exact ⟨ret_bool HV.out.symm, rfl⟩

set_option maxHeartbeats 1000000 in
theorem l5Letter (s : ByteArray) (w : World) (hl : s.size ≤ 140737488351232) :
    Calls Try.prog 115 #[.string s] w fun e w' => e = .returned (.bool (letterP s)) ∧ w = w' := by
  by_cases h2 : s.size = 2
  · have hb0 := (s[0]'(by omega)).toNat_lt
    have hb1 := (s[1]'(by omega)).toNat_lt
    by_cases h0 : (s[0]'(by omega)).toNat = 63
    · have t0 : (((s[0]'(by omega)).toNat : Int) == 63) = true := by simp [h0]
      by_cases ha : 97 ≤ (s[1]'(by omega)).toNat ∧ (s[1]'(by omega)).toNat ≤ 122
      · have HV := Lib.hid (letterP_yes h2 h0 ha)
        have ha1 : (97 : Int) ≤ ((s[1]'(by omega)).toNat : Int) := by omega
        have ha2 : ((s[1]'(by omega)).toNat : Int) ≤ 122 := by omega
        clear h0 ha
        go_enter Try.func115, Try.ntmps115
        go_wp2_with fail
        refine (Num.specIn_true ha1 ha2 _).mono ?_
        rintro e w2 ⟨rfl, rfl⟩
        go_wp2
        go_ret
        exact ⟨ret_bool HV.out.symm, rfl⟩
      · have HV := Lib.hid (letterP_1 h2 ha)
        have hn : ¬ ((97 : Int) ≤ ((s[1]'(by omega)).toNat : Int) ∧ ((s[1]'(by omega)).toNat : Int) ≤ 122) := by omega
        have HNN := Lib.hid hn
        clear h0 ha hn
        go_enter Try.func115, Try.ntmps115
        go_wp2_with fail
        refine (Num.specIn_false HNN.out _).mono ?_
        rintro e w2 ⟨rfl, rfl⟩
        go_wp2
        go_ret
        exact ⟨ret_bool HV.out.symm, rfl⟩
    · have HV := Lib.hid (letterP_0 h2 h0)
      have t0 : (((s[0]'(by omega)).toNat : Int) == 63) = false := by simp; omega
      clear h0
      go_enter Try.func115, Try.ntmps115
      go_wp2
      go_ret
      exact ⟨ret_bool HV.out.symm, rfl⟩
  · have HV := Lib.hid (letterP_size h2)
    have t0 : (((s.size : Nat) : Int) == 2) = false := by simp; omega
    clear h2
    go_enter Try.func115, Try.ntmps115
    go_wp2
    go_ret
    exact ⟨ret_bool HV.out.symm, rfl⟩

end Go.Proofs.Ytcidfmmeonhkhaa.Row
/- ValidPattern, the program's and the model's, and what the program makes of a pattern's parts (interface values). No conditions but that lengths fit. -/
namespace Go.Proofs.Ytcidfmmeonhkhaa.Row
open Go.ChangeShapes Go.WideShapes Go.ChangeAt Go.RowKit Go.Instr
set_option linter.unusedVariables false
set_option maxRecDepth 100000

def starB : ByteArray := { data := #[42] }
def star2B : ByteArray := { data := #[42, 42] }
theorem star_tl (s : ByteArray) : (s.toList == [42]) = decide (s = starB) := by
  by_cases h : s = starB
  · rw [decide_eq_true h, h]
    have : starB.toList = [42] := ByteArray.toList_mk [42]
    simp [this]
  · rw [decide_eq_false h]
    have : s.toList ≠ [42] := fun e => h (toList_inj (by rw [e]; exact (ByteArray.toList_mk [42]).symm))
    simpa using this
theorem star2_tl (s : ByteArray) : (s.toList == [42, 42]) = decide (s = star2B) := by
  by_cases h : s = star2B
  · rw [decide_eq_true h, h]
    have : star2B.toList = [42, 42] := ByteArray.toList_mk [42, 42]
    simp [this]
  · rw [decide_eq_false h]
    have : s.toList ≠ [42, 42] := fun e => h (toList_inj (by rw [e]; exact (ByteArray.toList_mk [42, 42]).symm))
    simpa using this
theorem star_yes {s : ByteArray} (h : s = starB) : (s.toList == [42]) = true := by rw [star_tl]; exact decide_eq_true h
theorem star_no {s : ByteArray} (h : ¬ s = starB) : (s.toList == [42]) = false := by rw [star_tl]; exact decide_eq_false h
theorem star2_yes {s : ByteArray} (h : s = star2B) : (s.toList == [42, 42]) = true := by rw [star2_tl]; exact decide_eq_true h
theorem star2_no {s : ByteArray} (h : ¬ s = star2B) : (s.toList == [42, 42]) = false := by rw [star2_tl]; exact decide_eq_false h
theorem star_size : starB.size = 1 := rfl
theorem star2_size : star2B.size = 2 := rfl
theorem star_validP : validP starB = false := validP_byte (k := 0) (by decide) (by rw [show (starB[0]'(by decide)).toNat = 42 from rfl]; unfold okR; omega)
theorem star2_validP : validP star2B = false := validP_byte (k := 0) (by decide) (by rw [show (star2B[0]'(by decide)).toNat = 42 from rfl]; unfold okR; omega)
theorem star_letterP : letterP starB = false := letterP_size (by decide)
theorem star2_letterP : letterP star2B = false := letterP_0 rfl (by rw [show (star2B[0]'(by decide)).toNat = 42 from rfl]; omega)
theorem star_ne : starB ≠ star2B := fun h => by have := congrArg ByteArray.size h; simp [star_size, star2_size] at this
theorem letter_validP {s : ByteArray} (h : letterP s = true) : validP s = false := by
  obtain ⟨h2, h0, _⟩ := letterP_iff.1 h
  exact validP_byte (k := 0) (by omega) (by rw [h0]; unfold okR; omega)
theorem letter_ne {s : ByteArray} (h : letterP s = true) : s ≠ starB ∧ s ≠ star2B := ⟨fun e => (by rw [e, star_letterP] at h; cases h), fun e => (by rw [e, star2_letterP] at h; cases h)⟩

/-- Whether a text is a part of a pattern; whether it is the last one. -/
def elemP (s : ByteArray) (last : Bool) : Bool := validP s || decide (s = starB) || letterP s || (decide (s = star2B) && last)
def validPat (l : List ByteArray) : Bool := decide (l.length ≤ 6 ∧ ∀ j, j < l.length → elemP (nth l j) (decide (j + 1 = l.length)) = true)
def allE (l : List ByteArray) (k : Nat) : Prop := ∀ j, j < k → elemP (nth l j) (decide (j + 1 = l.length)) = true
theorem allE_zero (l : List ByteArray) : allE l 0 := fun j h => absurd h (by omega)
theorem allE_succ {l : List ByteArray} {k : Nat} (h : allE l k) (hc : elemP (nth l k) (decide (k + 1 = l.length)) = true) : allE l (k + 1) := fun j h1 => by
  by_cases e : j = k
  · subst e; exact hc
  · exact h j (by omega)
theorem validPat_not {l : List ByteArray} {k : Nat} (hk : k < l.length) (hc : elemP (nth l k) (decide (k + 1 = l.length)) = false) : validPat l = false := by
  refine decide_eq_false (fun e => ?_)
  have := e.2 k hk
  rw [hc] at this; cases this
theorem validPat_all {l : List ByteArray} (h : allE l l.length) : validPat l = decide (l.length ≤ 6) := by
  unfold validPat
  congr 1
  exact propext ⟨fun e => e.1, fun e => ⟨e, h⟩⟩
theorem validPat_long {l : List ByteArray} (h : ¬ l.length ≤ 6) : validPat l = false := decide_eq_false (fun e => h e.1)
theorem elemP_iff {s : ByteArray} {b : Bool} : elemP s b = true ↔ validP s = true ∨ s = starB ∨ letterP s = true ∨ (s = star2B ∧ b = true) := by simp [elemP, or_assoc]
theorem elemP_no {s : ByteArray} {b : Bool} (h1 : validP s = false) (h2 : ¬ s = starB) (h3 : letterP s = false) (h4 : ¬ (s = star2B ∧ b = true)) : elemP s b = false := by
  cases h : elemP s b with
  | false => rfl
  | true =>
    rcases elemP_iff.1 h with h | h | h | h
    · rw [h1] at h; cases h
    · exact absurd h h2
    · rw [h3] at h; cases h
    · exact absurd h h4

/-- The value that the program makes of a part. -/
def encPt (s : ByteArray) : Value :=
  if validP s = true then .iface 165 (.agg #[.string s]) else if s = starB then .iface 167 (.agg #[]) else if letterP s = true then .iface 169 (.agg #[.string s]) else .iface 170 (.agg #[])
theorem encPt_lit {s : ByteArray} (h : validP s = true) : encPt s = .iface 165 (.agg #[.string s]) := if_pos h
theorem encPt_any {s : ByteArray} (h : s = starB) : encPt s = .iface 167 (.agg #[]) := by
  unfold encPt
  rw [if_neg (by rw [h, star_validP]; simp), if_pos h]
theorem encPt_var {s : ByteArray} (h : letterP s = true) : encPt s = .iface 169 (.agg #[.string s]) := by
  unfold encPt
  rw [if_neg (by rw [letter_validP h]; simp), if_neg (letter_ne h).1, if_pos h]
theorem encPt_rest {s : ByteArray} (h : s = star2B) : encPt s = .iface 170 (.agg #[]) := by
  unfold encPt
  rw [if_neg (by rw [h, star2_validP]; simp), if_neg (by rw [h]; exact fun e => star_ne e.symm), if_neg (by rw [h, star2_letterP]; simp)]
theorem onePt (s : ByteArray) : (encPt s).oneCell' = true := by
  unfold encPt
  repeat' split
  all_goals rfl
theorem encPt_form (s : ByteArray) : ∃ t v, encPt s = .iface t v := by
  unfold encPt
  repeat' split
  all_goals exact ⟨_, _, rfl⟩
theorem holds_one' {α : Type} [Inhabited α] (enc : α → Value) (e : TypeId) (w : World) (x : α) {u : Value} (h : enc x = u) : Holds enc (w.alloc (.cells #[u] e)) (.slice (some ⟨w.heap.size, 0, none⟩) 1 1) [x] := by subst h; exact holds_one enc e w x
theorem elemPT : Elem Try.prog 157 .nilIface 16 := by unfold Elem; kernel_rfl

set_option maxHeartbeats 1000000 in
theorem readPart (s : ByteArray) (b : Bool) (w : World) (hl : s.size ≤ 140737488351232) :
    Calls Try.prog 145 #[.string s, .bool b] w fun e w' => e = .returned (.tuple #[if elemP s b = true then encPt s else .nilIface, .bool (elemP s b)]) ∧ Below w.heap.size w w' := by
  by_cases hv : validP s = true
  · have he : elemP s b = true := elemP_iff.2 (Or.inl hv)
    rw [he, if_pos rfl, encPt_lit hv]
    have HV := Lib.hid hv
    clear hv he
    go_enter Try.func145, Try.ntmps145
    go_wp2_with fail
    refine (implValidPart _ _ hl).mono ?_
    rintro e w1 ⟨rfl, hb⟩
    rw [HV.out]
    go_wp2
    go_ret2
    exact ⟨rfl, hb⟩
  · have hv : validP s = false := by simpa using hv
    have HV := Lib.hid hv
    by_cases hs : s = starB
    · have he : elemP s b = true := elemP_iff.2 (Or.inr (Or.inl hs))
      rw [he, if_pos rfl, encPt_any hs]
      have HQ := Lib.hid (star_yes hs)
      clear hv he hs
      go_enter Try.func145, Try.ntmps145
      go_wp2_with fail
      refine (implValidPart _ _ hl).mono ?_
      rintro e w1 ⟨rfl, hb⟩
      rw [HV.out]
      have hq := HQ.out
      go_wp2
      go_ret2
      exact ⟨rfl, hb⟩
    · by_cases hx : letterP s = true
      · have he : elemP s b = true := elemP_iff.2 (Or.inr (Or.inr (Or.inl hx)))
        rw [he, if_pos rfl, encPt_var hx]
        have HQ := Lib.hid (star_no hs)
        have HX := Lib.hid hx
        clear hv he hs hx
        go_enter Try.func145, Try.ntmps145
        go_wp2_with fail
        refine (implValidPart _ _ hl).mono ?_
        rintro e w1 ⟨rfl, hb⟩
        rw [HV.out]
        have hq := HQ.out
        go_wp2_with fail
        refine (isVariable _ _ hl).mono ?_
        rintro e w2 ⟨rfl, rfl⟩
        rw [HX.out]
        go_wp2
        go_ret2
        exact ⟨rfl, hb⟩
      · have hx : letterP s = false := by simpa using hx
        by_cases h2 : s = star2B ∧ b = true
        · have he : elemP s b = true := elemP_iff.2 (Or.inr (Or.inr (Or.inr h2)))
          rw [he, if_pos rfl, encPt_rest h2.1]
          have HQ := Lib.hid (star_no hs)
          have HX := Lib.hid hx
          have HQ2 := Lib.hid (star2_yes h2.1)
          obtain ⟨-, rfl⟩ := h2
          clear hv he hs hx
          go_enter Try.func145, Try.ntmps145
          go_wp2_with fail
          refine (implValidPart _ _ hl).mono ?_
          rintro e w1 ⟨rfl, hb⟩
          rw [HV.out]
          have hq := HQ.out
          go_wp2_with fail
          refine (isVariable _ _ hl).mono ?_
          rintro e w2 ⟨rfl, rfl⟩
          rw [HX.out]
          have hq2 := HQ2.out
          go_wp2
          go_ret2
          exact ⟨rfl, hb⟩
        · have he : elemP s b = false := elemP_no hv hs hx h2
          rw [he, if_neg (by simp)]
          have HQ := Lib.hid (star_no hs)
          have HX := Lib.hid hx
          have HQ2 := Lib.hid (show ((s.toList == [42, 42]) && b) = false by
            cases b with
            | false => simp
            | true => rw [star2_no (fun e => h2 ⟨e, rfl⟩)]; rfl)
          clear hv he hs hx
          go_enter Try.func145, Try.ntmps145
          go_wp2_with fail
          refine (implValidPart _ _ hl).mono ?_
          rintro e w1 ⟨rfl, hb⟩
          rw [HV.out]
          have hq := HQ.out
          go_wp2_with fail
          refine (isVariable _ _ hl).mono ?_
          rintro e w2 ⟨rfl, rfl⟩
          rw [HX.out]
          cases hc : (s.toList == [42, 42]) with
          | false =>
            go_wp2
            go_ret2
            exact ⟨rfl, hb⟩
          | true =>
            have hq2 := HQ2.out
            rw [hc] at hq2
            have hbf : b = false := by simpa using hq2
            subst hbf
            clear hq2
            go_wp2
            go_ret2
            exact ⟨rfl, hb⟩


theorem ret_two {v : Value} {a b : Bool} (h : a = b) : Ending.returned (.tuple #[v, .bool a]) = .returned (.tuple #[v, .bool b]) := by rw [h]
theorem last_is {k n : Nat} {l : List ByteArray} (h : n = l.length) : (((k : Nat) : Int) == ((n : Nat) : Int) - 1) = decide (k + 1 = l.length) := by
  by_cases e : k + 1 = l.length
  · rw [decide_eq_true e]; simp; omega
  · rw [decide_eq_false e]; simp; omega
def ifP (c : Bool) (l : List ByteArray) : List ByteArray := if c = true then l else []
set_option maxHeartbeats 2000000 in
theorem readParts (v : Value) (l : List ByteArray) (w : World) (h : Holds Value.string w v l) (hs : bulk l ≤ 100000000) :
    Calls Try.prog 132 #[.agg #[v]] w fun e w' => ∃ v', e = .returned (.tuple #[v', .bool (validPat l)]) ∧ Own 157 encPt w.heap.size w' v' (ifP (validPat l) l) ∧ Below w.heap.size w w' := by
  obtain ⟨x, n, cap, rfl, hn, hcap, hh⟩ := h.shapeN
  have hll := bigLen hs
  have HS := Lib.hid (fun k (hk : k < l.length) => size_nth hs hk)
  rw [← hn] at hll
  have HN := Lib.hid hn
  have HH := Lib.hid hh
  have HB0 := Lib.hid ((Below.refl w.heap.size w).alloc (Nat.le_refl _) (.cells #[.slice x n cap] 109))
  have HC0 := Lib.hid (Ret.Box.new w (.slice x n cap) 109)
  by_cases h6 : n ≤ 6
  · clear hn h hh hs
    obtain ⟨i0, hi, hz0, hz1, hz2⟩ := info_parts elemPT
    have HI := Lib.hid hi; have HZ0 := Lib.hid hz0; have HZ1 := Lib.hid hz1; have HZ2 := Lib.hid hz2
    clear hi hz0 hz1 hz2
    go_enter Try.func132, Try.ntmps132
    go_wp2_with (at_make; refine wpList_make_own _ rfl _ _ 145 rfl (w.heap.size + 1) 157 i0 .nilIface 1 Try.underlying145 HI.out HZ0.out HZ1.out _ _ _ n rfl rfl rfl (by rw [HZ2.out]; omega) (by unfold maxLen; omega) (by simp) ?_)
    intro w1 hown hgrow
    have HO := Lib.hid (show Own 157 encPt (w.heap.size + 1) w1 (.slice (some ⟨w.heap.size + 1, 0, none⟩) 0 n) [] from hown)
    have HC1 := Lib.hid (HC0.out.grown hgrow (by simp))
    have HB1 := Lib.hid (HB0.out.grown hgrow (by simp) (fun g hg => by cases hg))
    clear hown hgrow
    have hc1 := HC1.out.cell
    go_wp2_with fail
    clear hc1
    go_loopw [4, 20] (fun pv i wr => ∃ k : Nat, k ≤ n ∧ i = .int .i64 k ∧ Hid (Own 157 encPt (w.heap.size + 1) wr pv (l.take k)) ∧ Hid (allE l k) ∧ Hid (Ret.Box wr w.heap.size (.slice x n cap) 109) ∧ Hid (Below w.heap.size w wr)) (fun _ i _ => n - (intOf i).toNat)
    case atStart => exact ⟨0, Nat.zero_le _, rfl, HO, Lib.hid (allE_zero l), HC1, HB1⟩
    case round =>
      obtain ⟨k, hk, rfl, ho, ha, hc, hb⟩ := hrel
      by_cases hlt : k < n
      · have hlen := HN.out
        obtain ⟨b, off, rfl, hd⟩ := (HH.out.on hb.out).at (j := k) (by omega)
        have hsz := HS.out k (by omega)
        have hc1 := hc.out.cell
        clear hlen
        go_wp2_with fail
        rw [show (((k : Nat) : Int) == ((n : Nat) : Int) - 1) = decide (k + 1 = l.length) from last_is HN.out]
        refine (readPart _ _ _ (by omega)).mono ?_
        rintro e w2 ⟨rfl, hb2⟩
        have HB2 := Lib.hid (hb.out.trans (hb2.mono hb.out.size))
        have HC2 := Lib.hid (hc.out.on hb2)
        have HO2 := Lib.hid (ho.out.on hb2)
        clear hb2 hd hc1 hsz
        cases he : elemP (nth l k) (decide (k + 1 = l.length)) with
        | false =>
          have HV := Lib.hid (validPat_not (by have := HN.out; omega) he)
          rw [if_neg (by simp)]
          clear he
          go_wp2
          go_ret2
          exact ⟨_, ret_two HV.out.symm, by rw [HV.out]; exact Own.nil _ _ _ _, HB2.out⟩
        | true =>
          have HA2 := Lib.hid (allE_succ ha.out he)
          obtain ⟨t5, v5, h5⟩ := encPt_form (nth l k)
          rw [if_pos rfl, h5]
          have H5 := Lib.hid h5
          clear he h5
          have hlen : (l.take k).length = k := by rw [List.length_take]; have := HN.out; omega
          have HL := Lib.hid hlen
          have HX := Lib.hid (show l.take k ++ [nth l k] = l.take (k + 1) by rw [nth_eq (by have := HN.out; omega)]; exact (List.take_succ_eq_append_getElem (by have := HN.out; omega)).symm)
          have HO3 := Lib.hid (HO2.out.on ((Below.refl _ _).alloc (Nat.le_refl _) (.cells #[.iface t5 v5] 157)))
          have HC3 := Lib.hid (HC2.out.on ((Below.refl _ _).alloc (Nat.le_refl _) (.cells #[.iface t5 v5] 157)))
          have HB3 := Lib.hid (HB2.out.alloc HB2.out.size (.cells #[.iface t5 v5] 157))
          have HSZ := Lib.hid (HC2.out.lt)
          clear hlen
          go_wp2_with (at_builtin; refine wpList_app (enc := encPt) (B := w.heap.size + 1) (l := l.take k) (m := [nth l k]) rfl _ _ rfl Try.underlying145 elemPT rfl rfl rfl HO3.out (holds_one' encPt 157 _ _ H5.out) onePt (by rw [HL.out]; simp; omega) (by rw [HL.out]; unfold maxLen; simp; omega) (by have := HSZ.out; simp; omega) ?_)
          intro v2 w3 ho3 hg3
          have HO4 := Lib.hid (HX.out ▸ ho3)
          have HC4 := Lib.hid (HC3.out.grown hg3 (fun e => by have := (HO3.out.lt _ e.symm).1; omega))
          have HB4 := Lib.hid (HB3.out.grown hg3 (by have := HSZ.out; simp; omega) (fun g hh => by have := (HO3.out.lt g hh).1; omega))
          clear ho3 hg3
          go_wp2_with fail
          go_roundw
          case rel => exact ⟨k + 1, by omega, by go_num, HO4, HA2, HC4, HB4⟩
          case measure => simp [intOf]; omega
      · obtain rfl : k = n := by omega
        have HV := Lib.hid (show validPat l = true by rw [validPat_all (HN.out ▸ ha.out)]; exact decide_eq_true (by have := HN.out; omega))
        clear hlt
        go_wp2
        go_ret2
        refine ⟨_, ret_two HV.out.symm, ?_, hb.out⟩
        rw [HV.out]
        have := ho.out.mono (Nat.le_succ _)
        rw [HN.out, List.take_length] at this
        exact this
  · have HV := Lib.hid (validPat_long (l := l) (by omega))
    have h7 : (6 : Int) < (n : Int) := by omega
    rw [HV.out]
    clear hn h hh hs h6
    go_enter Try.func132, Try.ntmps132
    go_wp2
    go_ret2
    exact ⟨_, rfl, Own.nil _ _ _ _, HB0.out⟩
end Go.Proofs.Ytcidfmmeonhkhaa.Row
/- Contracts of ValidPattern, the program's and the model's. No conditions but that lengths fit. -/
namespace Go.Proofs.Ytcidfmmeonhkhaa.Row
open Go.ChangeShapes Go.WideShapes Go.ChangeAt Go.RowKit Go.Instr
set_option linter.unusedVariables false
set_option maxRecDepth 100000

set_option maxHeartbeats 1000000 in
theorem implValidPattern (v : Value) (l : List ByteArray) (w : World) (h : Holds Value.string w v l) (hl : bulk l ≤ 100000000) :
    Calls Try.prog 121 #[.agg #[v]] w fun e w' => e = .returned (.bool (validPat l)) ∧ Below w.heap.size w w' := by
  obtain ⟨x, n, cap, rfl, hn, hcap, hh⟩ := h.shapeN
  have HL := Lib.hid hl
  have HH := Lib.hid (hh.on ((Below.refl w.heap.size w).alloc (Nat.le_refl _) (.cells #[.slice x n cap] 109)))
  have HB0 := Lib.hid ((Below.refl w.heap.size w).alloc (Nat.le_refl _) (.cells #[.slice x n cap] 109))
  clear hn h hh hl
  go_enter Try.func121, Try.ntmps121
  go_wp2_with fail
  refine (readParts _ l _ HH.out HL.out).mono ?_
  rintro e w1 ⟨v1, rfl, ho, hb⟩
  have HB1 := Lib.hid (HB0.out.trans (hb.mono HB0.out.size))
  clear ho hb
  go_wp2
  go_ret
  exact ⟨rfl, HB1.out⟩

set_option maxHeartbeats 2000000 in
theorem specValidPattern (v : Value) (l : List ByteArray) (w : World) (h : Holds Value.string w v l) (hl : bulk l ≤ 100000000) :
    Calls Try.prog 114 #[.agg #[v]] w fun e w' => e = .returned (.bool (validPat l)) ∧ Below w.heap.size w w' := by
  obtain ⟨x, n, cap, rfl, hn, hcap, hh⟩ := h.shapeN
  have hll := bigLen hl
  have HS := Lib.hid (fun k (hk : k < l.length) => size_nth hl hk)
  rw [← hn] at hll
  have HN := Lib.hid hn
  have HH := Lib.hid hh
  have HB0 := Lib.hid ((Below.refl w.heap.size w).alloc (Nat.le_refl _) (.cells #[.slice x n cap] 109))
  have HC0 := Lib.hid (Ret.Box.new w (.slice x n cap) 109)
  clear hn h hh hl
  go_enter Try.func114, Try.ntmps114
  go_wp2_with fail
  go_loopw [3] (fun i wr => ∃ k : Nat, k ≤ n ∧ i = .int .i64 k ∧ Hid (allE l k) ∧ Hid (Ret.Box wr w.heap.size (.slice x n cap) 109) ∧ Hid (Below w.heap.size w wr)) (fun i _ => n - (intOf i).toNat)
  case atStart => exact ⟨0, Nat.zero_le _, rfl, Lib.hid (allE_zero l), HC0, HB0⟩
  case round =>
    obtain ⟨k, hk, rfl, ha, hc, hb⟩ := hrel
    have hc1 := hc.out.cell
    by_cases hlt : k < n
    · have hlen := HN.out
      obtain ⟨b, off, rfl, hd⟩ := (HH.out.on hb.out).at (j := k) (by omega)
      have hsz := HS.out k (by omega)
      clear hlen
      have HE := Lib.hid (fun (he : elemP (nth l k) (decide (k + 1 = l.length)) = true) => allE_succ ha.out he)
      by_cases hv : validP (nth l k) = true
      · have HA := Lib.hid (HE.out (elemP_iff.2 (Or.inl hv)))
        have HV := Lib.hid hv
        clear HE hv
        go_wp2_with fail
        refine (specValidPart _ _ (by omega)).mono ?_
        rintro e w2 ⟨rfl, rfl⟩
        rw [HV.out]
        go_wp2_with fail
        go_roundw
        case rel => exact ⟨k + 1, by omega, by go_num, HA, hc, hb⟩
        case measure => simp [intOf]; omega
      · have hv : validP (nth l k) = false := by simpa using hv
        have HV := Lib.hid hv
        by_cases hs : nth l k = starB
        · have HA := Lib.hid (HE.out (elemP_iff.2 (Or.inr (Or.inl hs))))
          have HQ := Lib.hid (show ((nth l k).toList == [42]) = true from star_yes hs)
          clear HE hv hs
          go_wp2_with fail
          refine (specValidPart _ _ (by omega)).mono ?_
          rintro e w2 ⟨rfl, rfl⟩
          rw [HV.out]
          have hq := HQ.out
          go_wp2_with fail
          go_roundw
          case rel => exact ⟨k + 1, by omega, by go_num, HA, hc, hb⟩
          case measure => simp [intOf]; omega
        · have HQ := Lib.hid (show ((nth l k).toList == [42]) = false from star_no hs)
          by_cases hx : letterP (nth l k) = true
          · have HA := Lib.hid (HE.out (elemP_iff.2 (Or.inr (Or.inr (Or.inl hx)))))
            have HX := Lib.hid hx
            clear HE hv hs hx
            go_wp2_with fail
            refine (specValidPart _ _ (by omega)).mono ?_
            rintro e w2 ⟨rfl, rfl⟩
            rw [HV.out]
            have hq := HQ.out
            go_wp2_with fail
            refine (l5Letter _ _ (by omega)).mono ?_
            rintro e w2 ⟨rfl, rfl⟩
            rw [HX.out]
            go_wp2_with fail
            go_roundw
            case rel => exact ⟨k + 1, by omega, by go_num, HA, hc, hb⟩
            case measure => simp [intOf]; omega
          · have hx : letterP (nth l k) = false := by simpa using hx
            have HX := Lib.hid hx
            by_cases h2 : nth l k = star2B
            · have HQ2 := Lib.hid (star2_yes h2)
              by_cases hlast : k + 1 = n
              · have HA := Lib.hid (HE.out (elemP_iff.2 (Or.inr (Or.inr (Or.inr ⟨h2, decide_eq_true (by have := HN.out; omega)⟩)))))
                have hl1 : ¬ ((k : Int) < (n : Int) - 1) := by omega
                clear HE hv hs hx h2
                go_wp2_with fail
                refine (specValidPart _ _ (by omega)).mono ?_
                rintro e w2 ⟨rfl, rfl⟩
                rw [HV.out]
                have hq := HQ.out
                go_wp2_with fail
                refine (l5Letter _ _ (by omega)).mono ?_
                rintro e w2 ⟨rfl, rfl⟩
                rw [HX.out]
                have hq2 := HQ2.out
                go_wp2_with fail
                go_roundw
                case rel => exact ⟨k + 1, by omega, by go_num, HA, hc, hb⟩
                case measure => simp [intOf]; omega
              · have HN2 := Lib.hid (validPat_not (l := l) (k := k) (by have := HN.out; omega) (elemP_no hv hs hx (fun e => by have := of_decide_eq_true e.2; have := HN.out; omega)))
                have hl1 : ((k : Int) < (n : Int) - 1) := by omega
                clear HE hv hs hx h2
                go_wp2_with fail
                refine (specValidPart _ _ (by omega)).mono ?_
                rintro e w2 ⟨rfl, rfl⟩
                rw [HV.out]
                have hq := HQ.out
                go_wp2_with fail
                refine (l5Letter _ _ (by omega)).mono ?_
                rintro e w2 ⟨rfl, rfl⟩
                rw [HX.out]
                have hq2 := HQ2.out
                go_wp2_with fail
                go_ret
                exact ⟨ret_bool HN2.out.symm, hb.out⟩
            · have HN2 := Lib.hid (validPat_not (l := l) (k := k) (by have := HN.out; omega) (elemP_no hv hs hx (fun e => h2 e.1)))
              have HQ2 := Lib.hid (star2_no h2)
              clear HE hv hs hx h2
              go_wp2_with fail
              refine (specValidPart _ _ (by omega)).mono ?_
              rintro e w2 ⟨rfl, rfl⟩
              rw [HV.out]
              have hq := HQ.out
              go_wp2_with fail
              refine (l5Letter _ _ (by omega)).mono ?_
              rintro e w2 ⟨rfl, rfl⟩
              rw [HX.out]
              have hq2 := HQ2.out
              go_wp2_with fail
              go_ret
              exact ⟨ret_bool HN2.out.symm, hb.out⟩
    · obtain rfl : k = n := by omega
      have HV := Lib.hid (validPat_all (HN.out ▸ ha.out))
      clear hlt
      go_wp2
      go_ret
      refine ⟨ret_bool ?_, hb.out⟩
      rw [HV.out, ← HN.out]
      simp
      omega

end Go.Proofs.Ytcidfmmeonhkhaa.Row
/- Contracts of the helpers by which the laws measure, copy, compare, mark and look at slices of bindings (two strings each). No conditions but that lengths fit. -/
namespace Go.Proofs.Ytcidfmmeonhkhaa.Row
open Go.ChangeShapes Go.WideShapes Go.ChangeAt Go.RowKit Go.Instr
set_option linter.unusedVariables false
set_option maxRecDepth 100000

/-- A binding: its letter and its value. -/
def encBd (x : ByteArray × ByteArray) : List Value := [.string x.1, .string x.2]
/-- Length and sizes of a list of bindings together, up to place k. -/
def bulk2To (l : List (ByteArray × ByteArray)) (k : Nat) : Nat := l.length + ((l.take k).map (fun x => x.1.size + x.2.size)).sum
def bulk2 (l : List (ByteArray × ByteArray)) : Nat := bulk2To l l.length
def szL2 (l : List (ByteArray × ByteArray)) (left : Int) : Int := if (bulk2 l : Int) ≤ left then left - bulk2 l else -1
/-! ### comparing -/
def eqBd (l m : List (ByteArray × ByteArray)) : Bool := decide (l = m)
theorem tl_dec (a b : ByteArray) : (!(a.toList == b.toList)) = !(decide (a = b)) := by
  by_cases h : a = b
  · rw [tl_eq h]; simp [h]
  · rw [tl_ne h]; simp [h]

/-! ### marking -/
/-- The elements that a marking writes: from k on, two numbers an element. -/
def mark2 (k : Int) : Nat → List (ByteArray × ByteArray)
  | 0 => []
  | n + 1 => mark2 k n ++ [(markT (k + 2 * n), markT (k + 2 * n + 1))]
def marked2 (k : Int) (l : List (ByteArray × ByteArray)) (j : Nat) : List (ByteArray × ByteArray) := mark2 k j ++ l.drop j
end Go.Proofs.Ytcidfmmeonhkhaa.Row
/- Contracts of the search for a binding, the program's (by a closure handed to slices.IndexFunc) and the model's, and of BindingValue. No conditions but that lengths fit. -/
namespace Go.Proofs.Ytcidfmmeonhkhaa.Row
open Go.ChangeShapes Go.WideShapes Go.ChangeAt Go.RowKit Go.Instr
set_option linter.unusedVariables false
set_option maxRecDepth 100000

def isK (k : ByteArray) (x : ByteArray × ByteArray) : Bool := decide (x.1 = k)
/-- The place of the first binding of k; how many there are, if there is none. -/
def fi (l : List (ByteArray × ByteArray)) (k : ByteArray) : Nat := l.findIdx (isK k)
def ixB (l : List (ByteArray × ByteArray)) (k : ByteArray) : Int := if fi l k < l.length then (fi l k : Int) else -1
def bvB (l : List (ByteArray × ByteArray)) (k : ByteArray) : ByteArray := if fi l k < l.length then (nth l (fi l k)).2 else ByteArray.empty
def noK (l : List (ByteArray × ByteArray)) (k : ByteArray) (i : Nat) : Prop := ∀ j, j < i → ¬ (nth l j).1 = k
end Go.Proofs.Ytcidfmmeonhkhaa.Row
/- Contracts of slices.Clone on bindings and of matchPart (one part of a pattern against one part of a name). No conditions but that lengths fit. -/
namespace Go.Proofs.Ytcidfmmeonhkhaa.Row
open Go.ChangeShapes Go.WideShapes Go.ChangeAt Go.RowKit Go.Instr
set_option linter.unusedVariables false
set_option maxRecDepth 100000

/-- A result that is a slice of bindings of the call's own. -/
def GivesBd (w : World) (l : List (ByteArray × ByteArray)) (e : Ending) (w' : World) : Prop := ∃ v, e = .returned v ∧ OwnK 193 encBd 2 w.heap.size w' v l ∧ Below w.heap.size w w'

/-- One part of a pattern against one part of a name, with the bindings so far. -/
def stepM (s t : ByteArray) (l : List (ByteArray × ByteArray)) : Option (List (ByteArray × ByteArray)) :=
  if s = starB then some l else if letterP s = true then (if fi l s < l.length then (if (nth l (fi l s)).2 = t then some l else none) else some (l ++ [(s, t)])) else (if s = t then some l else none)
def stepM' (s t : ByteArray) (l : List (ByteArray × ByteArray)) : Option (List (ByteArray × ByteArray)) := if fi l s < l.length then (if (nth l (fi l s)).2 = t then some l else none) else some (l ++ [(s, t)])
/-- What matchPart answers: a slice of its own and whether it matched. -/
def GivesStep (B : Nat) (w : World) (l : List (ByteArray × ByteArray)) (o : Option (List (ByteArray × ByteArray))) (e : Ending) (w' : World) : Prop :=
  ∃ v, e = .returned (.tuple #[v, .bool o.isSome]) ∧ OwnK 193 encBd 2 B w' v (o.getD l) ∧ Below B w w'
end Go.Proofs.Ytcidfmmeonhkhaa.Row
/- Contracts of matchParts (the parts of a pattern against those of a name) and of Match, the program's and the model's. No conditions but that lengths fit. -/
namespace Go.Proofs.Ytcidfmmeonhkhaa.Row
open Go.ChangeShapes Go.WideShapes Go.ChangeAt Go.RowKit Go.Instr
set_option linter.unusedVariables false
set_option maxRecDepth 100000

/-- The parts of a pattern against those of a name, with the bindings so far. -/
def matchL : List ByteArray → List ByteArray → List (ByteArray × ByteArray) → Option (List (ByteArray × ByteArray))
  | [], [], l => some l
  | [], _ :: _, _ => none
  | s :: ps, [], l => if s = star2B then some l else none
  | s :: ps, t :: ts, l => if s = star2B then some l else match stepM s t l with
    | none => none
    | some m => matchL ps ts m
/-- What matchParts answers. -/
def GivesM (B : Nat) (w : World) (o : Option (List (ByteArray × ByteArray))) (e : Ending) (w' : World) : Prop :=
  ∃ v, e = .returned (.tuple #[v, .bool o.isSome]) ∧ (∀ m, o = some m → OwnK 193 encBd 2 B w' v m) ∧ Below B w w'

theorem Far.below {α : Type} [Inhabited α] {enc : α → Value} {B : Nat} {w w' : World} {v : Value} {l : List α} (h : Far enc B w v l) (hb : Below B w w') : Holds enc w' v l := by
  obtain ⟨x, cap, hv, hc, hh⟩ := h
  refine ⟨x, cap, hv, hc, ?_⟩
  rcases hh with h1 | ⟨b, off, hx, hlt, h2⟩
  · exact Or.inl h1
  · exact Or.inr ⟨b, off, hx, fun j hj => by rw [hb.cell (p := ⟨b, off + j, none⟩) hlt]; exact h2 j hj⟩
theorem Far.shapeN {α : Type} [Inhabited α] {enc : α → Value} {B : Nat} {w : World} {v : Value} {l : List α} (h : Far enc B w v l) : ∃ x n cap, v = .slice x n cap ∧ n = l.length ∧ n ≤ cap ∧ Far enc B w (.slice x n cap) l := by
  obtain ⟨x, cap, rfl, hc, ho⟩ := h
  exact ⟨x, _, cap, rfl, rfl, hc, x, cap, rfl, hc, ho⟩

end Go.Proofs.Ytcidfmmeonhkhaa.Row
/- Contracts of Match and Matches, the program's and the model's. No conditions but that lengths fit. -/
namespace Go.Proofs.Ytcidfmmeonhkhaa.Row
open Go.ChangeShapes Go.WideShapes Go.ChangeAt Go.RowKit Go.Instr
set_option linter.unusedVariables false
set_option maxRecDepth 100000

def matchB (p q : List ByteArray) (l : List (ByteArray × ByteArray)) : Option (List (ByteArray × ByteArray)) := if validPat p = true ∧ validN q = true then matchL p q l else none
end Go.Proofs.Ytcidfmmeonhkhaa.Row
/- Contracts of the model's Match and Matches. No conditions but that lengths fit. -/
namespace Go.Proofs.Ytcidfmmeonhkhaa.Row
open Go.ChangeShapes Go.WideShapes Go.ChangeAt Go.RowKit Go.Instr
set_option linter.unusedVariables false
set_option maxRecDepth 100000

theorem _root_.Go.Proofs.Ytcidfmmeonhkhaa.Ret.Box.below {w w' : World} {g B : Nat} {u : Value} {t : TypeId} (h : Ret.Box w g u t) (hg : g < B) (hb : Below B w w') : Ret.Box w' g u t := (hb.block g hg).trans h

/-- What Match answers, in one name each. -/
def mOk (p q : List ByteArray) (l : List (ByteArray × ByteArray)) : Bool := (matchB p q l).isSome
def mOut (p q : List ByteArray) (l : List (ByteArray × ByteArray)) : List (ByteArray × ByteArray) := (matchB p q l).getD l
end Go.Proofs.Ytcidfmmeonhkhaa.Row
/- Contracts of the functions that split a text at its slashes, the program's (without the empty pieces, rune by rune) and the reference model's (all pieces, byte by byte). No conditions but that lengths fit. -/
namespace Go.Proofs.Ytcidfmmeonhkhaa.Row
open Go.ChangeShapes Go.WideShapes Go.ChangeAt Go.RowKit Go.Instr
set_option linter.unusedVariables false
set_option maxRecDepth 100000

/-- Where the reference model's loop stands: the pieces so far, and the rest. -/
def SpI (s : ByteArray) (k f : Nat) (L : List ByteArray) : Prop :=
  (k ≤ s.size → splitB s = L ++ (goS (seg s f k) (rest s k)).map mk) ∧ (k = s.size + 1 → splitB s = L)
theorem SpI.on {s : ByteArray} {k f : Nat} {L : List ByteArray} (h : SpI s k f L) (hf : f ≤ k) (hl : k < s.size) (hc : s[k]'hl ≠ 47) : SpI s (k + 1) f L := by
  have h1 := h.1 (by omega)
  rw [goS_byte s hf hl hc] at h1
  exact ⟨fun _ => h1, fun e => by omega⟩

/-! ### the program's way: rune by rune, over the text with a slash behind it -/
def SpN (s : ByteArray) (k f : Nat) (L : List ByteArray) : Prop :=
  (k ≤ s.size → partsB s = L ++ ((goS (seg s f k) (rest s k)).map mk).filter fullB) ∧ (k = s.size + 1 → partsB s = L)
theorem SpN.on {s : ByteArray} {k f : Nat} {L : List ByteArray} (h : SpN s k f L) (hf : f ≤ k) {m : Nat} (h0 : 1 ≤ m) (hm : k + m ≤ s.size) (hc : ∀ j (hj : j < m), s[k + j]'(by omega) ≠ 47) : SpN s (k + m) f L := by
  have h1 := h.1 (by omega)
  rw [goS_bytes s hf m hm hc] at h1
  exact ⟨fun _ => h1, fun e => by omega⟩

end Go.Proofs.Ytcidfmmeonhkhaa.Row
/- Contracts of ParseName, the program's and the reference model's. No conditions but that lengths fit. -/
namespace Go.Proofs.Ytcidfmmeonhkhaa.Row
open Go.ChangeShapes Go.WideShapes Go.ChangeAt Go.RowKit Go.Instr
set_option linter.unusedVariables false
set_option maxRecDepth 100000

end Go.Proofs.Ytcidfmmeonhkhaa.Row
/- Contracts of FormatPattern and ParsePattern, the program's and the model's. No conditions but that lengths fit. -/
namespace Go.Proofs.Ytcidfmmeonhkhaa.Row
open Go.ChangeShapes Go.WideShapes Go.ChangeAt Go.RowKit Go.Instr
set_option linter.unusedVariables false
set_option maxRecDepth 100000

def ppOk (s : ByteArray) : Bool := validPat (partsB s) && decide (fmtS (partsB s) = s)
def ppN (s : ByteArray) : List ByteArray := if ppOk s = true then partsB s else []
end Go.Proofs.Ytcidfmmeonhkhaa.Row
