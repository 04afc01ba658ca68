/- Contracts and mathematics, joined: Many2, RingC, RingF, RingE. No conditions but those that each states. -/
import Derived.Test.YtnblopilgfdjkaaGreatB1
import Derived.Laws.CopyOwn
import Derived.Maps.AppendAt
import Derived.Deep.RegionLaw
import Derived.Test.YtnblopilgfdjkaaGreatB17
import Derived.BigQuiet
import Derived.Test.YtnblopilgfdjkaaGreatB11
import Derived.Test.YtnblopilgfdjkaaGreatB3
/- Slices of elements of several cells, for any program: parts of them; clear and copy on a row of the call's own. No conditions but that lengths fit. -/
namespace Go.Proofs.YtnblopilgfdjkaaGreat.Row
open Go.ChangeShapes Go.WideShapes Go.ChangeAt Go.RowKit
set_option linter.unusedVariables false
set_option maxRecDepth 100000

section
variable {α : Type} {enc : α → List Value} {sz : Nat}
theorem flat_take (hs : Sz enc sz) (l : List α) (i : Nat) (hi : i ≤ l.length) : flat enc (l.take i) = (flat enc l).take (i * sz) := by
  have h1 : (flat enc (l.take i)).length = i * sz := by rw [flat_length hs, List.length_take]; congr 1; omega
  have h2 : flat enc l = flat enc (l.take i) ++ flat enc (l.drop i) := by rw [← flat_append, List.take_append_drop]
  rw [h2, ← h1, List.take_left]
theorem flat_drop (hs : Sz enc sz) (l : List α) (i : Nat) (hi : i ≤ l.length) : flat enc (l.drop i) = (flat enc l).drop (i * sz) := by
  have h1 : (flat enc (l.take i)).length = i * sz := by rw [flat_length hs, List.length_take]; congr 1; omega
  have h2 : flat enc l = flat enc (l.take i) ++ flat enc (l.drop i) := by rw [← flat_append, List.take_append_drop]
  rw [h2, ← h1, List.drop_left]
variable {e : TypeId} {B : Nat} {w w' : World} {v : Value} {l : List α} {x : Option Addr} {n cap : Nat}
theorem OwnK.take (hs : Sz enc sz) (h : OwnK e enc sz B w (.slice x n cap) l) {i : Nat} (hi : i ≤ l.length) : OwnK e enc sz B w (.slice x i cap) (l.take i) := by
  have hl : (l.take i).length = i := by rw [List.length_take]; omega
  refine ⟨by rw [flat_length hs], ?_⟩
  rcases h.2 with ⟨hv, hn⟩ | ⟨g, cap', cur, hv, hB, hc, h1, h2, h3, h4⟩
  · cases hv
    refine Or.inl ⟨?_, by omega⟩
    rw [show i = 0 by omega]
  · cases hv
    refine Or.inr ⟨g, cap, cur, by rw [hl], hB, hc, by omega, h2, h3, ?_⟩
    rw [flat_take hs l i hi, ← h4, List.take_take, hl]
    congr 1
    have : i * sz ≤ l.length * sz := Nat.mul_le_mul_right _ hi
    omega
theorem HoldsK.take (hs : Sz enc sz) (h : HoldsK enc sz w (.slice x n cap) l) {i : Nat} (hi : i ≤ l.length) : HoldsK enc sz w (.slice x i cap) (l.take i) := by
  obtain ⟨x', cap', hv, hc, hh⟩ := h
  cases hv
  have hl : (l.take i).length = i := by rw [List.length_take]; omega
  refine ⟨x, cap, by rw [hl], by omega, ?_⟩
  rcases hh with rfl | ⟨b, off, hx, hh⟩
  · exact Or.inl (by simp)
  · refine Or.inr ⟨b, off, hx, fun j hj => ?_⟩
    rw [hl] at hj
    have : i * sz ≤ l.length * sz := Nat.mul_le_mul_right _ hi
    obtain ⟨u, h1, h2⟩ := hh j (by omega)
    exact ⟨u, by rw [flat_take hs l i hi, List.getElem?_take, if_pos hj]; exact h1, h2⟩
theorem HoldsK.drop (hs : Sz enc sz) {b off : Nat} (h : HoldsK enc sz w (.slice (some ⟨b, off, none⟩) n cap) l) {i : Nat} (hi : i ≤ l.length) : HoldsK enc sz w (.slice (some ⟨b, off + i * sz, none⟩) (n - i) (cap - i)) (l.drop i) := by
  obtain ⟨x', cap', hv, hc, hh⟩ := h
  cases hv
  refine ⟨some ⟨b, off + i * sz, none⟩, cap - i, by rw [List.length_drop], by rw [List.length_drop]; omega, ?_⟩
  rcases hh with rfl | ⟨b', off', hx, hh⟩
  · exact Or.inl (by simp)
  · cases hx
    refine Or.inr ⟨b, off + i * sz, rfl, fun j hj => ?_⟩
    rw [List.length_drop, Nat.sub_mul] at hj
    obtain ⟨u, h1, h2⟩ := hh (i * sz + j) (by omega)
    exact ⟨u, by rw [flat_drop hs l i hi, List.getElem?_drop]; exact h1, by rw [Nat.add_assoc]; exact h2⟩
/-- A row of the call's own: its block's cells. -/
theorem OwnK.cur (h : OwnK e enc sz B w (.slice x n cap) l) (hn : 0 < l.length) : ∃ g cur, x = some ⟨g, 0, none⟩ ∧ n = l.length ∧ B ≤ g ∧ w.heap[g]? = some (.cells cur e (0, 0)) ∧ l.length ≤ cap ∧ cap ≤ maxLen ∧ cur.size = cap * sz ∧ cur.toList.take (l.length * sz) = flat enc l := by
  rcases h.2 with ⟨hv, h0⟩ | ⟨g, cap', cur, hv, hB, hc, h1, h2, h3, h4⟩
  · omega
  · cases hv
    exact ⟨g, cur, rfl, rfl, hB, hc, h1, h2, h3, h4⟩
end

section
variable {P : Program} {α : Type} {enc : α → List Value} {sz : Nat} {e t : TypeId} {bytes : Nat} {z : Value}
end
end Go.Proofs.YtnblopilgfdjkaaGreat.Row
/- The contract of the model's ValidKeys. No conditions but that lengths fit. -/
namespace Go.Proofs.YtnblopilgfdjkaaGreat.Row.Ring
open Go.ChangeShapes Go.WideShapes Go.ChangeAt Go.RowKit Go.Instr
set_option linter.unusedVariables false
set_option maxRecDepth 100000

def okM (T : List (List ByteArray × Int)) (k : Nat) : Prop := okS T k ∧ ((T.take k).map (·.1)).Nodup
theorem okM_zero (T : List (List ByteArray × Int)) : okM T 0 := ⟨okS_zero T, by simp⟩
theorem named {T : List (List ByteArray × Int)} {m : List ByteArray} : 0 ≤ ixT (isN m) T ↔ m ∈ T.map (·.1) := by
  rcases ixT_cases (isN m) T with ⟨h1, -, h3⟩ | ⟨i, hi, h1, -, h3, -⟩
  · rw [h1]
    constructor
    · intro h; omega
    · intro h
      obtain ⟨x, hx, rfl⟩ := List.mem_map.1 h
      obtain ⟨j, hj, rfl⟩ := List.getElem_of_mem hx
      have := h3 j hj
      rw [nth_eq hj] at this
      unfold isN at this
      rw [eqB_true rfl] at this
      cases this
  · rw [h1]
    refine ⟨fun _ => ?_, fun _ => by omega⟩
    have e : (nth T i).1 = m := by
      apply Classical.byContradiction
      intro e
      unfold isN at h3
      rw [eqB_false e] at h3
      cases h3
    rw [← e]
    exact List.mem_map_of_mem (nth_mem hi)
theorem okM_next {T : List (List ByteArray × Int)} {k : Nat} (h : okM T k) (hk : k < T.length) (hv : vkey (nth T k) = true) (hn : ¬ 0 ≤ ixT (isN (nth T k).1) (T.take k)) (hs : ∀ j, j < k → (nth T j).2 ≠ (nth T k).2) : okM T (k + 1) := by
  refine ⟨okS_next h.1 hk hv fun hm => ?_, ?_⟩
  · obtain ⟨x, hx, e⟩ := List.mem_map.1 hm
    obtain ⟨j, hj, rfl⟩ := List.getElem_of_mem hx
    rw [List.length_take] at hj
    have := hs j (by omega)
    rw [nth_eq (by omega)] at this
    rw [List.getElem_take] at e
    exact this e
  · rw [List.take_succ_eq_append_getElem hk, ← nth_eq hk, List.map_append, List.nodup_append]
    exact ⟨h.2, by simp, fun a ha b hb e => hn (named.2 (by simp at hb; rw [← hb, ← e]; exact ha))⟩
theorem validK_named {T : List (List ByteArray × Int)} {k : Nat} (hk : k < T.length) (hs : 0 ≤ ixT (isN (nth T k).1) (T.take k)) : validK T = false :=
  validK_no fun h => by
    have h2 : ((T.take (k + 1)).map (·.1)).Nodup := by
      have e : T.map (·.1) = (T.take (k + 1)).map (·.1) ++ (T.drop (k + 1)).map (·.1) := by rw [← List.map_append, List.take_append_drop]
      have h3 := h.2.1
      rw [e, List.nodup_append] at h3
      exact h3.1
    rw [List.take_succ_eq_append_getElem hk, ← nth_eq hk, List.map_append, List.nodup_append] at h2
    exact h2.2.2 _ (named.1 hs) _ (by simp) rfl
theorem validK_pair {T : List (List ByteArray × Int)} {k j : Nat} (hk : k < T.length) (hj : j < k) (hs : (nth T j).2 = (nth T k).2) : validK T = false :=
  validK_twice hk (by
    rw [← hs]
    refine List.mem_map_of_mem ?_
    rw [nth_eq (by omega), List.mem_take_iff_getElem]
    exact ⟨j, by omega, rfl⟩)
theorem validK_all {T : List (List ByteArray × Int)} (h : okM T T.length) : validK T = decide (T.length ≤ 8) := by
  rw [validK_of h.1]
  have h2 := h.2
  rw [List.take_length] at h2
  rw [decide_eq_true h2, Bool.and_true]
theorem vkey_not1 {l : List ByteArray} {s : Int} (h : validN l = false) : vkey (l, s) = false := by unfold vkey; rw [show validN (l, s).1 = false from h]; rfl
theorem vkey_not2 {l : List ByteArray} {s : Int} (h : l.length = 0) : vkey (l, s) = false := by unfold vkey; rw [show decide (0 < (l, s).1.length) = false from decide_eq_false (by show ¬ 0 < l.length; omega)]; simp
theorem vkey_not3 {l : List ByteArray} {s : Int} (h : Num.inB s 1 2147483646 = false) : vkey (l, s) = false := by unfold vkey; rw [show Num.inB (l, s).2 1 2147483646 = false from h]; simp
theorem vkey_yes {l : List ByteArray} {s : Int} (h1 : validN l = true) (h2 : 0 < l.length) (h3 : Num.inB s 1 2147483646 = true) : vkey (l, s) = true := by unfold vkey; rw [show validN (l, s).1 = true from h1, show Num.inB (l, s).2 1 2147483646 = true from h3, decide_eq_true (show 0 < (l, s).1.length from h2)]; rfl
theorem TabH.upto {w : World} {x : Option Addr} {n cap : Nat} {L : List Ent} (h : TabH w (.slice x n cap) L) {k : Nat} (hk : k ≤ L.length) : TabH w (.slice x k cap) (L.take k) := ⟨h.1.take szE hk, fun y hy => h.2 y (List.mem_of_mem_take hy)⟩

set_option maxHeartbeats 8000000 in
theorem specValidKeys (v : Value) (T : List (List ByteArray × Int)) (w : World) (h : TabHolds w v T) (hl : T.length ≤ 4000000) (hT : smT T) :
    Calls Tryz.prog 23 #[v] w fun e w' => e = .returned (.bool (validK T)) ∧ Below w.heap.size w w' := by
  obtain ⟨L, rfl, h⟩ := h
  obtain ⟨x, n, cx, rfl, hn, hcx, hh⟩ := h.shapeN
  rw [strip_length, ← hn] at hl
  have HN := Lib.hid hn; have HH := Lib.hid hh; have HT := Lib.hid hT
  clear hn h hh hT
  go_enter Tryz.func23, Tryz.ntmps23
  go_wp2_with fail
  go_loopw [3] (fun i wr => ∃ k : Nat, k ≤ n ∧ i = .int .i64 k ∧ Hid (okM (strip L) k) ∧ Hid (Below w.heap.size w wr)) (fun i _ => n - (intOf i).toNat)
  case atStart => exact ⟨0, Nat.zero_le _, rfl, Lib.hid (okM_zero _), Lib.hid (Below.refl _ _)⟩
  case round =>
    obtain ⟨k, hk, rfl, hO, hB⟩ := hrel
    by_cases hlt : k < n
    · have HKL := Lib.hid (show k < L.length by have := HN.out; omega)
      have HHr := Lib.hid (HH.out.on hB.out)
      obtain ⟨b, off, rfl, hc, hd, hnm⟩ := HHr.out.at HKL.out
      have HPS := Lib.hid (smT_ps HT.out HKL.out)
      have HE := Lib.hid (strip_nth HKL.out)
      have HKT := Lib.hid (show k < (strip L).length by rw [strip_length]; exact HKL.out)
      have HC := Lib.hid hc; have HD := Lib.hid hd; have HNM := Lib.hid hnm
      have hkc : k ≤ cx := by omega
      have hlen0 := hnm.lenEq
      have HLEN := Lib.hid hlen0
      clear hc hd hnm hlen0
      obtain ⟨z1, hz1⟩ : ∃ z, validN (nth L k).ps = z := ⟨_, rfl⟩
      have HZ1 := Lib.hid hz1
      clear hz1
      cases z1 with
      | false =>
        have HV := Lib.hid (validK_bad HKT.out (by rw [HE.out]; exact vkey_not1 HZ1.out))
        go_wp2_with fail
        refine regK1 hlt hkc hl HC HD HNM HPS HZ1 ?_
        intro u11 u12 u13 u14 u15 u16 u17 u18 u19 u20 u21 u22 u23 u24 u25 u26 u27 u28 u29 u30 u31 u32 u33 u34 u35 u36 u37 u38 u39 u40 u41 u42 u43 u44 u45 u46 u47 wx hb1
        have HB2 := Lib.hid (hB.out.trans (hb1.mono hB.out.size))
        clear hb1
        go_wp2_with fail
        go_ret
        exact ⟨ret_bool HV.out.symm, HB2.out⟩
      | true =>
        by_cases hna : (nth L k).n = 0
        · have HV := Lib.hid (validK_bad HKT.out (by rw [HE.out]; exact vkey_not2 (by have := HLEN.out; omega)))
          rw [hna] at HC HNM
          clear hna
          go_wp2_with fail
          refine regK2 hlt hkc hl HC HD HNM HPS HZ1 ?_
          intro u11 u12 u13 u14 u15 u16 u17 u18 u19 u20 u21 u22 u23 u24 u25 u26 u27 u28 u29 u30 u31 u32 u33 u34 u35 u36 u37 u38 u39 u40 u41 u42 u43 u44 u45 u46 u47 wx hb1
          have HB2 := Lib.hid (hB.out.trans (hb1.mono hB.out.size))
          clear hb1
          go_wp2_with fail
          go_ret
          exact ⟨ret_bool HV.out.symm, HB2.out⟩
        · have HNA := Lib.hid (show (((nth L k).n : Int) == 0) = false by simpa using hna)
          have HP0 := Lib.hid (show 0 < (nth L k).ps.length by have := HLEN.out; omega)
          clear hna
          obtain ⟨z2, hz2⟩ : ∃ z, Num.inB (nth L k).val 1 2147483646 = z := ⟨_, rfl⟩
          have HZ2 := Lib.hid hz2
          clear hz2
          cases z2 with
          | false =>
            have HV := Lib.hid (validK_bad HKT.out (by rw [HE.out]; exact vkey_not3 HZ2.out))
            go_wp2_with fail
            refine regK3 hlt hkc hl HC HD HNM HPS HNA.out HZ1 HZ2 ?_
            intro u11 u12 u13 u14 u15 u16 u17 u18 u19 u20 u21 u22 u23 u24 u25 u26 u27 u28 u29 u30 u31 u32 u33 u34 u35 u36 u37 u38 u39 u40 u41 u42 u43 u44 u45 u46 u47 wx hb1
            have HB2 := Lib.hid (hB.out.trans (hb1.mono hB.out.size))
            clear hb1
            go_wp2_with fail
            go_ret
            exact ⟨ret_bool HV.out.symm, HB2.out⟩
          | true =>
            obtain ⟨r, hr⟩ : ∃ r, ixT (isN (nth L k).ps) (strip (L.take k)) = r := ⟨_, rfl⟩
            have HR := Lib.hid hr
            have HR2 := Lib.hid (show ixT (isN (nth (strip L) k).1) ((strip L).take k) = r by rw [HE.out, ← strip_take]; exact hr)
            have HT1 := Lib.hid (HHr.out.upto (Nat.le_of_lt HKL.out))
            have HT2 := Lib.hid (show (strip (L.take k)).length ≤ 100000000 by rw [strip_length, List.length_take]; have := HN.out; omega)
            have HT3 := Lib.hid (show smT (strip (L.take k)) by rw [strip_take]; exact smT_take HT.out k)
            have HT4 := Lib.hid (smT_psl HT.out HKL.out)
            clear hr
            by_cases hr0 : 0 ≤ r
            · have hrd : decide (0 ≤ r) = true := decide_eq_true hr0
              have HV := Lib.hid (validK_named HKT.out (by rw [HR2.out]; exact hr0))
              go_wp2_with fail
              refine regK4 hlt hkc hl HC HD HNM HPS HNA.out HT1 HT2 HT3 HT4 HR HZ1 HZ2 ?_
              intro u11 u12 u13 u14 u15 u16 u17 u18 u19 u20 u21 u22 u23 u24 u25 u26 u27 u28 u29 u30 u31 u32 u33 u34 u35 u36 u37 u38 u39 u40 u41 u42 u43 u44 u45 u46 u47 wx hb1
              have HB2 := Lib.hid (hB.out.trans (hb1.mono hB.out.size))
              clear hb1
              go_wp2_with fail
              go_ret
              exact ⟨ret_bool HV.out.symm, HB2.out⟩
            · have hrd : decide (0 ≤ r) = false := decide_eq_false hr0
              have HRN := Lib.hid (show ¬ 0 ≤ ixT (isN (nth (strip L) k).1) ((strip L).take k) by rw [HR2.out]; exact hr0)
              go_wp2_with fail
              refine regK4 hlt hkc hl HC HD HNM HPS HNA.out HT1 HT2 HT3 HT4 HR HZ1 HZ2 ?_
              intro u11 u12 u13 u14 u15 u16 u17 u18 u19 u20 u21 u22 u23 u24 u25 u26 u27 u28 u29 u30 u31 u32 u33 u34 u35 u36 u37 u38 u39 u40 u41 u42 u43 u44 u45 u46 u47 wx hb1
              have HB2 := Lib.hid (hB.out.trans (hb1.mono hB.out.size))
              have HH2 := Lib.hid (HHr.out.on hb1)
              clear hb1 HHr HT1 HT2 HT3 HR HR2 HC HD HNM
              go_wp2_with fail
              go_loopw [4] (fun i wq => ∃ j : Nat, j ≤ k ∧ i = .int .i64 j ∧ Hid (∀ p, p < j → (nth (strip L) p).2 ≠ (nth (strip L) k).2) ∧ Hid (Below wx.heap.size wx wq)) (fun i _ => k - (intOf i).toNat)
              case atStart => exact ⟨0, Nat.zero_le _, rfl, Lib.hid (fun p hp => absurd hp (by omega)), Lib.hid (Below.refl _ _)⟩
              case round =>
                obtain ⟨j, hj, rfl, hS, hB3⟩ := hrel
                by_cases hjk : j < k
                · have hjl : j < L.length := Nat.lt_trans hjk HKL.out
                  have HJ := Lib.hid (strip_nth hjl)
                  obtain ⟨b', off', hxx, -, hdj, -⟩ := (HH2.out.on hB3.out).at hjl
                  cases hxx
                  obtain ⟨b'', off'', hxx, -, hdk, -⟩ := (HH2.out.on hB3.out).at HKL.out
                  cases hxx
                  have hjn : (j : Int) < (n : Int) := by omega
                  have hkn : (k : Int) < (n : Int) := by omega
                  clear hjl
                  by_cases hs : (nth L j).val = (nth L k).val
                  · have ht : ((nth L j).val == (nth L k).val) = true := by simpa using hs
                    have HV := Lib.hid (validK_pair HKT.out hjk (by rw [HE.out, HJ.out]; exact hs))
                    clear hs
                    go_wp2_with (go_quiet (fail))
                    all_goals
                      go_ret
                      exact ⟨ret_bool HV.out.symm, Lib.hid (below_drewN (HB2.out.trans (hB3.out.mono HB2.out.size)) _) |>.out⟩
                  · have ht : ((nth L j).val == (nth L k).val) = false := by simpa using hs
                    have HS2 := Lib.hid (show ∀ p, p < j + 1 → (nth (strip L) p).2 ≠ (nth (strip L) k).2 from fun p hp => by
                      by_cases e : p = j
                      · subst e; rw [HE.out, HJ.out]; exact hs
                      · exact hS.out p (by omega))
                    clear hs
                    go_wp2_with (go_quiet (fail))
                    all_goals
                      go_roundw
                      case rel => exact ⟨j + 1, by omega, by go_num, HS2, Lib.hid (below_drewN hB3.out _)⟩
                      case measure => simp [intOf]; omega
                · obtain rfl : j = k := by omega
                  have HO2 := Lib.hid (okM_next hO.out HKT.out (by rw [HE.out]; exact vkey_yes HZ1.out HP0.out HZ2.out) (by have := HRN.out; omega) hS.out)
                  have HB4 := Lib.hid (HB2.out.trans (hB3.out.mono HB2.out.size))
                  clear hjk
                  go_wp2_with fail
                  go_roundw
                  case rel => exact ⟨j + 1, by omega, by go_num, HO2, HB4⟩
                  case measure => simp [intOf]; omega
    · obtain rfl : k = n := by omega
      have hV := validK_all (T := strip L) (by rw [strip_length, ← HN.out]; exact hO.out)
      rw [strip_length, ← HN.out] at hV
      have HV := Lib.hid hV
      clear hlt hV
      go_wp2_with fail
      go_ret
      refine ⟨ret_bool ?_, hB.out⟩
      rw [HV.out]
      exact decide_eq_decide.2 (by omega)
end Go.Proofs.YtnblopilgfdjkaaGreat.Row.Ring
/- Contracts of FormatKeys, the program's and the model's: the names' texts, a space between. No conditions but that lengths fit. -/
namespace Go.Proofs.YtnblopilgfdjkaaGreat.Row.Ring
open Go.ChangeShapes Go.WideShapes Go.ChangeAt Go.RowKit Go.Instr
set_option linter.unusedVariables false
set_option maxRecDepth 100000

/-- The names' texts. -/
def txs (T : List (List ByteArray × Int)) : List ByteArray := T.map (fun t => fmtS t.1)
theorem txs_length (T : List (List ByteArray × Int)) : (txs T).length = T.length := by simp [txs]
theorem txs_nth {T : List (List ByteArray × Int)} {k : Nat} (h : k < T.length) : nth (txs T) k = fmtS (nth T k).1 := by simp [txs, nth, List.getD, h]
/-- The first k texts, a space between. -/
def jT (l : List ByteArray) : Nat → ByteArray
  | 0 => mk []
  | k + 1 => (if k = 0 then jT l k else jT l k ++ mk [32]) ++ nth l k
theorem jT_step {l : List ByteArray} {k : Nat} (h : k ≠ 0) : jT l (k + 1) = jT l k ++ mk [32] ++ nth l k := by
  rw [show jT l (k + 1) = (if k = 0 then jT l k else jT l k ++ mk [32]) ++ nth l k from rfl, if_neg h]
theorem mk_nil_append (a : ByteArray) : mk [] ++ a = a := by
  rw [← mk_bl a, mk_append]; rfl
theorem jT_join (x : ByteArray) (r : List ByteArray) : ∀ k, k ≤ r.length → jT (x :: r) (k + 1) = mk (bl x ++ Lib.joinTail [32] ((r.map bl).take k))
  | 0, _ => by
    unfold jT
    rw [if_pos rfl]
    unfold jT
    rw [mk_nil_append, show nth (x :: r) 0 = x from rfl]
    simp [Lib.joinTail, mk_bl]
  | k + 1, h => by
    have ih := jT_join x r k (by omega)
    unfold jT
    rw [if_neg (by omega), ih, Lib.joinTail_take_succ [32] _ k (bl (nth r k)) (by rw [List.getElem?_map, nth_eq (by omega), List.getElem?_eq_getElem (by omega)]; rfl)]
    rw [show nth (x :: r) (k + 1) = nth r k by simp [nth]]
    conv => lhs; rw [← mk_bl (nth r k)]
    rw [mk_append, mk_append]
    simp [List.append_assoc]
theorem jT_all {l : List ByteArray} (h : l ≠ []) : jT l l.length = mk (Lib.join (l.map bl) [32]) := by
  obtain ⟨x, r, rfl⟩ : ∃ x r, l = x :: r := by
    cases l with
    | nil => exact absurd rfl h
    | cons x r => exact ⟨x, r, rfl⟩
  rw [List.length_cons, jT_join x r r.length (Nat.le_refl _), List.take_of_length_le (by simp), List.map_cons, Lib.join_cons]
def fmtK (T : List (List ByteArray × Int)) : ByteArray := if T.length = 0 then mk [45] else jT (txs T) T.length
theorem fmtS_size (l : List ByteArray) : (fmtS l).size ≤ bulk l + 1 := by
  by_cases h : l = []
  · subst h; rw [fmtS_nil, mk_size]; simp
  · rw [← fT_all h]
    have := fT_le l (Nat.le_refl l.length)
    omega
theorem jT_size (T : List (List ByteArray × Int)) : ∀ k, k ≤ T.length → (jT (txs T) k).size + T.length ≤ bulkTTo T k + 2 * k
  | 0, _ => by unfold jT; rw [mk_size, bulkTTo_zero]; simp
  | k + 1, h => by
    have ih := jT_size T k (by omega)
    have h1 := bulkTTo_succ T (k := k) (by omega)
    have h2 := fmtS_size (nth T k).1
    have h3 := txs_nth (T := T) (k := k) (by omega)
    unfold jT
    rw [ByteArray.size_append, h3]
    split
    · omega
    · rw [ByteArray.size_append, mk_size]; simp; omega
theorem jT_le {T : List (List ByteArray × Int)} (hb : bulkT T ≤ 9000000) {k : Nat} (h : k ≤ T.length) : (jT (txs T) k).size ≤ 18000000 := by
  have h1 := jT_size T k h
  have h2 := bulkTTo_le T k
  have h3 := bulkT_len T
  omega
set_option maxHeartbeats 4000000 in
theorem specFormatKeys (v : Value) (T : List (List ByteArray × Int)) (w : World) (h : TabHolds w v T) (hb : bulkT T ≤ 9000000) :
    Calls Tryz.prog 25 #[v] w fun e w' => e = .returned (.string (fmtK T)) ∧ Below w.heap.size w w' := by
  obtain ⟨L, rfl, h⟩ := h
  obtain ⟨x, n, cx, rfl, hn, hcx, hh⟩ := h.shapeN
  have hl : n ≤ 9000000 := by have := bulkT_len (strip L); rw [strip_length] at this; omega
  have HN := Lib.hid hn; have HH := Lib.hid hh; have HT := Lib.hid (smT_of hb)
  have HSZ := Lib.hid (fun k (hk : k ≤ (strip L).length) => jT_le hb hk)
  have HLN := Lib.hid (strip_length L)
  clear hn h hh hb
  go_enter Tryz.func25, Tryz.ntmps25
  go_wp2_with fail
  go_loopw [3, 4] (fun sv i wr => ∃ (k : Nat) (s : ByteArray), k ≤ n ∧ i = .int .i64 k ∧ sv = .string s ∧ s.size ≤ 18000000 ∧ Hid (s = jT (txs (strip L)) k) ∧ Hid (Below w.heap.size w wr)) (fun _ i _ => n - (intOf i).toNat)
  case atStart => exact ⟨0, mk [], Nat.zero_le _, rfl, rfl, by rw [mk_size]; simp, Lib.hid rfl, Lib.hid (Below.refl _ _)⟩
  case round =>
    obtain ⟨k, s, hk, rfl, rfl, hs, he, hB⟩ := hrel
    by_cases hlt : k < n
    · have HKL := Lib.hid (show k < L.length by have := HN.out; omega)
      obtain ⟨b, off, rfl, hc, hd, hnm⟩ := (HH.out.on hB.out).at HKL.out
      have HPS := Lib.hid (smT_ps HT.out HKL.out)
      have HNM := Lib.hid hnm
      have hk0 : (0 : Int) ≤ (k : Int) := by omega
      have hk1 : (k : Int) < (n : Int) := by omega
      have HE := Lib.hid (show nth (txs (strip L)) k = fmtS (nth L k).ps by rw [txs_nth (by rw [HLN.out]; exact HKL.out), strip_nth HKL.out]; rfl)
      have HS1 := Lib.hid (HSZ.out (k + 1) (by have := HLN.out; have := HKL.out; omega))
      obtain ⟨t, ht⟩ : ∃ t, t = fmtS (nth L k).ps := ⟨_, rfl⟩
      have htz : t.size ≤ 9000001 := by have := fmtS_size (nth L k).ps; have := HPS.out; rw [ht]; omega
      have HTT := Lib.hid ht
      clear hnm hd
      by_cases h0 : k = 0
      · subst h0
        have hc0 : wr.cell? ⟨b, off, none⟩ = some (.slice (nth L 0).ad (nth L 0).n (nth L 0).cap) := by simpa using hc
        have HJ := Lib.hid (show jT (txs (strip L)) (0 + 1) = s ++ t by rw [he.out, HTT.out, ← HE.out]; rfl)
        go_wp2_with fail
        refine (specFormatName _ (nth L 0).ps _ HNM.out (by have := HPS.out; omega)).mono ?_
        rintro e w1 ⟨rfl, hb1⟩
        rw [← HTT.out]
        have HB1 := Lib.hid (hB.out.trans (hb1.mono hB.out.size))
        clear hb1 hc hc0 ht
        have hz : (s ++ t).size ≤ 18000000 := by rw [← HJ.out]; exact HS1.out
        go_wp2_with fail
        go_roundw
        case rel => exact ⟨0 + 1, s ++ t, by omega, by go_num, rfl, hz, Lib.hid HJ.out.symm, HB1⟩
        case measure => simp [intOf]; omega
      · have hpos : (0 : Int) < (k : Int) := by omega
        have HJ := Lib.hid (show jT (txs (strip L)) (k + 1) = s ++ mk [32] ++ t by rw [he.out, HTT.out, ← HE.out, jT_step h0])
        clear h0
        go_wp2_with fail
        refine (specFormatName _ (nth L k).ps _ HNM.out (by have := HPS.out; omega)).mono ?_
        rintro e w1 ⟨rfl, hb1⟩
        rw [← HTT.out]
        have HB1 := Lib.hid (hB.out.trans (hb1.mono hB.out.size))
        clear hb1 hc ht
        have hz : (s ++ mk [32] ++ t).size ≤ 18000000 := by rw [← HJ.out]; exact HS1.out
        have hz1 : (s ++ mk [32]).size = s.size + 1 := by rw [ByteArray.size_append, mk_size]; rfl
        go_wp2_with fail
        go_roundw
        case rel => exact ⟨k + 1, s ++ mk [32] ++ t, by omega, by go_num, rfl, hz, Lib.hid HJ.out.symm, HB1⟩
        case measure => simp [intOf]; omega
    · obtain rfl : k = n := by omega
      clear hlt
      by_cases h0 : k = 0
      · subst h0
        have HE := Lib.hid (show fmtK (strip L) = mk [45] by unfold fmtK; rw [if_pos (by rw [HLN.out]; exact HN.out.symm)])
        go_wp2_with fail
        go_ret
        exact ⟨ret_str HE.out.symm, hB.out⟩
      · have hne : ((k : Int) == 0) = false := by simpa using h0
        have HE := Lib.hid (show s = fmtK (strip L) by unfold fmtK; rw [if_neg (by rw [HLN.out, ← HN.out]; exact h0), he.out, HLN.out, ← HN.out])
        clear h0
        go_wp2_with fail
        go_ret
        exact ⟨ret_str HE.out, hB.out⟩

set_option maxHeartbeats 4000000 in
theorem implFormatKeys (v : Value) (T : List (List ByteArray × Int)) (w : World) (h : TabHolds w v T) (hb : bulkT T ≤ 9000000) :
    Calls Tryz.prog 24 #[v] w fun e w' => e = .returned (.string (fmtK T)) ∧ Below w.heap.size w w' := by
  obtain ⟨L, rfl, h⟩ := h
  obtain ⟨x, n, cx, rfl, hn, hcx, hh⟩ := h.shapeN
  have hl : n ≤ 9000000 := by have := bulkT_len (strip L); rw [strip_length] at this; omega
  have HN := Lib.hid hn; have HH := Lib.hid hh; have HT := Lib.hid (smT_of hb)
  have HLN := Lib.hid (strip_length L)
  have HJ9 := Lib.hid (jT_le hb (Nat.le_refl (strip L).length))
  clear hn h hh hb
  by_cases h0 : n = 0
  · subst h0
    have HE := Lib.hid (show fmtK (strip L) = mk [45] by unfold fmtK; rw [if_pos (by rw [HLN.out]; exact HN.out.symm)])
    go_enter Tryz.func24, Tryz.ntmps24
    go_wp2_with fail
    go_ret
    exact ⟨ret_str HE.out.symm, Below.refl _ _⟩
  have hne : ((n : Int) == 0) = false := by simpa using h0
  have HNE := Lib.hid h0
  obtain ⟨i0, hi, hz0, hz1, hz2⟩ := info_parts elemSTR
  have HI := Lib.hid hi; have HZ0 := Lib.hid hz0; have HZ1 := Lib.hid hz1; have HZ2 := Lib.hid hz2
  clear hi hz0 hz1 hz2 h0
  go_enter Tryz.func24, Tryz.ntmps24
  go_wp2_with (at_make; refine wpList_make_own _ rfl _ _ 25 rfl w.heap.size 9 i0 (.string ByteArray.empty) 1 Tryz.underlying25 HI.out HZ0.out HZ1.out _ _ _ n rfl rfl rfl (by rw [HZ2.out]; omega) (by unfold maxLen; omega) (Nat.le_refl _) ?_)
  intro w1 hown hgrow
  have HO := Lib.hid (show Own 9 Value.string w.heap.size w1 (.slice (some ⟨w.heap.size, 0, none⟩) 0 n) ((txs (strip L)).take 0) from hown)
  have HB := Lib.hid ((Below.refl w.heap.size w).grown hgrow (Nat.le_refl _) (fun g hg => by cases hg))
  clear hown hgrow HI HZ0 HZ1 HZ2
  go_wp2_with fail
  go_loopw [3, 14] (fun u i wr => ∃ k : Nat, k ≤ n ∧ i = .int .i64 k ∧ Hid (Own 9 Value.string w.heap.size wr u ((txs (strip L)).take k)) ∧ Hid (Below w.heap.size w wr)) (fun _ i _ => n - (intOf i).toNat)
  case atStart => exact ⟨0, Nat.zero_le _, rfl, HO, HB⟩
  case round =>
    obtain ⟨k, hk, rfl, hO, hB⟩ := hrel
    obtain ⟨xu, nu, cu, rfl, -, -, ho⟩ := hO.out.shapeN
    have hO := Lib.hid ho
    clear ho
    by_cases hlt : k < n
    · have HKL := Lib.hid (show k < L.length by have := HN.out; omega)
      obtain ⟨b, off, rfl, hc, hd, hnm⟩ := (HH.out.on hB.out).at HKL.out
      have HPS := Lib.hid (smT_ps HT.out HKL.out)
      have hal := (Below.refl wr.heap.size wr).alloc (Nat.le_refl _) (.cells #[.slice (nth L k).ad (nth L k).n (nth L k).cap, .int .i64 (nth L k).val] 37)
      have HNM := Lib.hid (hnm.on hal)
      have HB1 := Lib.hid (hB.out.trans (hal.mono hB.out.size))
      have HO1 := Lib.hid (hO.out.on hal)
      have HE := Lib.hid (show (txs (strip L)).take (k + 1) = (txs (strip L)).take k ++ [fmtS (nth L k).ps] by
        have h1 : k < (txs (strip L)).length := by rw [txs_length, HLN.out]; exact HKL.out
        rw [List.take_succ_eq_append_getElem h1, ← nth_eq h1, txs_nth (by rw [HLN.out]; exact HKL.out), strip_nth HKL.out]; rfl)
      clear hnm hal
      go_wp2_with fail
      refine (implFormatName _ (nth L k).ps _ HNM.out (by have := HPS.out; omega)).mono ?_
      rintro e w2 ⟨rfl, hb2⟩
      have HB2 := Lib.hid (HB1.out.trans (hb2.mono HB1.out.size))
      have HO2 := Lib.hid (HO1.out.on hb2)
      obtain ⟨t, ht⟩ : ∃ t, t = fmtS (nth L k).ps := ⟨_, rfl⟩
      rw [← ht] at HE ⊢
      clear hb2 ht hc hd
      go_wp2_with (at_builtin; refine wpList_app (enc := Value.string) (B := w.heap.size) (l := (txs (strip L)).take k) (m := [t]) rfl _ _ rfl Tryz.underlying25 elemSTR rfl rfl rfl (HO2.out.on ((Below.refl _ _).alloc (Nat.le_refl _) _)) (holds_one Value.string 9 w2 t) oneStr ?_ (by unfold maxLen; simp; omega) (by have := HB2.out.size; simp; omega) ?_)
      · simp; omega
      intro v3 w3 ho3 hg3
      have HO3 := Lib.hid (show Own 9 Value.string w.heap.size w3 v3 ((txs (strip L)).take (k + 1)) by rw [HE.out]; exact ho3)
      have HB3 := Lib.hid ((HB2.out.alloc HB2.out.size _).grown hg3 (by have := HB2.out.size; simp; omega) (fun g hg => (HO2.out.lt g hg).1))
      clear ho3 hg3
      go_wp2_with fail
      go_roundw
      case rel => exact ⟨k + 1, by omega, by go_num, HO3, HB3⟩
      case measure => simp [intOf]; omega
    · obtain rfl : k = n := by omega
      clear hlt
      have hO9 := hO.out
      rw [List.take_of_length_le (by rw [txs_length, HLN.out, ← HN.out]; exact Nat.le_refl _)] at hO9
      have HO9 := Lib.hid hO9.holds
      have hne2 : txs (strip L) ≠ [] := fun e => HNE.out (by rw [HN.out, ← HLN.out, ← txs_length, e]; rfl)
      have HJA := Lib.hid (jT_all hne2)
      have HJL := Lib.hid (show (Lib.join ((txs (strip L)).map bl) [32]).length ≤ 18000000 by
        have h1 := HJ9.out
        rw [← txs_length, HJA.out, mk_size] at h1
        exact h1)
      have HNE2 := Lib.hid hne2
      have HLX := Lib.hid (show (txs (strip L)).length ≤ 9000000 by rw [txs_length, HLN.out, ← HN.out]; exact hl)
      have HJ : Hid (Calls Tryz.prog 54 #[.slice xu nu cu, .string (mk [32])] wr fun e w' => e = .returned (.string (mk (Lib.join ((txs (strip L)).map bl) [32]))) ∧ Below wr.heap.size wr w') := by
        refine Lib.hid ?_
        obtain ⟨x', cap', hv, hc', hh'⟩ := HO9.out
        cases hv
        rcases hh' with h0 | ⟨b, off, rfl, hc⟩
        · exact absurd h0 HNE2.out
        · have hlp : 0 < (txs (strip L)).length := List.length_pos_iff.2 HNE2.out
          exact Tryz.strings_Join b off cu (txs (strip L)) (mk [32]) wr (fun j y hy => by
            have hj : j < (txs (strip L)).length := (List.getElem?_eq_some_iff.1 hy).1
            rw [hc j hj, nth_eq hj]
            rw [List.getElem?_eq_getElem hj] at hy
            cases hy; rfl) (by have := cell_lt (hc 0 hlp); exact this) (by have := HLX.out; omega) hc' (by show (Lib.join ((txs (strip L)).map bl) [32]).length ≤ _; have := HJL.out; omega)
      have HE := Lib.hid (show mk (Lib.join ((txs (strip L)).map bl) [32]) = fmtK (strip L) by
        unfold fmtK
        rw [if_neg (by rw [HLN.out, ← HN.out]; exact HNE.out), ← HJA.out, txs_length])
      clear hO9 hne2
      go_wp2_with fail
      refine HJ.out.mono ?_
      rintro e w9 ⟨rfl, hb9⟩
      have HB9 := Lib.hid (hB.out.trans (hb9.mono hB.out.size))
      clear hb9
      go_wp2_with fail
      go_ret
      exact ⟨ret_str HE.out, HB9.out⟩
end Go.Proofs.YtnblopilgfdjkaaGreat.Row.Ring
/- Contracts of the library's slices.Grow at the nil slice and slices.Concat at lists of keys, and of the program's AddKey. No conditions but that lengths fit. -/
namespace Go.Proofs.YtnblopilgfdjkaaGreat.Row.Ring
open Go.ChangeShapes Go.WideShapes Go.ChangeAt Go.RowKit Go.Instr
set_option linter.unusedVariables false
set_option maxRecDepth 100000

/-- A row of keys of the call's own (their names may be others'). -/
def GivesK (w : World) (L : List Ent) (e : Ending) (w' : World) : Prop := ∃ v, e = .returned v ∧ OwnK 37 encE 2 w.heap.size w' v L ∧ Below w.heap.size w w'

set_option maxHeartbeats 1000000 in
theorem growNilK (n : Nat) (w : World) (hn : n ≤ 5000000) :
    Calls Tryz.prog 72 #[.slice none 0 0, .int .i64 n] w (GivesK w []) := by
  by_cases h0 : 0 < n
  · obtain ⟨i0, hi, hz0, hz1, hz2⟩ := info_parts kindE.elem
    have hrz : ∀ ty, (Builtin.append_ #[24, 3] ty #[.slice none 0 0, .int .i64 (n : Int)]).run Tryz.prog w =
        .ok (.slice (some ⟨w.heap.size, 0, none⟩) (0 + n) (grownCap w (0 + n) 0 37)) (w.drew.alloc (.cells (([] : List Value).toArray ++ Builtin.zeroCells (Value.agg #[.slice none 0 0, .int .i64 0]).cells n ++ Builtin.zeroCells (Value.agg #[.slice none 0 0, .int .i64 0]).cells (grownCap w (0 + n) 0 37 - (0 + n))) 37)) := fun ty => by
      have hfit := growslice_fits (need := 0 + n) (old := 0) (bytes := i0.bytes) (by omega) (by rw [hz2]; omega)
      exact Lib.run_append_grow_zeros w 24 3 ty 37 i0 (.agg #[.slice none 0 0, .int .i64 0]) .i64 .i64 Tryz.underlying24 Tryz.underlying3 hi hz0 none 0 0 [] (by rw [hz1]; exact run_firstCells_none w.drew 2 0 0 0) n h0 (by rw [hz1]; decide) (by omega) (by omega) (by rw [hz2]; omega) hfit
    have hGn : 0 + n ≤ grownCap w (0 + n) 0 37 := grownCap_ge w _ _ _
    have hG63 := grownCap_le_maxLen w (0 + n) 0 37 (by unfold maxLen; omega)
    obtain ⟨G, hG⟩ : ∃ G, G = grownCap w (0 + n) 0 37 := ⟨_, rfl⟩
    rw [← hG] at hrz hGn hG63
    have hown : OwnK 37 encE 2 w.heap.size ((w.alloc (.cells (Builtin.zeroCells #[.slice none 0 0, .int .i64 0] n ++ Builtin.zeroCells #[.slice none 0 0, .int .i64 0] (G - n)) 37)).drew) (.slice (some ⟨w.heap.size, 0, none⟩) 0 G) [] := by
      refine ⟨rfl, .inr ⟨w.heap.size, G, _, rfl, Nat.le_refl _, heap_alloc_new w _, Nat.zero_le _, hG63, ?_, by simp [flat]⟩⟩
      simp only [Array.size_append, size_zeroCells]
      simp; omega
    have HOWN := Lib.hid hown; have HR := Lib.hid hrz
    unfold maxLen at hG63
    clear hi hz0 hz1 hz2 hG hown hrz
    go_enter Tryz.func72, Tryz.ntmps72
    go_wp2_with (at_builtin; refine Lib.wpList_append_run _ rfl _ _ _ _ rfl _ _ rfl rfl _ _ (HR.out _) ?_)
    all_goals (go_ret; exact ⟨.slice (some ⟨w.heap.size, 0, none⟩) 0 G, rfl, HOWN.out, ((Below.refl _ _).alloc (Nat.le_refl _) _).drew⟩)
  · obtain rfl : n = 0 := by omega
    go_enter Tryz.func72, Tryz.ntmps72
    go_wp2_with fail
    go_ret
    exact ⟨_, rfl, OwnK.nil _ _ _ _ _, Below.refl _ _⟩

/-- The first k lists, one behind the other. -/
def catK (ls : Nat → List Ent) : Nat → List Ent
  | 0 => []
  | k + 1 => catK ls k ++ ls k
theorem catK_mono (ls : Nat → List Ent) {k n : Nat} (h : k ≤ n) : (catK ls k).length ≤ (catK ls n).length := by
  induction n with
  | zero => obtain rfl : k = 0 := by omega
            exact Nat.le_refl _
  | succ n ih =>
    by_cases e : k = n + 1
    · subst e; exact Nat.le_refl _
    · have := ih (by omega)
      simp only [catK, List.length_append]; omega

set_option maxHeartbeats 2000000 in
theorem concatK (b : Nat) (vs : Nat → Value) (ls : Nat → List Ent) (n : Nat) (w : World) (hn : n ≤ 1000) (hc : ∀ j, j < n → w.cell? ⟨b, j, none⟩ = some (vs j)) (hh : ∀ j, j < n → HoldsK encE 2 w (vs j) (ls j)) (hlen : (catK ls n).length ≤ 4000001) :
    Calls Tryz.prog 41 #[.slice (some ⟨b, 0, none⟩) n n] w (GivesK w (catK ls n)) := by
  have HC := Lib.hid hc; have HH := Lib.hid hh
  clear hc hh
  go_enter Tryz.func41, Tryz.ntmps41
  go_wp2_with fail
  go_loop [3, 11] (fun sv iv => ∃ k : Nat, k ≤ n ∧ iv = .int .i64 k ∧ sv = .int .i64 ((catK ls k).length : Nat)) (fun _ iv => n - (intOf iv).toNat)
  case atStart => exact ⟨0, Nat.zero_le _, rfl, rfl⟩
  case round =>
    obtain ⟨k, hk, rfl, rfl⟩ := hrel
    by_cases hlt : k < n
    · have hcell := HC.out k hlt
      obtain ⟨x, cap, hv, hcap, -⟩ := (HH.out k hlt).shape
      rw [hv] at hcell
      have hm := catK_mono ls (k := k + 1) (n := n) (by omega)
      have HS := Lib.hid (show (catK ls (k + 1)).length = (catK ls k).length + (ls k).length by simp [catK])
      have hm2 : (catK ls k).length + (ls k).length ≤ 4000001 := by rw [← HS.out]; omega
      obtain ⟨c, hcc⟩ : ∃ c, c = (catK ls k).length := ⟨_, rfl⟩
      obtain ⟨d, hdd⟩ : ∃ d, d = (ls k).length := ⟨_, rfl⟩
      rw [← hcc, ← hdd] at HS hm2
      rw [← hcc]
      rw [← hdd] at hcell hcap
      clear hv hm hcc hdd
      go_wp2_with fail
      go_round
      case rel => exact ⟨k + 1, by omega, by go_num, by rw [HS.out]; go_num⟩
      case measure => simp [intOf]; omega
    · obtain rfl : k = n := by omega
      clear hlt
      have HG := Lib.hid (growNilK (catK ls k).length w (by omega))
      obtain ⟨c, hcc⟩ : ∃ c, c = (catK ls k).length := ⟨_, rfl⟩
      have HL := Lib.hid hlen
      rw [← hcc] at HG ⊢
      clear hcc hlen
      go_wp2_with fail
      refine HG.out.mono ?_
      rintro e w1 ⟨v1, rfl, ho, hb⟩
      have HO := Lib.hid ho; have HB := Lib.hid hb
      clear ho hb
      go_wp2_with fail
      go_loopw [6, 27] (fun rv iv wr => ∃ j : Nat, j ≤ k ∧ iv = .int .i64 j ∧ Hid (OwnK 37 encE 2 w.heap.size wr rv (catK ls j)) ∧ Hid (Below w.heap.size w wr)) (fun _ iv _ => k - (intOf iv).toNat)
      case atStart => exact ⟨0, Nat.zero_le _, rfl, HO, HB⟩
      case round =>
        obtain ⟨j, hj, rfl, hr, hbr⟩ := hrel
        by_cases hlt : j < k
        · have hcell := hbr.out.cell (cell_lt (HC.out j hlt))
          rw [HC.out j hlt] at hcell
          have HHJ := (HH.out j hlt).on hbr.out
          have hmono := catK_mono ls (k := j + 1) (n := k) (by omega)
          have hsum : (catK ls j).length + (ls j).length ≤ 4000001 := by
            have := HL.out
            simp only [catK, List.length_append] at hmono; omega
          obtain ⟨x, cap, hv, hcap, hh⟩ := HHJ.shape
          rw [hv] at hcell
          have HHH := Lib.hid hh
          clear hv hmono HHJ hh
          go_wp2_with (at_builtin; refine wpList_appK kindE (B := w.heap.size) (l := catK ls j) (m := ls j) rfl _ _ rfl Tryz.underlying24 rfl rfl hr.out HHH.out (by omega) (by unfold maxLen; omega) hbr.out.size ?_)
          intro v2 w2 ho hg
          have HO2 := Lib.hid ho; have HB2 := Lib.hid (hbr.out.grown hg hbr.out.size (fun g hh => (hr.out.lt g hh).1))
          clear ho hg
          go_wp2_with fail
          go_roundw
          case rel => exact ⟨j + 1, by omega, by go_num, HO2, HB2⟩
          case measure => simp [intOf]; omega
        · obtain rfl : j = k := by omega
          clear hlt
          go_wp2_with fail
          go_ret
          exact ⟨_, rfl, hr.out, hbr.out⟩

/-! ### AddKey -/
def addK (T : List (List ByteArray × Int)) (x : List ByteArray × Int) : List (List ByteArray × Int) := if validK (T ++ [x]) then T ++ [x] else T
/-- A list of keys of the call's own, and whether the key is in it. -/
def GivesKB (w : World) (T : List (List ByteArray × Int)) (z : Bool) (e : Ending) (w' : World) : Prop := ∃ v, e = .returned (.tuple #[v, .bool z]) ∧ TabOwn w.heap.size w' v T ∧ Below w.heap.size w w'
theorem smT_snoc {T : List (List ByteArray × Int)} {x : List ByteArray × Int} (h : smT T) (hx : bulk x.1 ≤ 9000000) : smT (T ++ [x]) := fun t ht => by
  rcases List.mem_append.1 ht with ht | ht
  · exact h t ht
  · rw [List.mem_singleton.1 ht]; exact hx

set_option maxHeartbeats 8000000 in
theorem implAddKey (v u : Value) (T : List (List ByteArray × Int)) (l : List ByteArray) (s : Int) (w : World) (h : TabHolds w v T) (g : Holds Value.string w u l) (hl : T.length ≤ 3000000) (hT : smT T) (hW : ∀ t ∈ T, (Lit.int .i64 t.2).wf = true) (hs : (Lit.int .i64 s).wf = true) (hbl : bulk l ≤ 9000000) :
    Calls Tryz.prog 10 #[v, .agg #[u, .int .i64 s]] w (GivesKB w (addK T (l, s)) (validK (T ++ [(l, s)]))) := by
  obtain ⟨L, rfl, h⟩ := h
  obtain ⟨y, n, cy, rfl, hn, hcy, hh⟩ := h.shapeN
  obtain ⟨x, q, cx, rfl, hq, hcx, hg⟩ := g.shapeN
  obtain ⟨z, hz⟩ : ∃ z, validK (strip L ++ [(l, s)]) = z := ⟨_, rfl⟩
  have HZ := Lib.hid hz
  rw [hz]
  have hsx : strip (L ++ [⟨x, q, cx, l, s⟩]) = strip L ++ [(l, s)] := by rw [strip_append]; rfl
  have hb0 := (Below.refl w.heap.size w).alloc (Nat.le_refl _) (.cells #[.slice x q cx, .int .i64 s] 37)
  have hb1 := hb0.alloc (by simp) (.cells #[.slice x q cx, .int .i64 s] 37)
  have hb2 := hb1.alloc (by simp <;> omega) (.cells #[.slice y n cy, .slice (some ⟨w.heap.size + 1, 0, none⟩) 1 1] 24)
  have HB := Lib.hid hb2
  have hone := holdsK_one szE 37 (w.alloc (.cells #[.slice x q cx, .int .i64 s] 37)) (⟨x, q, cx, l, s⟩ : Ent)
  rw [World.size_alloc] at hone
  have hone2 : HoldsK encE 2 (((w.alloc (.cells #[.slice x q cx, .int .i64 s] 37)).alloc (.cells #[.slice x q cx, .int .i64 s] 37)).alloc (.cells #[.slice y n cy, .slice (some ⟨w.heap.size + 1, 0, none⟩) 1 1] 24)) (.slice (some ⟨w.heap.size + 1, 0, none⟩) 1 1) [⟨x, q, cx, l, s⟩] := HoldsK.on hone ((Below.refl _ _).alloc (Nat.le_refl _) _)
  have HR := Lib.hid (Ret.Blk.new' (w := (w.alloc (.cells #[.slice x q cx, .int .i64 s] 37)).alloc (.cells #[.slice x q cx, .int .i64 s] 37)) (n := w.heap.size + 2) #[.slice y n cy, .slice (some ⟨w.heap.size + 1, 0, none⟩) 1 1] 24 (by simp))
  have HCON := Lib.hid (concatK (w.heap.size + 2) (fun j => if j = 0 then .slice y n cy else .slice (some ⟨w.heap.size + 1, 0, none⟩) 1 1) (fun j => if j = 0 then L else [⟨x, q, cx, l, s⟩]) 2 _ (by decide)
    (fun j hj => by
      rcases (show j = 0 ∨ j = 1 by omega) with rfl | rfl
      · exact HR.out.cell 0
      · exact HR.out.cell 1)
    (fun j hj => by
      rcases (show j = 0 ∨ j = 1 by omega) with rfl | rfl
      · exact hh.1.on hb2
      · exact hone2)
    (by rw [strip_length] at hl; simp [catK]; omega))
  have hcat : catK (fun j => if j = 0 then L else [⟨x, q, cx, l, s⟩]) 2 = L ++ [⟨x, q, cx, l, s⟩] := by simp [catK]
  rw [hcat] at HCON
  have HH := Lib.hid hh; have HG := Lib.hid hg; have HT := Lib.hid hT; have HL := Lib.hid hl; have HSX := Lib.hid hsx
  have HTX := Lib.hid (smT_snoc (x := (l, s)) hT hbl)
  have HLX := Lib.hid (show (strip L ++ [(l, s)]).length ≤ 4000000 by rw [List.length_append]; simp; omega)
  have HWX := Lib.hid (show ∀ t ∈ strip L ++ [(l, s)], (Lit.int .i64 t.2).wf = true from fun t ht => by
    rcases List.mem_append.1 ht with ht | ht
    · exact hW t ht
    · rw [List.mem_singleton.1 ht]; exact hs)
  clear hz hsx hb0 hb1 hb2 hone hone2 HR hcat hn hh h hq hg g hT hl hW hs hbl hcy hcx
  go_enter Tryz.func10, Tryz.ntmps10
  go_wp2_with fail
  refine HCON.out.mono ?_
  rintro e w1 ⟨v1, rfl, ho1, hb1⟩
  have HB1 := Lib.hid (HB.out.trans (hb1.mono HB.out.size))
  have HT1 := Lib.hid (show TabHolds w1 v1 (strip L ++ [(l, s)]) from ⟨_, HSX.out, ho1.holds, fun a ha => by
    rcases List.mem_append.1 ha with ha | ha
    · exact (HH.out.2 a ha).on HB1.out
    · rw [List.mem_singleton.1 ha]; exact HG.out.on HB1.out⟩)
  clear ho1 hb1 HCON
  go_wp2_with fail
  refine (cloneKeys v1 _ w1 HT1.out HLX.out HTX.out).mono ?_
  rintro e w2 ⟨v2, rfl, ho2, hb2⟩
  have HB2 := Lib.hid (HB1.out.trans (hb2.mono HB1.out.size))
  have HO2 := Lib.hid (ho2.mono HB1.out.size)
  clear ho2 hb2 HT1
  go_wp2_with fail
  refine (implValidKeys v2 _ w2 HO2.out.holds HLX.out HTX.out HWX.out).mono ?_
  rintro e w3 ⟨rfl, hb3⟩
  rw [HZ.out]
  have HB3 := Lib.hid (HB2.out.trans (hb3.mono HB2.out.size))
  have HO3 := Lib.hid (HO2.out.on hb3)
  clear hb3 HO2
  cases z with
  | true =>
    have HA := Lib.hid (show addK (strip L) (l, s) = strip L ++ [(l, s)] by unfold addK; rw [HZ.out]; rfl)
    go_wp2_with fail
    go_ret2
    exact ⟨v2, rfl, by rw [HA.out]; exact HO3.out, HB3.out⟩
  | false =>
    have HA := Lib.hid (show addK (strip L) (l, s) = strip L by unfold addK; rw [HZ.out]; rfl)
    go_wp2_with fail
    refine (cloneKeys _ (strip L) w3 ⟨L, rfl, HH.out.on HB3.out⟩ (Nat.le_trans HL.out (by decide)) HT.out).mono ?_
    rintro e w4 ⟨v4, rfl, ho4, hb4⟩
    have HB4 := Lib.hid (HB3.out.trans (hb4.mono HB3.out.size))
    have HO4 := Lib.hid (ho4.mono HB3.out.size)
    clear ho4 hb4
    go_wp2_with fail
    go_ret2
    exact ⟨v4, rfl, by rw [HA.out]; exact HO4.out, HB4.out⟩
end Go.Proofs.YtnblopilgfdjkaaGreat.Row.Ring
