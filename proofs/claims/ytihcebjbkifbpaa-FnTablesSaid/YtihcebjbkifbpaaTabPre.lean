/- Contracts of LongestPrefix, the program's and the model's. No conditions but that lengths fit. -/
import Derived.Test.YtihcebjbkifbpaaTabReg
namespace Go.Proofs.Ytihcebjbkifbpaa.Row
open Go.ChangeShapes Go.WideShapes Go.ChangeAt Go.RowKit Go.Instr
set_option linter.unusedVariables false
set_option maxRecDepth 100000

/-- The place of the longest prefix among the first i entries; -1 if there is none. -/
def lpTo (T : List (List ByteArray × Int)) (m : List ByteArray) : Nat → Int
  | 0 => -1
  | i + 1 => if hpB m (nth T i).1 = true ∧ (lpTo T m i < 0 ∨ (nth T (lpTo T m i).toNat).1.length < (nth T i).1.length) then (i : Int) else lpTo T m i
def lpT (T : List (List ByteArray × Int)) (m : List ByteArray) : Int := lpTo T m T.length
theorem lpTo_in (T : List (List ByteArray × Int)) (m : List ByteArray) : ∀ i, -1 ≤ lpTo T m i ∧ lpTo T m i < (i : Int)
  | 0 => by simp [lpTo]
  | i + 1 => by
    have := lpTo_in T m i
    unfold lpTo
    split <;> omega
theorem lpTo_no {T : List (List ByteArray × Int)} {m : List ByteArray} {i : Nat} (h : hpB m (nth T i).1 = false) : lpTo T m (i + 1) = lpTo T m i := by
  rw [lpTo, if_neg (by simp [h])]
theorem lpTo_first {T : List (List ByteArray × Int)} {m : List ByteArray} {i : Nat} (h : hpB m (nth T i).1 = true) (h2 : lpTo T m i = -1) : lpTo T m (i + 1) = (i : Int) := by
  rw [lpTo, if_pos ⟨h, Or.inl (by omega)⟩]
theorem lpTo_yes {T : List (List ByteArray × Int)} {m : List ByteArray} {i j : Nat} (h : hpB m (nth T i).1 = true) (h2 : lpTo T m i = (j : Int)) (h3 : (nth T j).1.length < (nth T i).1.length) : lpTo T m (i + 1) = (i : Int) := by
  rw [lpTo, if_pos ⟨h, Or.inr (by rw [h2]; simpa using h3)⟩]
theorem lpTo_short {T : List (List ByteArray × Int)} {m : List ByteArray} {i j : Nat} (h2 : lpTo T m i = (j : Int)) (h3 : ¬ (nth T j).1.length < (nth T i).1.length) : lpTo T m (i + 1) = (j : Int) := by
  have hn : ¬ (hpB m (nth T i).1 = true ∧ (lpTo T m i < 0 ∨ (nth T (lpTo T m i).toNat).1.length < (nth T i).1.length)) := by
    rw [h2]
    rintro ⟨-, h | h⟩
    · omega
    · exact h3 (by simpa using h)
  rw [lpTo, if_neg hn, h2]
/-- What it is: an entry whose name is a prefix, and none is longer. -/
theorem lpTo_spec (T : List (List ByteArray × Int)) (m : List ByteArray) : ∀ i, (0 ≤ lpTo T m i → hpB m (nth T (lpTo T m i).toNat).1 = true) ∧ ∀ j, j < i → hpB m (nth T j).1 = true → 0 ≤ lpTo T m i ∧ (nth T j).1.length ≤ (nth T (lpTo T m i).toNat).1.length
  | 0 => ⟨fun h => by simp [lpTo] at h, fun j hj => absurd hj (by omega)⟩
  | i + 1 => by
    obtain ⟨h1, h2⟩ := lpTo_spec T m i
    have hin := lpTo_in T m i
    by_cases hc : hpB m (nth T i).1 = true ∧ (lpTo T m i < 0 ∨ (nth T (lpTo T m i).toNat).1.length < (nth T i).1.length)
    · have e : lpTo T m (i + 1) = (i : Int) := by rw [lpTo, if_pos hc]
      rw [e]
      refine ⟨fun _ => by simpa using hc.1, fun j hj hp => ⟨by omega, ?_⟩⟩
      simp only [Int.toNat_natCast]
      by_cases hji : j = i
      · subst hji; exact Nat.le_refl _
      · have := h2 j (by omega) hp
        rcases hc.2 with h | h <;> omega
    · have e : lpTo T m (i + 1) = lpTo T m i := by rw [lpTo, if_neg hc]
      rw [e]
      refine ⟨h1, fun j hj hp => ?_⟩
      by_cases hji : j = i
      · subst hji
        have h3 : ¬ (lpTo T m j < 0 ∨ (nth T (lpTo T m j).toNat).1.length < (nth T j).1.length) := fun h => hc ⟨hp, h⟩
        omega
      · exact h2 j (by omega) hp

set_option maxHeartbeats 4000000 in
theorem specLongestPrefix (v u : Value) (T : List (List ByteArray × Int)) (m : List ByteArray) (w : World) (h : TabHolds w v T) (g : Holds Value.string w u m) (hl : T.length ≤ 4000000) (hT : smT T) (hm : m.length ≤ 9000000) :
    Calls Try.prog 24 #[v, .agg #[u]] w fun e w' => e = .returned (.int .i64 (lpT T m)) ∧ Below w.heap.size w w' := by
  obtain ⟨L, rfl, h⟩ := h
  obtain ⟨x, n, cx, rfl, hn, hcx, hh⟩ := h.shapeN
  obtain ⟨y, q, cy, rfl, -, hcy, hg⟩ := g.shapeN
  rw [strip_length, ← hn] at hl
  have HB0 := Lib.hid ((Below.refl w.heap.size w).alloc (Nat.le_refl _) (.cells #[.slice y q cy] 27))
  have HC0 := Lib.hid (Ret.Box.new w (.slice y q cy) 27)
  have HN := Lib.hid hn
  have HH := Lib.hid (hh.on HB0.out)
  have HG := Lib.hid (hg.on HB0.out)
  have HT := Lib.hid hT
  have HM := Lib.hid hm
  clear hn h hh hT g hg hm
  go_enter Try.func24, Try.ntmps24
  go_wp2
  go_loopw [5, 6] (fun z i wr => ∃ k : Nat, k ≤ n ∧ i = .int .i64 k ∧ z = .int .i64 (lpTo (strip L) m k) ∧ Hid (Below (w.alloc (.cells #[.slice y q cy] 27)).heap.size (w.alloc (.cells #[.slice y q cy] 27)) wr)) (fun _ i _ => n - (intOf i).toNat)
  case atStart => exact ⟨0, Nat.zero_le _, rfl, rfl, Lib.hid (Below.refl _ _)⟩
  case round =>
    obtain ⟨k, hk, rfl, rfl, hb⟩ := hrel
    by_cases hlt : k < n
    · have hlen := HN.out
      obtain ⟨b, off, rfl, hc, hd, hnm⟩ := (HH.out.on hb.out).at (k := k) (by omega)
      have HL := Lib.hid (smT_psl HT.out (k := k) (by omega))
      have HE := Lib.hid (strip_nth (L := L) (k := k) (by omega))
      have HC := Lib.hid (HC0.out.on hb.out)
      have HNM := Lib.hid hnm
      have HGM := Lib.hid (HG.out.on hb.out)
      have HK := Lib.hid hc
      have hin := lpTo_in (strip L) m k
      clear hc hd hnm
      by_cases he : hpB m (nth L k).ps = true
      · have HV := Lib.hid he
        by_cases hz : lpTo (strip L) m k = -1
        · have HX := Lib.hid (lpTo_first (T := strip L) (m := m) (i := k) (by rw [HE.out]; exact he) hz)
          rw [hz]
          clear hz hin he hlen
          go_wp2_with fail
          refine regL2 hlt (by omega) HC HGM HK HNM HL HM HV ?_
          intro u13 u14 u15 u16 u17 u18 u19 u20 u21 u22 u23 u24 u25 u26 u27 u28 u29 u30 u31 u32 u33 u34 u35 u36 u37 u38 u39 wx hb1
          have HB3 := Lib.hid (hb.out.trans (hb1.mono hb.out.size))
          clear hb1
          go_wp2_with fail
          go_roundw
          case rel => exact ⟨k + 1, by omega, by go_num, by rw [HX.out], HB3⟩
          case measure => simp [intOf]; omega
        · obtain ⟨j, hj⟩ : ∃ j : Nat, lpTo (strip L) m k = (j : Int) := ⟨(lpTo (strip L) m k).toNat, by omega⟩
          have hjk : j < n := by omega
          obtain ⟨b', off', hxx, hc', hd', -⟩ := (HH.out.on hb.out).at (k := j) (by omega)
          cases hxx
          have HEJ := Lib.hid (strip_nth (L := L) (k := j) (by omega))
          have HLJ := Lib.hid (((HH.out.on hb.out).2 _ (nth_mem (k := j) (by omega))).lenEq)
          have HLK := Lib.hid (HNM.out.lenEq)
          have HK2 := Lib.hid hc'
          have hjn : decide (((j : Nat) : Int) < 0) = false := by simp
          have HSX := Lib.hid (fun h3 => lpTo_short (T := strip L) (m := m) (i := k) hj h3)
          have HYX := Lib.hid (fun h3 => lpTo_yes (T := strip L) (m := m) (i := k) (by rw [HE.out]; exact he) hj h3)
          rw [hj]
          clear hz hin he hlen hj hc' hd'
          go_wp2_with fail
          refine regL3 hlt (by omega) HC HGM HK HNM HL HM hjk hjn HK2 HV ?_
          intro u13 u14 u15 u16 u17 u18 u19 u20 u21 u22 u23 u24 u25 u26 u27 u28 u29 u30 u31 u32 u33 u34 u35 u36 u37 u38 u39 wx hb1
          have HB3 := Lib.hid (hb.out.trans (hb1.mono hb.out.size))
          clear hb1 hjn
          by_cases hlen2 : (nth L j).n < (nth L k).n
          · have HX := Lib.hid (HYX.out (by rw [HE.out, HEJ.out]; have e1 := HLJ.out; have e2 := HLK.out; simp only [Ent.t] at *; omega))
            go_wp2_with fail
            go_roundw
            case rel => exact ⟨k + 1, by omega, by go_num, by rw [HX.out], HB3⟩
            case measure => simp [intOf]; omega
          · have HX := Lib.hid (HSX.out (by rw [HE.out, HEJ.out]; have e1 := HLJ.out; have e2 := HLK.out; simp only [Ent.t] at *; omega))
            go_wp2_with fail
            go_roundw
            case rel => exact ⟨k + 1, by omega, by go_num, by rw [HX.out], HB3⟩
            case measure => simp [intOf]; omega
      · have he : hpB m (nth L k).ps = false := by simpa using he
        have HV := Lib.hid he
        have HX := Lib.hid (lpTo_no (T := strip L) (m := m) (i := k) (by rw [HE.out]; exact he))
        clear he hlen hin
        go_wp2_with fail
        refine regL1 hlt (by omega) HC HGM HK HNM HL HM HV ?_
        intro u13 u14 u15 u16 u17 u18 u19 u20 u21 u22 u23 u24 u25 u26 u27 u28 u29 u30 u31 u32 u33 u34 u35 u36 u37 u38 u39 wx hb1
        have HB3 := Lib.hid (hb.out.trans (hb1.mono hb.out.size))
        clear hb1
        go_wp2_with fail
        go_roundw
        case rel => exact ⟨k + 1, by omega, by go_num, by rw [HX.out], HB3⟩
        case measure => simp [intOf]; omega
    · obtain rfl : k = n := by omega
      clear hlt
      go_wp2
      go_ret
      exact ⟨ret_int (by unfold lpT; rw [strip_length, ← HN.out]), HB0.out.trans (hb.out.mono (by simp))⟩

set_option maxHeartbeats 4000000 in
theorem implLongestPrefix (v u : Value) (T : List (List ByteArray × Int)) (m : List ByteArray) (w : World) (h : TabHolds w v T) (g : Holds Value.string w u m) (hl : T.length ≤ 4000000) (hT : smT T) (hm : m.length ≤ 9000000) :
    Calls Try.prog 22 #[v, .agg #[u]] w fun e w' => e = .returned (.int .i64 (lpT T m)) ∧ Below w.heap.size w w' := by
  obtain ⟨L, rfl, h⟩ := h
  obtain ⟨x, n, cx, rfl, hn, hcx, hh⟩ := h.shapeN
  obtain ⟨y, q, cy, rfl, -, hcy, hg⟩ := g.shapeN
  rw [strip_length, ← hn] at hl
  have HB0 := Lib.hid ((Below.refl w.heap.size w).alloc (Nat.le_refl _) (.cells #[.slice y q cy] 27))
  have HC0 := Lib.hid (Ret.Box.new w (.slice y q cy) 27)
  have HN := Lib.hid hn
  have HH := Lib.hid (hh.on HB0.out)
  have HG := Lib.hid (hg.on HB0.out)
  have HT := Lib.hid hT
  have HM := Lib.hid hm
  clear hn h hh hT g hg hm
  go_enter Try.func22, Try.ntmps22
  go_wp2
  go_loopw [5, 6, 12] (fun z t i wr => ∃ k : Nat, k ≤ n ∧ i = .int .i64 k ∧ z = .int .i64 (lpTo (strip L) m k) ∧ (∃ tl : Int, t = .int .i64 tl ∧ Hid ((lpTo (strip L) m k = -1 → tl = -1) ∧ ∀ j : Nat, lpTo (strip L) m k = (j : Int) → tl = (nth (strip L) j).1.length)) ∧ Hid (Below (w.alloc (.cells #[.slice y q cy] 27)).heap.size (w.alloc (.cells #[.slice y q cy] 27)) wr)) (fun _ _ i _ => n - (intOf i).toNat)
  case atStart => exact ⟨0, Nat.zero_le _, rfl, rfl, ⟨-1, rfl, Lib.hid ⟨fun _ => rfl, fun j hj => by simp [lpTo] at hj⟩⟩, Lib.hid (Below.refl _ _)⟩
  case round =>
    obtain ⟨k, hk, rfl, rfl, ⟨tl, rfl, ht⟩, hb⟩ := hrel
    by_cases hlt : k < n
    · have hlen := HN.out
      obtain ⟨b, off, rfl, hc, hd, hnm⟩ := (HH.out.on hb.out).at (k := k) (by omega)
      have HL := Lib.hid (smT_psl HT.out (k := k) (by omega))
      have HE := Lib.hid (strip_nth (L := L) (k := k) (by omega))
      have hal := (Below.refl wr.heap.size wr).alloc (Nat.le_refl _) (.cells #[.slice (nth L k).ad (nth L k).n (nth L k).cap, .int .i64 (nth L k).val] 44)
      have hc0 : (wr.alloc (.cells #[.slice (nth L k).ad (nth L k).n (nth L k).cap, .int .i64 (nth L k).val] 44)).cell? ⟨w.heap.size, 0, none⟩ = some (.slice y q cy) := ((HC0.out.on hb.out).on hal).cell
      have HLK := Lib.hid hnm.lenEq
      have HNM := Lib.hid (hnm.on hal)
      have HGM := Lib.hid ((HG.out.on hb.out).on hal)
      have HBA := Lib.hid (hb.out.trans (hal.mono hb.out.size))
      have hin := lpTo_in (strip L) m k
      have HIN := Lib.hid hin
      clear hnm hal hin
      by_cases hgt : tl < ((nth L k).n : Int)
      · have hgd : decide (tl < ((nth L k).n : Int)) = true := decide_eq_true hgt
        by_cases he : hpB m (nth L k).ps = true
        · have HV := Lib.hid he
          have HX : Hid (lpTo (strip L) m (k + 1) = (k : Int)) := Lib.hid (by
            have h1 := HIN.out
            by_cases hz : lpTo (strip L) m k = -1
            · exact lpTo_first (by rw [HE.out]; exact he) hz
            · obtain ⟨j, hj⟩ : ∃ j : Nat, lpTo (strip L) m k = (j : Int) := ⟨(lpTo (strip L) m k).toNat, by omega⟩
              refine lpTo_yes (by rw [HE.out]; exact he) hj ?_
              have h2 := ht.out.2 j hj
              have h3 := HLK.out
              rw [HE.out]
              simp only [Ent.t] at *
              omega)
          have HTL : Hid (((nth L k).n : Int) = (nth (strip L) k).1.length) := Lib.hid (by rw [HE.out]; have := HLK.out; simp only [Ent.t]; omega)
          clear he hgt hlen
          go_wp2_with fail
          refine (iHpV true HV.out HGM.out HNM.out HM.out HL.out).mono ?_
          rintro e w1 ⟨rfl, hb1⟩
          have HB3 := Lib.hid (HBA.out.trans (hb1.mono HBA.out.size))
          clear hb1 hc hd hc0 hgd
          go_wp2_with fail
          go_roundw
          case rel => exact ⟨k + 1, by omega, by go_num, by rw [HX.out], ⟨_, rfl, Lib.hid ⟨fun h => by rw [HX.out] at h; omega, fun j hj => (show j = k by rw [HX.out] at hj; omega) ▸ HTL.out⟩⟩, HB3⟩
          case measure => simp [intOf]; omega
        · have he : hpB m (nth L k).ps = false := by simpa using he
          have HV := Lib.hid he
          have HX := Lib.hid (lpTo_no (T := strip L) (m := m) (i := k) (by rw [HE.out]; exact he))
          clear he hgt hlen
          go_wp2_with fail
          refine (iHpV false HV.out HGM.out HNM.out HM.out HL.out).mono ?_
          rintro e w1 ⟨rfl, hb1⟩
          have HB3 := Lib.hid (HBA.out.trans (hb1.mono HBA.out.size))
          clear hb1 hc hd hc0 hgd
          go_wp2_with fail
          go_roundw
          case rel => exact ⟨k + 1, by omega, by go_num, by rw [HX.out], ⟨_, rfl, Lib.hid (by rw [HX.out]; exact ht.out)⟩, HB3⟩
          case measure => simp [intOf]; omega
      · have hgd : decide (tl < ((nth L k).n : Int)) = false := decide_eq_false hgt
        have HX : Hid (lpTo (strip L) m (k + 1) = lpTo (strip L) m k) := Lib.hid (by
          have h1 := HIN.out
          by_cases hz : lpTo (strip L) m k = -1
          · have := ht.out.1 hz; omega
          · obtain ⟨j, hj⟩ : ∃ j : Nat, lpTo (strip L) m k = (j : Int) := ⟨(lpTo (strip L) m k).toNat, by omega⟩
            rw [hj]
            refine lpTo_short hj ?_
            have h2 := ht.out.2 j hj
            have h3 := HLK.out
            rw [HE.out]
            simp only [Ent.t] at *
            omega)
        clear hgt hlen
        go_wp2_with fail
        go_roundw
        case rel => exact ⟨k + 1, by omega, by go_num, by rw [HX.out], ⟨_, rfl, Lib.hid (by rw [HX.out]; exact ht.out)⟩, HBA⟩
        case measure => simp [intOf]; omega
    · obtain rfl : k = n := by omega
      clear hlt
      go_wp2
      go_ret
      exact ⟨ret_int (by unfold lpT; rw [strip_length, ← HN.out]), HB0.out.trans (hb.out.mono (by simp))⟩
end Go.Proofs.Ytihcebjbkifbpaa.Row
