/- Contracts and mathematics, joined: Part, Valid, AppP, Want, Gives, Conv, VarMath, Var, ReadV, ReadVI, Bytes, Ints, WantS, WantV, Clone, EqN, NameTxt, RowK, RouteMath, RouteP, JoinK, RouteC, RouteY, RouteF, RouteV0, RouteV1. No conditions but those that each states. -/
import Derived.Test.YtdaahcaafdleaaaB1
import Derived.Laws.RangeAny
import Derived.LoopTactic
import Derived.Lib.ConvBytes
import Derived.Laws.BitsLemmas
import Derived.Laws.Bits128
import Derived.Test.YtdaahcaafdleaaaRows
import Derived.Laws.ShiftsVarLaws
import Derived.Laws.BytesArg
import Derived.Deep.Cut
import Derived.WalkKit
import Derived.Deep.RegionHeld3
import Derived.Maps.OwnSet
import Derived.Lib.AppendStr
import Derived.Deep.RegionLaw
import Derived.DeepKeys4
/- Contracts of ValidPart and ValidName, the program's and the reference model's: a part is right where its size is 1 to 8 and each byte is a small letter, a digit or a minus; a name where each part is and there are at most 6. No conditions but that lengths fit. -/
namespace Go.Proofs.Ytdaahcaafdleaaa.Row
open Go.ChangeShapes Go.WideShapes Go.ChangeAt Go.RowKit Go.Instr
set_option linter.unusedVariables false
set_option maxRecDepth 100000
def okR (r : Int) : Prop := (97 ≤ r ∧ r ≤ 122) ∨ (48 ≤ r ∧ r ≤ 57) ∨ r = 45
instance (r : Int) : Decidable (okR r) := by unfold okR; infer_instance
def okTo (s : ByteArray) (k : Nat) : Prop := ∀ j (h : j < s.size), j < k → okR ((s[j]'h).toNat : Int)
instance (s : ByteArray) (k : Nat) : Decidable (okTo s k) := by unfold okTo; infer_instance
def validP (s : ByteArray) : Bool := decide (1 ≤ s.size ∧ s.size ≤ 8 ∧ okTo s s.size)
theorem okTo_zero (s : ByteArray) : okTo s 0 := fun j h h2 => absurd h2 (by omega)
theorem okTo_succ {s : ByteArray} {k : Nat} (h : okTo s k) (hk : k < s.size) (hc : okR ((s[k]'hk).toNat : Int)) : okTo s (k + 1) := fun j h1 h2 => by
  by_cases e : j = k
  · subst e; exact hc
  · exact h j h1 (by omega)
theorem validP_true {s : ByteArray} (h1 : 1 ≤ s.size) (h2 : s.size ≤ 8) (h : okTo s s.size) : validP s = true := by simp [validP, h1, h2, h]
theorem validP_size {s : ByteArray} (h : ¬ (1 ≤ s.size ∧ s.size ≤ 8)) : validP s = false := by
  unfold validP; exact decide_eq_false (fun e => h ⟨e.1, e.2.1⟩)
theorem validP_byte {s : ByteArray} {k : Nat} (hk : k < s.size) (hc : ¬ okR ((s[k]'hk).toNat : Int)) : validP s = false := by
  unfold validP; exact decide_eq_false (fun e => hc (e.2.2 k hk hk))
theorem rune_ok {s : ByteArray} {pos : Nat} (h : pos < s.size) (hr : okR ((Utf8.decode s pos).1 : Int)) : okR ((s[pos]'h).toNat : Int) ∧ (Utf8.decode s pos).2 = 1 := by
  by_cases ha : (s[pos]'h).toNat < 128
  · rw [decode_ascii s pos h ha] at hr ⊢
    exact ⟨hr, rfl⟩
  · have := (decode_high s pos h (by omega)).1
    unfold okR at hr; omega
theorem rune_not {s : ByteArray} {pos : Nat} (h : pos < s.size) (hr : ¬ okR ((Utf8.decode s pos).1 : Int)) : ¬ okR ((s[pos]'h).toNat : Int) := by
  by_cases ha : (s[pos]'h).toNat < 128
  · rwa [decode_ascii s pos h ha] at hr
  · unfold okR; omega
set_option maxHeartbeats 1000000 in
theorem isPartRune (r : Int) (w : World) : Calls Try.prog 97 #[.int .i32 r] w fun e w' => e = .returned (.bool (decide (okR r))) ∧ w = w' := by
  have HT := fun (h : okR r) => (decide_eq_true h).symm
  have HF := fun (h : ¬ okR r) => (decide_eq_false h).symm
  have HT := Lib.hid HT; have HF := Lib.hid HF
  by_cases h1 : 97 ≤ r ∧ r ≤ 122
  · obtain ⟨h1a, h1b⟩ := h1
    go_enter Try.func97, Try.ntmps97
    go_wp2
    go_ret
    exact ⟨ret_bool (HT.out (by unfold okR; omega)), rfl⟩
  · by_cases h2 : 48 ≤ r ∧ r ≤ 57
    · obtain ⟨h2a, h2b⟩ := h2
      have h1a : ¬ 97 ≤ r := by omega
      go_enter Try.func97, Try.ntmps97
      go_wp2
      go_ret
      exact ⟨ret_bool (HT.out (by unfold okR; omega)), rfl⟩
    · by_cases h3 : r = 45
      · subst h3
        go_enter Try.func97, Try.ntmps97
        go_wp2
        go_ret
        exact ⟨ret_bool (HT.out (by unfold okR; omega)), rfl⟩
      · have HF2 := Lib.hid (HF.out (by unfold okR; omega))
        have h3b : (r == 45) = false := by simpa using h3
        clear h3 HF HT
        by_cases h1a : 97 ≤ r
        · have h1b : ¬ r ≤ 122 := by omega
          have h2b : ¬ r ≤ 57 := by omega
          clear h1 h2
          go_enter Try.func97, Try.ntmps97
          go_wp2
          go_ret
          exact ⟨ret_bool HF2.out, rfl⟩
        · clear h1
          by_cases h2a : 48 ≤ r
          · have h2b : ¬ r ≤ 57 := by omega
            clear h2
            go_enter Try.func97, Try.ntmps97
            go_wp2
            go_ret
            exact ⟨ret_bool HF2.out, rfl⟩
          · clear h2
            go_enter Try.func97, Try.ntmps97
            go_wp2
            go_ret
            exact ⟨ret_bool HF2.out, rfl⟩
set_option maxHeartbeats 1000000 in
theorem implValidPart (s : ByteArray) (w : World) (hl : s.size ≤ 140737488351232) :
    Calls Try.prog 91 #[.string s] w fun e w' => e = .returned (.bool (validP s)) ∧ Below w.heap.size w w' := by
  go_enter Try.func91, Try.ntmps91
  go_wp2
  go_loopw [] (fun w' => ∃ pos : Nat, pos ≤ s.size ∧ w' = w.iter s pos ∧ Hid (okTo s pos)) (fun w' => s.size - w'.iterPos w.heap.size)
  case atStart => exact ⟨0, by omega, rfl, Lib.hid (okTo_zero s)⟩
  case round =>
    obtain ⟨pos, hpl, rfl, ho⟩ := hrel
    by_cases hp : pos < s.size
    · have hnx : ∀ ty, (Instr.next (.pointer (some ⟨w.heap.size, 0, none⟩)) true ty).run Try.prog (w.iter s pos) = _ := fun ty => run_next_any w s pos ty hp
      by_cases hr : okR ((Utf8.decode s pos).1 : Int)
      · obtain ⟨h1, h2⟩ := rune_ok hp hr
        have HO := Lib.hid (okTo_succ ho.out hp h1)
        have HR := Lib.hid (decide_eq_true hr)
        rw [h2] at hnx
        clear hr h1 h2
        go_wp2_with fail
        refine (isPartRune _ _).mono ?_
        rintro e w2 ⟨rfl, rfl⟩
        rw [HR.out]
        go_wp2
        go_roundw
        case rel => exact ⟨pos + 1, by omega, rfl, HO⟩
        case measure => simp; omega
      · have HV := Lib.hid (validP_byte hp (rune_not hp hr))
        have HR := Lib.hid (decide_eq_false hr)
        clear hr
        go_wp2_with fail
        refine (isPartRune _ _).mono ?_
        rintro e w2 ⟨rfl, rfl⟩
        rw [HR.out]
        go_wp2
        go_ret
        exact ⟨ret_bool HV.out.symm, (Below.refl _ _).alloc (Nat.le_refl _) _⟩
    · obtain rfl : pos = s.size := by omega
      have hnx : ∀ ty, (Instr.next (.pointer (some ⟨w.heap.size, 0, none⟩)) true ty).run Try.prog (w.iter s s.size) = _ := fun ty => run_next_end w s s.size ty hp
      go_wp2_with fail
      refine (Num.implInRange _ _ _ _).mono ?_
      rintro e w2 ⟨rfl, rfl⟩
      go_wp2
      go_ret
      refine ⟨ret_bool ?_, (Below.refl _ _).alloc (Nat.le_refl _) _⟩
      have := ho.out
      simp only [Num.inB, validP, this, and_true]
      congr 1
      apply propext
      omega
set_option maxHeartbeats 1000000 in
theorem specValidPart (s : ByteArray) (w : World) (hl : s.size ≤ 140737488351232) :
    Calls Try.prog 80 #[.string s] w fun e w' => e = .returned (.bool (validP s)) ∧ w = w' := by
  by_cases hsz : 1 ≤ s.size ∧ s.size ≤ 8
  · obtain ⟨hs1, hs8⟩ := hsz
    go_enter Try.func80, Try.ntmps80
    go_wp2_with fail
    refine (Num.specIn_true (by omega) (by omega) _).mono ?_
    rintro e w2 ⟨rfl, rfl⟩
    go_wp2
    go_loop [3] (fun iv => ∃ k : Nat, k ≤ s.size ∧ iv = .int .i64 k ∧ Hid (okTo s k)) (fun iv => s.size - (intOf iv).toNat)
    case atStart => exact ⟨0, by omega, rfl, Lib.hid (okTo_zero s)⟩
    case round =>
      obtain ⟨k, hk, rfl, ho⟩ := hrel
      by_cases hlt : k < s.size
      · have hb := (s[k]'hlt).toNat_lt
        have hb0 : (0 : Int) ≤ ((s[k]'hlt).toNat : Int) := by omega
        have hb1 : ((s[k]'hlt).toNat : Int) ≤ 255 := by omega
        have HOK := Lib.hid (fun hc => okTo_succ ho.out hlt hc)
        have HNO := Lib.hid (fun hc => validP_byte hlt hc)
        clear hb
        go_wp2_with fail
        by_cases h1 : 97 ≤ ((s[k]'hlt).toNat : Int) ∧ ((s[k]'hlt).toNat : Int) ≤ 122
        · refine (Num.specIn_true h1.1 h1.2 _).mono ?_
          rintro e w2 ⟨rfl, rfl⟩
          have HO2 := Lib.hid (HOK.out (by unfold okR; omega))
          clear HOK HNO h1
          go_wp2
          go_round
          case rel => exact ⟨k + 1, by omega, by go_num, HO2⟩
          case measure => simp [intOf]; omega
        · refine (Num.specIn_false h1 _).mono ?_
          rintro e w2 ⟨rfl, rfl⟩
          go_wp2_with fail
          by_cases h2 : 48 ≤ ((s[k]'hlt).toNat : Int) ∧ ((s[k]'hlt).toNat : Int) ≤ 57
          · refine (Num.specIn_true h2.1 h2.2 _).mono ?_
            rintro e w2 ⟨rfl, rfl⟩
            have HO2 := Lib.hid (HOK.out (by unfold okR; omega))
            clear HOK HNO h1 h2
            go_wp2
            go_round
            case rel => exact ⟨k + 1, by omega, by go_num, HO2⟩
            case measure => simp [intOf]; omega
          · refine (Num.specIn_false h2 _).mono ?_
            rintro e w2 ⟨rfl, rfl⟩
            by_cases h3 : (s[k]'hlt).toNat = 45
            · have h3b : (((s[k]'hlt).toNat : Int) != 45) = false := by simp [h3]
              have HO2 := Lib.hid (HOK.out (by unfold okR; omega))
              clear HOK HNO h1 h2
              go_wp2
              go_round
              case rel => exact ⟨k + 1, by omega, by go_num, HO2⟩
              case measure => simp [intOf]; omega
            · have h3b : (((s[k]'hlt).toNat : Int) != 45) = true := by simp; omega
              have HV := Lib.hid (HNO.out (by unfold okR; omega))
              clear HOK HNO h1 h2 h3
              go_wp2
              go_ret
              exact ⟨ret_bool HV.out.symm, rfl⟩
      · obtain rfl : k = s.size := by omega
        have HV := Lib.hid (validP_true hs1 hs8 ho.out)
        go_wp2
        go_ret
        exact ⟨ret_bool HV.out.symm, rfl⟩
  · have HV := Lib.hid (validP_size hsz)
    go_enter Try.func80, Try.ntmps80
    go_wp2_with fail
    refine (Num.specIn_false (by omega) _).mono ?_
    rintro e w2 ⟨rfl, rfl⟩
    go_wp2
    go_ret
    exact ⟨ret_bool HV.out.symm, rfl⟩
end Go.Proofs.Ytdaahcaafdleaaa.Row
/- Contracts of ValidName, the program's and the reference model's: a name is right where each part is and there are at most 6. No conditions but that lengths fit. -/
namespace Go.Proofs.Ytdaahcaafdleaaa.Row
open Go.ChangeShapes Go.WideShapes Go.ChangeAt Go.RowKit Go.Instr
set_option linter.unusedVariables false
set_option maxRecDepth 100000
def validN (l : List ByteArray) : Bool := decide (l.length ≤ 6 ∧ ∀ x ∈ l, validP x = true)
def allV (l : List ByteArray) (k : Nat) : Prop := ∀ j, j < k → validP (nth l j) = true
theorem allV_zero (l : List ByteArray) : allV l 0 := fun j h => absurd h (by omega)
theorem allV_succ {l : List ByteArray} {k : Nat} (h : allV l k) (hc : validP (nth l k) = true) : allV l (k + 1) := fun j h1 => by
  by_cases e : j = k
  · subst e; exact hc
  · exact h j (by omega)
theorem validN_not {l : List ByteArray} {k : Nat} (hk : k < l.length) (hc : validP (nth l k) = false) : validN l = false := by
  unfold validN
  refine decide_eq_false (fun e => ?_)
  have := e.2 (nth l k) (by rw [nth_eq hk]; exact List.getElem_mem _)
  rw [hc] at this; cases this
theorem validN_all {l : List ByteArray} (h : allV l l.length) : validN l = decide (l.length ≤ 6) := by
  have : ∀ x ∈ l, validP x = true := by
    intro x hx
    obtain ⟨j, hj, rfl⟩ := List.getElem_of_mem hx
    have := h j hj
    rwa [nth_eq hj] at this
  unfold validN
  congr 1
  exact propext ⟨fun e => e.1, fun e => ⟨e, this⟩⟩
theorem size_nth {l : List ByteArray} {m : Nat} (h : bulk l ≤ m) {k : Nat} (hk : k < l.length) : (nth l k).size ≤ m := by
  have h1 := bulkTo_succ l hk
  have h2 := bulkTo_le l (k + 1)
  omega
set_option maxHeartbeats 1000000 in
theorem implValidName (v : Value) (l : List ByteArray) (w : World) (h : Holds Value.string w v l) (hl : bulk l ≤ 100000000) :
    Calls Try.prog 82 #[.agg #[v]] w fun e w' => e = .returned (.bool (validN l)) ∧ Below w.heap.size w w' := by
  obtain ⟨x, cap, rfl, hcap, hh⟩ := h.shape
  have hll := bigLen hl
  have HS := Lib.hid (fun k (hk : k < l.length) => size_nth hl hk)
  obtain ⟨n, hn⟩ : ∃ n, n = l.length := ⟨_, rfl⟩
  rw [← hn] at hcap hh hll ⊢
  have HN := Lib.hid hn
  have HH := Lib.hid hh
  have HB0 := Lib.hid ((Below.refl w.heap.size w).alloc (Nat.le_refl _) (.cells #[.slice x n cap] 27))
  have HC0 := Lib.hid (Ret.cell_at (w := w) (u := .slice x n cap) (t := 27) (n := w.heap.size) rfl)
  clear hn h hh hl
  go_enter Try.func82, Try.ntmps82
  go_wp2_with fail
  go_loopw [8] (fun i wr => ∃ k : Nat, k ≤ n ∧ i = .int .i64 k ∧ Hid (allV l k) ∧ Hid (Below w.heap.size w wr) ∧ Hid (wr.cell? ⟨w.heap.size, 0, none⟩ = some (.slice x n cap))) (fun i _ => n - (intOf i).toNat)
  case atStart => exact ⟨0, Nat.zero_le _, rfl, Lib.hid (allV_zero _), HB0, HC0⟩
  case round =>
    obtain ⟨k, hk, rfl, ha, hb, hc0⟩ := hrel
    by_cases hlt : k < n
    · have hlen := HN.out
      obtain ⟨b, off, rfl, hc⟩ := (HH.out.on hb.out).at (j := k) (by omega)
      have hsz := HS.out k (by omega)
      clear hlen
      go_wp2_with fail
      refine (implValidPart _ _ (by omega)).mono ?_
      rintro e w2 ⟨rfl, hb2⟩
      have HB2 := Lib.hid (hb.out.trans (hb2.mono hb.out.size))
      have HC2 := Lib.hid ((hb2.cell (cell_lt hc0.out)).trans hc0.out)
      clear hb2 hc
      by_cases hv : validP (nth l k) = true
      · rw [hv]
        have HA2 := Lib.hid (allV_succ ha.out hv)
        clear hv
        go_wp2
        go_roundw
        case rel => exact ⟨k + 1, by omega, by go_num, HA2, HB2, HC2⟩
        case measure => simp [intOf]; omega
      · have hv2 : validP (nth l k) = false := by simpa using hv
        rw [hv2]
        have HV := Lib.hid (validN_not (by have := HN.out; omega) hv2)
        clear hv hv2
        go_wp2
        go_ret
        exact ⟨ret_bool HV.out.symm, HB2.out⟩
    · obtain rfl : k = n := by omega
      have HV := Lib.hid (validN_all (HN.out ▸ ha.out))
      have hc0 := hc0.out
      clear hlt
      go_wp2
      go_ret
      refine ⟨ret_bool ?_, hb.out⟩
      rw [HV.out, ← HN.out]
      simp
      omega
set_option maxHeartbeats 1000000 in
theorem specValidName (v : Value) (l : List ByteArray) (w : World) (h : Holds Value.string w v l) (hl : bulk l ≤ 100000000) :
    Calls Try.prog 51 #[.agg #[v]] w fun e w' => e = .returned (.bool (validN l)) ∧ Below w.heap.size w w' := by
  obtain ⟨x, cap, rfl, hcap, hh⟩ := h.shape
  have hll := bigLen hl
  have HS := Lib.hid (fun k (hk : k < l.length) => size_nth hl hk)
  obtain ⟨n, hn⟩ : ∃ n, n = l.length := ⟨_, rfl⟩
  rw [← hn] at hcap hh hll ⊢
  have HN := Lib.hid hn
  have HH := Lib.hid hh
  have HB0 := Lib.hid ((Below.refl w.heap.size w).alloc (Nat.le_refl _) (.cells #[.slice x n cap] 27))
  have HC0 := Lib.hid (Ret.cell_at (w := w) (u := .slice x n cap) (t := 27) (n := w.heap.size) rfl)
  clear hn h hh hl
  go_enter Try.func51, Try.ntmps51
  go_wp2_with fail
  go_loopw [3] (fun i wr => ∃ k : Nat, k ≤ n ∧ i = .int .i64 k ∧ Hid (allV l k) ∧ Hid (Below w.heap.size w wr) ∧ Hid (wr.cell? ⟨w.heap.size, 0, none⟩ = some (.slice x n cap))) (fun i _ => n - (intOf i).toNat)
  case atStart => exact ⟨0, Nat.zero_le _, rfl, Lib.hid (allV_zero _), HB0, HC0⟩
  case round =>
    obtain ⟨k, hk, rfl, ha, hb, hc0⟩ := hrel
    by_cases hlt : k < n
    · have hlen := HN.out
      obtain ⟨b, off, rfl, hc⟩ := (HH.out.on hb.out).at (j := k) (by omega)
      have hsz := HS.out k (by omega)
      have hc1 := hc0.out
      clear hlen
      go_wp2_with fail
      refine (specValidPart _ _ (by omega)).mono ?_
      rintro e w2 ⟨rfl, rfl⟩
      clear hc
      by_cases hv : validP (nth l k) = true
      · rw [hv]
        have HA2 := Lib.hid (allV_succ ha.out hv)
        clear hv
        go_wp2
        go_roundw
        case rel => exact ⟨k + 1, by omega, by go_num, HA2, hb, hc0⟩
        case measure => simp [intOf]; omega
      · have hv2 : validP (nth l k) = false := by simpa using hv
        rw [hv2]
        have HV := Lib.hid (validN_not (by have := HN.out; omega) hv2)
        clear hv hv2
        go_wp2
        go_ret
        exact ⟨ret_bool HV.out.symm, hb.out⟩
    · obtain rfl : k = n := by omega
      have HV := Lib.hid (validN_all (HN.out ▸ ha.out))
      have hc0 := hc0.out
      clear hlt
      go_wp2
      go_ret
      refine ⟨ret_bool ?_, hb.out⟩
      rw [HV.out, ← HN.out]
      simp
      omega
end Go.Proofs.Ytdaahcaafdleaaa.Row
/- Contracts of AppendPart, the program's and the reference model's. No conditions but that lengths fit. -/
namespace Go.Proofs.Ytdaahcaafdleaaa.Row
open Go.ChangeShapes Go.WideShapes Go.ChangeAt Go.RowKit Go.Instr
set_option linter.unusedVariables false
set_option maxRecDepth 100000
theorem bulk_append (l m : List ByteArray) : bulk (l ++ m) = bulk l + bulk m := by
  unfold bulk bulkTo
  rw [List.take_length, List.take_length, List.take_length, List.map_append, List.sum_append, List.length_append]
  omega
theorem bulk_one (s : ByteArray) : bulk [s] = 1 + s.size := by simp [bulk, bulkTo]
theorem bulk_cons (x : ByteArray) (l : List ByteArray) : bulk (x :: l) = 1 + x.size + bulk l := by
  have := bulk_append [x] l
  rw [bulk_one] at this
  exact this
def appN (l : List ByteArray) (s : ByteArray) : List ByteArray := if validN (l ++ [s]) = true then l ++ [s] else l
def vs2 (a b : Value) (j : Nat) : Value := if j = 0 then a else b
def ls2 (a b : List ByteArray) (j : Nat) : List ByteArray := if j = 0 then a else b
set_option maxHeartbeats 1000000 in
theorem l4Copy (v : Value) (l : List ByteArray) (w : World) (h : Holds Value.string w v l) (hl : l.length ≤ 10000000) :
    Calls Try.prog 45 #[.agg #[v]] w (GivesN w l) := by
  obtain ⟨x, n, cap, rfl, hn, hcap, hh⟩ := h.shapeN
  rw [← hn] at hl
  have HB0 := Lib.hid ((((Below.refl w.heap.size w).alloc (Nat.le_refl _) (.cells #[.slice x n cap] 27)).alloc (by simp) (.cells #[.slice none 0 0] 27)).alloc (by simp; omega) (.cells #[] 9))
  have HN := Lib.hid hn
  have HT2 := Lib.hid (hh.on HB0.out)
  have HO := Lib.hid (own_empty Value.string 9 ((w.alloc (.cells #[.slice x n cap] 27)).alloc (.cells #[.slice none 0 0] 27)))
  simp only [World.size_alloc] at HO
  have HR := Lib.hid ((Ret.NC.new' (.slice none 0 0) 27 (w := w.alloc (.cells #[.slice x n cap] 27)) (n := w.heap.size + 1) (by simp)).alloc (.cells #[] 9))
  clear hh h hn
  go_enter Try.func45, Try.ntmps45
  go_wp2_with (at_builtin; refine wpList_app (enc := Value.string) (B := w.heap.size + 1 + 1) (l := []) (m := l) rfl _ _ rfl Try.underlying25 elemSTR rfl rfl rfl HO.out HT2.out oneStr (by rw [← HN.out]; simp; omega) (by rw [← HN.out]; unfold maxLen; simp; omega) (by simp) ?_)
  intro v3 w3 ho3 hg3
  obtain ⟨x3, n3, c3, rfl, hn3, hc3, ho3⟩ := ho3.shapeN
  clear hn3
  have HB4 := Lib.hid (HB0.out.grown hg3 (by simp; omega) (fun g hh => by have := (HO.out.lt g hh).1; omega))
  obtain ⟨hk2, hf2⟩ := HR.out.grown hg3 (by simp [Value.ownBlock])
  obtain ⟨q1, q2, q3⟩ := endN (w := w) (g := w.heap.size + 1) (by omega) (by omega) ho3 hk2 HB4.out
  have HQ1 := Lib.hid q1; have HQ2 := Lib.hid q2; have HQ3 := Lib.hid q3
  clear q1 q2 q3 ho3 hg3
  go_wp2
  refine bodyPost_ret (Ret.results_c rfl _ _ (w.heap.size + 1) [_] rfl aggN (Ret.one HQ1.out)) rfl ?_
  exact ⟨_, rfl, HQ2.out, HQ3.out⟩
end Go.Proofs.Ytdaahcaafdleaaa.Row
/- Contracts of the helpers by which the laws measure, copy, compare, mark and look at interests (a name and three numbers). No conditions but that lengths fit. -/
namespace Go.Proofs.Ytdaahcaafdleaaa.Row
open Go.ChangeShapes Go.WideShapes Go.ChangeAt Go.RowKit Go.Instr
set_option linter.unusedVariables false
set_option maxRecDepth 100000
abbrev wc (v : Value) (a b c : Int) : Array Value := #[v, .int .i64 a, .int .i64 b, .int .i64 c]
end Go.Proofs.Ytdaahcaafdleaaa.Row
/- What calls leave that give a slice of the call's own; lists of bytes. No conditions. -/
namespace Go.Proofs.Ytdaahcaafdleaaa.Sl
open Go.ChangeShapes Go.WideShapes Go.ChangeAt Go.RowKit Go.Instr
set_option linter.unusedVariables false
set_option maxRecDepth 100000
def GivesB (w : World) (l : List Int) (e : Ending) (w' : World) : Prop := ∃ v, e = .returned v ∧ Own 5 .u8 w.heap.size w' v l ∧ Below w.heap.size w w'
def GivesI (w : World) (l : List Int) (e : Ending) (w' : World) : Prop := ∃ v, e = .returned v ∧ Own 3 .i64 w.heap.size w' v l ∧ Below w.heap.size w w'
def Byt (l : List Int) : Prop := ∀ x ∈ l, 0 ≤ x ∧ x ≤ 255
theorem Byt.at {l : List Int} (h : Byt l) {j : Nat} (hj : j < l.length) : 0 ≤ nth l j ∧ nth l j ≤ 255 := by rw [nth_eq hj]; exact h _ (List.getElem_mem hj)
end Go.Proofs.Ytdaahcaafdleaaa.Sl
/- A string turned into a slice of bytes: where they lie, what they are. No conditions. -/
namespace Go.Proofs.Ytdaahcaafdleaaa.Sl
open Go.ChangeShapes Go.WideShapes Go.ChangeAt Go.RowKit Go.Instr
set_option linter.unusedVariables false
set_option maxRecDepth 100000
def bytesOf (t : ByteArray) : List Int := t.data.toList.map fun c => (c.toNat : Int)
theorem bytesOf_length (t : ByteArray) : (bytesOf t).length = t.size := by unfold bytesOf; rw [List.length_map, Array.length_toList]; rfl
theorem bytesOf_byt (t : ByteArray) : Byt (bytesOf t) := fun x hx => by
  unfold bytesOf at hx
  obtain ⟨c, _, rfl⟩ := List.mem_map.1 hx
  have := c.toNat_lt
  omega
end Go.Proofs.Ytdaahcaafdleaaa.Sl
/- Plain mathematics of the base-128 encoding, no program in sight: the encoding's bytes, how they are read back, how long they are. No conditions. -/
namespace Go.Proofs.Ytdaahcaafdleaaa.Var
def enc (n : Nat) : List Int := if h : n < 128 then [(n : Int)] else (((n % 128 : Nat) : Int) + 128) :: enc (n / 128)
  termination_by n
  decreasing_by omega
theorem enc_small {n : Nat} (h : n < 128) : enc n = [(n : Int)] := by rw [enc, dif_pos h]
theorem enc_big {n : Nat} (h : ¬ n < 128) : enc n = (((n % 128 : Nat) : Int) + 128) :: enc (n / 128) := by rw [enc, dif_neg h]
theorem enc_len : ∀ (k n : Nat), n < 128 ^ (k + 1) → (enc n).length ≤ k + 1
  | 0, n, h => by rw [enc_small (by simpa using h)]; simp
  | k + 1, n, h => by
    by_cases hn : n < 128
    · rw [enc_small hn]; simp
    · rw [enc_big hn]
      have := enc_len k (n / 128) (by rw [Nat.pow_succ] at h; omega)
      simp; omega
theorem enc_len6 {n : Nat} (h : n ≤ 1000000000000) : (enc n).length ≤ 6 :=
  enc_len 5 n (by have e : (128 : Nat) ^ (5 + 1) = 4398046511104 := by decide
                  omega)
theorem enc_ne (n : Nat) : enc n ≠ [] := by
  rw [enc]; split <;> simp
theorem enc_pos (n : Nat) : 1 ≤ (enc n).length := by
  have := enc_ne n
  cases h : enc n with
  | nil => exact absurd h this
  | cons _ _ => simp
theorem enc_byte : ∀ (n : Nat), ∀ x ∈ enc n, 0 ≤ x ∧ x ≤ 255 := by
  intro n
  induction n using Nat.strongRecOn with
  | ind n ih =>
    intro x hx
    by_cases h : n < 128
    · rw [enc_small h] at hx
      simp only [List.mem_singleton] at hx
      omega
    · rw [enc_big h] at hx
      rcases List.mem_cons.1 hx with h1 | h1
      · omega
      · exact ih (n / 128) (by omega) x h1
def var (n : Int) : List Int := if 0 ≤ n ∧ n ≤ 1000000000000 then enc n.toNat else []
theorem var_in {n : Int} (h0 : 0 ≤ n) (h1 : n ≤ 1000000000000) : var n = enc n.toNat := by simp [var, h0, h1]
theorem var_len (n : Int) : (var n).length ≤ 6 := by
  unfold var
  split
  · exact enc_len6 (by omega)
  · simp
theorem enc_step {n : Int} (h : 128 ≤ n) : enc n.toNat = (n % 128 + 128) :: enc (n / 128).toNat := by
  rw [enc_big (by omega)]
  congr 1
  · omega
  · congr 1; omega
theorem enc_last {n : Int} (h0 : 0 ≤ n) (h : n < 128) : enc n.toNat = [n] := by
  rw [enc_small (by omega)]
  congr 1; omega
def dec : Nat → List Int → Nat → Int → Option (Int × Nat)
  | 0, _, _, _ => none
  | _ + 1, [], _, _ => none
  | f + 1, x :: r, k, n =>
    if x < 128 then (if (x = 0 ∧ 0 < k) ∨ 1000000000000 < n + x * 128 ^ k then none else some (n + x * 128 ^ k, k + 1))
    else dec f r (k + 1) (n + x % 128 * 128 ^ k)
def okAt (l : List Int) (i : Int) : Prop := 0 ≤ i ∧ i ≤ l.length
def res (i : Int) : Option (Int × Nat) → Int × Int × Bool
  | none => (0, 0, false)
  | some (n, c) => (n, i + c, true)
def readV (l : List Int) (i : Int) : Int × Int × Bool := if 0 ≤ i ∧ i ≤ l.length then res i (dec 6 (l.drop i.toNat) 0 0) else (0, 0, false)
end Go.Proofs.Ytdaahcaafdleaaa.Var
/- Contracts of AppendVarint, the reference model's and the program's: the slice and behind it the number's groups, in memory of the call's own. No conditions but that lengths fit. -/
namespace Go.Proofs.Ytdaahcaafdleaaa.Sl
open Go.ChangeShapes Go.WideShapes Go.ChangeAt Go.RowKit Go.Instr
set_option linter.unusedVariables false
set_option maxRecDepth 100000
def GrowsB (B : Nat) (w : World) (l : List Int) (e : Ending) (w' : World) : Prop := ∃ v, e = .returned v ∧ Own 5 .u8 B w' v l ∧ Below B w w'
set_option maxHeartbeats 1000000 in
theorem addVarint (B : Nat) (v : Value) (l : List Int) (n : Int) (w : World) (h : Fits 5 .u8 B w v l) (hB : B ≤ w.heap.size) (hl : l.length ≤ 100000000) (hn1 : 0 ≤ n) (hn2 : n ≤ 1000000000000) :
    Calls Try.prog 92 #[v, .int .i64 n] w (GrowsB B w (l ++ Var.var n)) := by
  have e1 := Var.var_in hn1 hn2
  have HE := Lib.hid e1
  have H := Lib.hid h
  have hin := fun wx => Num.implIn_true hn1 hn2 wx
  have HI := Lib.hid hin
  clear e1 h hin
  go_enter Try.func92, Try.ntmps92
  go_wp2_with fail
  refine (HI.out _).mono ?_
  rintro e w' ⟨rfl, rfl⟩
  go_wp2_with fail
  go_loopw [0, 1] (fun bv nv wr => ∃ (y : Int) (p : List Int), nv = .int .i64 y ∧ 0 ≤ y ∧ y ≤ 1000000000000 ∧ Hid (p ++ Var.enc y.toNat = Var.enc n.toNat) ∧ Hid (Fits 5 .u8 B wr bv (l ++ p)) ∧ Hid (Below B w wr)) (fun _ nv _ => (intOf nv).toNat)
  case atStart => exact ⟨n, [], rfl, hn1, hn2, Lib.hid rfl, by rw [List.append_nil]; exact H, Lib.hid (Below.refl _ _)⟩
  case round =>
    obtain ⟨y, p, rfl, y0, y1, he, ho, hb⟩ := hrel
    have hpl : p.length ≤ 6 := by
      have e1 := congrArg List.length he.out
      have e2 := Var.enc_len6 (n := n.toNat) (by omega)
      have e3 := Var.enc_pos y.toNat
      simp at e1; omega
    by_cases hlt : 128 ≤ y
    · have HS := Lib.hid (Var.enc_step (n := y) (by omega))
      go_wp2_with (at_builtin; refine wpList_app_fit (k := .u8) (B := B) (l := l ++ p) (m := [y % 128 + 128]) rfl _ _ rfl Try.underlying22 elemBYTE rfl rfl rfl (ho.out.on ((Below.refl _ _).alloc (Nat.le_refl _) _)) ?_ (by simp) ?_ (by decide) ?_ ?_)
      · rw [show y % 128 + 128 = 128 + y % 128 by omega]; exact holds_one .u8 _ _ _
      · first | omega | (simp; omega)
      · have := hb.out.size; first | omega | (simp; omega)
      intro v2 w2 ho2 hg
      have hb2 : Below B w w2 := ((hb.out).alloc (by have := hb.out.size; omega) _).trans hg
      have HO2 := Lib.hid (Or.inl ho2 : Fits 5 .u8 B w2 v2 _); have HB2 := Lib.hid hb2
      clear ho2 hb2 hg
      go_wp2_with fail
      go_roundw
      case rel => exact ⟨y / 128, p ++ [y % 128 + 128], rfl, by omega, by omega, Lib.hid (by rw [List.append_assoc, ← he.out, HS.out]; rfl), HO2, HB2⟩
      case measure => simp [intOf]; omega
    · have HS := Lib.hid (Var.enc_last (n := y) (by omega) (by omega))
      go_wp2_with (at_builtin; refine wpList_app_fit (k := .u8) (B := B) (l := l ++ p) (m := [y]) rfl _ _ rfl Try.underlying22 elemBYTE rfl rfl rfl (ho.out.on ((Below.refl _ _).alloc (Nat.le_refl _) _)) (holds_one .u8 _ _ _) (by simp) ?_ (by decide) ?_ ?_)
      · first | omega | (simp; omega)
      · have := hb.out.size; first | omega | (simp; omega)
      intro v2 w2 ho2 hg
      have hb2 : Below B w w2 := ((hb.out).alloc (by have := hb.out.size; omega) _).trans hg
      have HO2 := Lib.hid ho2; have HB2 := Lib.hid hb2
      clear ho2 hb2 hg
      go_wp2_with fail
      go_ret
      exact ⟨_, rfl, by rw [HE.out, ← he.out, HS.out]; exact HO2.out, HB2.out⟩
end Go.Proofs.Ytdaahcaafdleaaa.Sl
/- Contracts of ReadVarint, the reference model's and the program's: what the groups at the offset make, the offset behind them, true; or 0, 0 and false. Nothing in memory turns. No conditions but that the elements are bytes and the length fits. -/
namespace Go.Proofs.Ytdaahcaafdleaaa.Sl
open Go.ChangeShapes Go.WideShapes Go.ChangeAt Go.RowKit Go.Instr
set_option linter.unusedVariables false
set_option maxRecDepth 100000
def rdV (r : Int × Int × Bool) : Value := .tuple #[.int .i64 r.1, .int .i64 r.2.1, .bool r.2.2]
end Go.Proofs.Ytdaahcaafdleaaa.Sl
/- Contracts of the program's ReadVarint: what the groups at the offset make, the offset behind them, true; or 0, 0 and false. What was in memory stays as it was. No conditions but that the elements are bytes and the length fits. -/
namespace Go.Proofs.Ytdaahcaafdleaaa.Sl
open Go.ChangeShapes Go.WideShapes Go.ChangeAt Go.RowKit Go.Instr
set_option linter.unusedVariables false
set_option maxRecDepth 100000
end Go.Proofs.Ytdaahcaafdleaaa.Sl
/- Contracts of AppendBytes, EqualBytes and EncodeInts, the reference model's and the program's. Slices that are returned lie in memory of the call's own. No conditions but that lengths fit and that the elements are bytes. -/
namespace Go.Proofs.Ytdaahcaafdleaaa.Sl
open Go.ChangeShapes Go.WideShapes Go.ChangeAt Go.RowKit Go.Instr
set_option linter.unusedVariables false
set_option maxRecDepth 100000
theorem conv_holds {x : Option Addr} {cap : Nat} {l : List Int} {w : World} (h : Holds .u8 w (.slice x l.length cap) l) :
    (convert 22 9 (.slice x l.length cap)).run Try.prog w = .ok (.string (strOfNums l)) w := by
  obtain ⟨x', cap', hv, hc, hh⟩ := h
  cases hv
  rcases hh with rfl | ⟨b, off, rfl, hc⟩
  · cases x with
    | none => exact run_convert_bytes_nil w 22 5 Try.underlying22 Try.underlying5 _ _ 9 Try.underlying9
    | some a => exact run_convert_bytes_back w 22 9 5 a cap [] Try.underlying22 Try.underlying5 Try.underlying9 (fun j hj => absurd hj (by simp))
  · exact run_convert_bytes_arg w 22 5 Try.underlying22 Try.underlying5 b off l.length cap l rfl hc 9 Try.underlying9
end Go.Proofs.Ytdaahcaafdleaaa.Sl
/- Contracts of EncodeInts, the reference model's and the program's: the numbers' groups, one number after the other, in memory of the call's own. No conditions but that lengths fit. -/
namespace Go.Proofs.Ytdaahcaafdleaaa.Sl
open Go.ChangeShapes Go.WideShapes Go.ChangeAt Go.RowKit Go.Instr
set_option linter.unusedVariables false
set_option maxRecDepth 100000
def encs (l : List Int) : List Int := l.flatMap Var.var
end Go.Proofs.Ytdaahcaafdleaaa.Sl
/- Contracts of the model's functions on interests: AppendName. No conditions but that lengths fit. -/
namespace Go.Proofs.Ytdaahcaafdleaaa.Row
open Go.ChangeShapes Go.WideShapes Go.ChangeAt Go.RowKit Go.Instr
set_option linter.unusedVariables false
set_option maxRecDepth 100000
def encPs (l : List ByteArray) : List Int := l.flatMap fun s => Var.var s.size ++ Sl.bytesOf s
def encN (l : List ByteArray) : List Int := Var.var l.length ++ encPs l
def appName (b : List Int) (l : List ByteArray) : List Int := if validN l = true then b ++ encN l else b
theorem encPs_next {l : List ByteArray} {k : Nat} (h : k < l.length) : encPs (l.take (k + 1)) = encPs (l.take k) ++ (Var.var (nth l k).size ++ Sl.bytesOf (nth l k)) := by
  unfold encPs
  rw [List.take_succ_eq_append_getElem h, List.flatMap_append, nth_eq h]
  simp
theorem encPs_len : ∀ l : List ByteArray, (encPs l).length ≤ 6 * bulk l
  | [] => by simp [encPs]
  | s :: r => by
    have h1 := encPs_len r
    have h2 := Var.var_len s.size
    have h3 : encPs (s :: r) = (Var.var s.size ++ Sl.bytesOf s) ++ encPs r := by simp [encPs]
    have h4 : bulk (s :: r) = 1 + s.size + bulk r := by simp [bulk_cons]
    rw [h3, List.length_append, List.length_append, Sl.bytesOf_length]
    omega
theorem bulk_take_le (l : List ByteArray) (k : Nat) : bulk (l.take k) ≤ bulk l := by
  have := bulk_append (l.take k) (l.drop k)
  rw [List.take_append_drop] at this
  omega
theorem size_bulk {l : List ByteArray} {k : Nat} (h : k < l.length) : (nth l k).size ≤ bulk l := by
  have h1 := bulk_append (l.take k) (l.drop k)
  rw [List.take_append_drop, List.drop_eq_getElem_cons h, bulk_cons, ← nth_eq h] at h1
  omega
end Go.Proofs.Ytdaahcaafdleaaa.Row
/- Contracts of the model's functions on interests: validity, copy, equality, the hop limit. No conditions but that lengths fit. -/
namespace Go.Proofs.Ytdaahcaafdleaaa.Row
open Go.ChangeShapes Go.WideShapes Go.ChangeAt Go.RowKit Go.Instr
set_option linter.unusedVariables false
set_option maxRecDepth 100000
abbrev Wt := List ByteArray × Int × Int × Int
def validW (x : Wt) : Bool := validN x.1 && decide (0 < x.1.length) && decide (0 ≤ x.2.1 ∧ x.2.1 ≤ 1000000) && decide (0 ≤ x.2.2.1 ∧ x.2.2.1 ≤ 16) && decide (1 ≤ x.2.2.2 ∧ x.2.2.2 ≤ 20)
def GivesW (w : World) (x : Wt) (e : Ending) (w' : World) : Prop := ∃ v', e = .returned (.agg (wc v' x.2.1 x.2.2.1 x.2.2.2)) ∧ Own 9 Value.string w.heap.size w' v' x.1 ∧ Below w.heap.size w w'
def GivesWB (w : World) (x : Wt) (z : Bool) (e : Ending) (w' : World) : Prop := ∃ v', e = .returned (.tuple #[.agg (wc v' x.2.1 x.2.2.1 x.2.2.2), .bool z]) ∧ Own 9 Value.string w.heap.size w' v' x.1 ∧ Below w.heap.size w w'
def decW (x : Wt) : Wt := if x.2.2.1 < 1 then x else (x.1, x.2.1, x.2.2.1 - 1, x.2.2.2)
def decOk (x : Wt) : Bool := decide (1 ≤ x.2.2.1)
end Go.Proofs.Ytdaahcaafdleaaa.Row
/- Contract of the program's copy of a name. No conditions but that lengths fit. -/
namespace Go.Proofs.Ytdaahcaafdleaaa.Row
open Go.ChangeShapes Go.WideShapes Go.ChangeAt Go.RowKit Go.Instr
set_option linter.unusedVariables false
set_option maxRecDepth 100000
set_option maxHeartbeats 4000000 in
theorem cloneName (v : Value) (l : List ByteArray) (w : World) (h : Holds Value.string w v l) (hl : l.length ≤ 9000000) :
    Calls Try.prog 68 #[.agg #[v]] w (GivesN w l) := by
  obtain ⟨x, n, cap, rfl, hn, hcap, hh⟩ := h.shapeN
  have HB0 := Lib.hid (((Below.refl w.heap.size w).alloc (Nat.le_refl _) (.cells #[.slice x n cap] 27)).alloc (by simp) (.cells #[.slice none 0 0] 27))
  have HH := Lib.hid (hh.on HB0.out)
  have HR := Lib.hid (Ret.NC.new' (.slice none 0 0) 27 (w := w.alloc (.cells #[.slice x n cap] 27)) (n := w.heap.size + 1) (by simp))
  clear hh h hn
  go_enter Try.func68, Try.ntmps68
  go_wp2_with fail
  refine (cloneS _ l _ HH.out (by omega)).mono ?_
  rintro e w1 ⟨v1, rfl, ho, hb⟩
  obtain ⟨x1, n1, c1, rfl, -, -, ho1⟩ := ho.shapeN
  have HR1 := Lib.hid (HR.out.on hb)
  obtain ⟨hk, hf⟩ := HR1.out
  have HB1 := HB0.out.trans (hb.mono HB0.out.size)
  obtain ⟨q1, q2, q3⟩ := endN (w := w) (g := w.heap.size + 1) (by omega) (by simp) ho1 hk HB1
  have HQ1 := Lib.hid q1; have HQ2 := Lib.hid q2; have HQ3 := Lib.hid q3
  clear q1 q2 q3 ho ho1 hb HB1
  go_wp2
  refine bodyPost_ret (Ret.results_c rfl _ _ (w.heap.size + 1) [_] rfl aggN (Ret.one HQ1.out)) rfl ?_
  exact ⟨_, rfl, HQ2.out, HQ3.out⟩
end Go.Proofs.Ytdaahcaafdleaaa.Row
/- Names in the kinds of kstruct.py: ValidName, EqualNames, the copies, model and program. No conditions but that lengths fit. -/
namespace Go.Proofs.Ytdaahcaafdleaaa.Row
open Go.ChangeShapes Go.WideShapes Go.ChangeAt Go.RowKit Go.Instr
set_option linter.unusedVariables false
set_option maxRecDepth 100000
section
variable {w : World} {V U : Value} {l m : List ByteArray} {B E : Nat}
theorem sEqK (z : Bool) (hz : decide (l = m) = z) (h : kN.At w V l) (g : kN.At w U m) (hl : bulk l ≤ 9000000) (hm : bulk m ≤ 9000000) :
    Calls Try.prog 81 #[V, U] w fun e w' => e = .returned (.bool z) ∧ Below w.heap.size w w' := by
  obtain ⟨v, rfl, h9⟩ := kN_at h
  obtain ⟨u, rfl, g9⟩ := kN_at g
  exact hz ▸ specEqualNames v u l m w h9 g9 (by have := bulk_len l; omega) (by have := bulk_len m; omega)
theorem sCpyN (h : kN.At w V l) (hl : bulk l ≤ 9000000) : Calls Try.prog 45 #[V] w fun e w' => ∃ U, e = .returned U ∧ kN.In w.heap.size w'.heap.size w' U l ∧ Below w.heap.size w w' := by
  obtain ⟨v, rfl, h9⟩ := kN_at h
  exact (l4Copy v l w h9 (by have := bulk_len l; omega)).mono fun e w' ⟨v', a, b, c⟩ => ⟨_, a, kN_own b, c⟩
theorem iCpyN (h : kN.At w V l) (hl : bulk l ≤ 9000000) : Calls Try.prog 68 #[V] w fun e w' => ∃ U, e = .returned U ∧ kN.In w.heap.size w'.heap.size w' U l ∧ Below w.heap.size w w' := by
  obtain ⟨v, rfl, h9⟩ := kN_at h
  exact (cloneName v l w h9 (by have := bulk_len l; omega)).mono fun e w' ⟨v', a, b, c⟩ => ⟨_, a, kN_own b, c⟩
theorem sValN (z : Bool) (hz : validN l = z) (h : kN.At w V l) (hl : bulk l ≤ 9000000) :
    Calls Try.prog 51 #[V] w fun e w' => e = .returned (.bool z) ∧ Below w.heap.size w w' := by
  obtain ⟨v, rfl, h9⟩ := kN_at h
  exact hz ▸ specValidName v l w h9 (by omega)
theorem iValN (z : Bool) (hz : validN l = z) (h : kN.At w V l) (hl : bulk l ≤ 9000000) :
    Calls Try.prog 82 #[V] w fun e w' => e = .returned (.bool z) ∧ Below w.heap.size w w' := by
  obtain ⟨v, rfl, h9⟩ := kN_at h
  exact hz ▸ implValidName v l w h9 (by omega)
end
end Go.Proofs.Ytdaahcaafdleaaa.Row
/- A name's text as the program keeps it under, in a map's key: the mathematics, its contract. No conditions but that lengths fit. -/
namespace Go.Proofs.Ytdaahcaafdleaaa.Row
open Go.ChangeShapes Go.WideShapes Go.ChangeAt Go.RowKit Go.Instr
set_option linter.unusedVariables false
set_option maxRecDepth 100000
theorem str_backN (s : ByteArray) : strOfNums (Sl.bytesOf s) = s := by
  obtain ⟨⟨d⟩⟩ := s
  unfold strOfNums Sl.bytesOf
  simp only [List.map_map]
  congr 1
  congr 1
  conv => rhs; rw [← List.map_id d]
  apply List.map_congr_left
  intro x hx
  simp only [Function.comp, id, Int.toNat_natCast, UInt8.ofNat_toNat]
theorem enc_app (n : Nat) : ∀ (m : Nat) (s t : List Int), Var.enc n ++ s = Var.enc m ++ t → n = m ∧ s = t := by
  induction n using Nat.strongRecOn with
  | ind n ih =>
    intro m s t h
    by_cases hn : n < 128
    · by_cases hm : m < 128
      · rw [Var.enc_small hn, Var.enc_small hm] at h
        simp only [List.cons_append, List.nil_append, List.cons.injEq] at h
        exact ⟨by omega, h.2⟩
      · rw [Var.enc_small hn, Var.enc_big hm] at h
        simp only [List.cons_append, List.nil_append, List.cons.injEq] at h
        exact absurd h.1 (by omega)
    · by_cases hm : m < 128
      · rw [Var.enc_big hn, Var.enc_small hm] at h
        simp only [List.cons_append, List.nil_append, List.cons.injEq] at h
        exact absurd h.1 (by omega)
      · rw [Var.enc_big hn, Var.enc_big hm] at h
        simp only [List.cons_append, List.cons.injEq] at h
        obtain ⟨e1, e2⟩ := ih (n / 128) (by omega) (m / 128) s t h.2
        exact ⟨by omega, e2⟩
theorem encPs_cons (s : ByteArray) (r : List ByteArray) : encPs (s :: r) = Var.var s.size ++ (Sl.bytesOf s ++ encPs r) := by simp [encPs]
def smN (l : List ByteArray) : Prop := ∀ x ∈ l, x.size ≤ 1000000000000
theorem smN_bulk {l : List ByteArray} (h : bulk l ≤ 9000000) : smN l := fun x hx => by
  obtain ⟨k, hk, rfl⟩ := List.getElem_of_mem hx
  have := size_bulk hk
  rw [nth_eq hk] at this
  omega
theorem encPs_inj : ∀ (l m : List ByteArray), smN l → smN m → encPs l = encPs m → l = m
  | [], [], _, _, _ => rfl
  | [], s :: r, _, hm, h => by
    rw [encPs_cons, Var.var_in (by omega) (by have := hm s (by simp); omega)] at h
    have h1 := congrArg List.length h
    have h2 := Var.enc_pos (s.size : Int).toNat
    simp only [List.length_append] at h1
    have h3 : (encPs []).length = 0 := rfl
    omega
  | s :: r, [], hl, _, h => by
    rw [encPs_cons, Var.var_in (by omega) (by have := hl s (by simp); omega)] at h
    have h1 := congrArg List.length h
    have h2 := Var.enc_pos (s.size : Int).toNat
    simp only [List.length_append] at h1
    have h3 : (encPs []).length = 0 := rfl
    omega
  | s :: r, t :: q, hl, hm, h => by
    rw [encPs_cons, encPs_cons, Var.var_in (by omega) (by have := hl s (by simp); omega), Var.var_in (by omega) (by have := hm t (by simp); omega)] at h
    obtain ⟨e1, e2⟩ := enc_app _ _ _ _ h
    have e3 : s.size = t.size := by omega
    obtain ⟨e4, e5⟩ := List.append_inj e2 (by rw [Sl.bytesOf_length, Sl.bytesOf_length, e3])
    have e6 : s = t := by rw [← str_backN s, ← str_backN t, e4]
    rw [e6, encPs_inj r q (fun x hx => hl x (by simp [hx])) (fun x hx => hm x (by simp [hx])) e5]
theorem encPs_byt : ∀ l : List ByteArray, Sl.Byt (encPs l)
  | [] => fun x hx => by simp [encPs] at hx
  | s :: r => fun x hx => by
    rw [encPs_cons] at hx
    rcases List.mem_append.1 hx with hx | hx
    · unfold Var.var at hx
      split at hx
      · exact Var.enc_byte _ x hx
      · simp at hx
    · rcases List.mem_append.1 hx with hx | hx
      · exact Sl.bytesOf_byt s x hx
      · exact encPs_byt r x hx
def txt (l : List ByteArray) : ByteArray := strOfNums (encPs l)
def kl (l : List ByteArray) : Lit := .string (txt l).data.toList
theorem bytes_inj : ∀ (a b : List Int), Sl.Byt a → Sl.Byt b → (a.map fun n => UInt8.ofNat n.toNat) = (b.map fun n => UInt8.ofNat n.toNat) → a = b
  | [], [], _, _, _ => rfl
  | [], _ :: _, _, _, h => by simp at h
  | _ :: _, [], _, _, h => by simp at h
  | x :: r, y :: s, ha, hb, h => by
    simp only [List.map_cons, List.cons.injEq] at h
    have h1 := ha x (by simp)
    have h2 := hb y (by simp)
    have h3 := congrArg UInt8.toNat h.1
    simp at h3
    have h4 : x = y := by omega
    rw [h4, bytes_inj r s (fun z hz => ha z (by simp [hz])) (fun z hz => hb z (by simp [hz])) h.2]
theorem kl_inj {l m : List ByteArray} (hl : smN l) (hm : smN m) (h : kl l = kl m) : l = m := by
  have h1 : (txt l).data.toList = (txt m).data.toList := by
    unfold kl at h
    injection h
  unfold txt at h1
  rw [strOfNums_data, strOfNums_data] at h1
  exact encPs_inj l m hl hm (bytes_inj _ _ (encPs_byt l) (encPs_byt m) (by simpa using h1))
theorem txt_size (l : List ByteArray) : (txt l).size ≤ 6 * bulk l := by
  have h := encPs_len l
  have e : (txt l).size = (encPs l).length := by
    show (txt l).data.size = _
    unfold txt
    have := congrArg List.length (strOfNums_data (encPs l))
    simpa using this
  omega
def heldV (v : Value) : Option (DataW Value × List MemPlace) := some (.held v, [])
theorem heldV_inj {v u : Value} {ps : List MemPlace} (h : heldV v = some (.held u, ps)) : v = u := by
  unfold heldV at h
  cases h
  rfl
theorem own_str {B : Nat} {w : World} {v : Value} {l : List Int} {s : ByteArray} (h : w.ownsRow B 5 1 v (l.length + s.size) (l.map (Value.int .u8) ++ Lib.strCells s)) : Sl.Own 5 .u8 B w v (l ++ Sl.bytesOf s) := by
  unfold Sl.Own
  have e : (l ++ Sl.bytesOf s).map (Value.int .u8) = l.map (Value.int .u8) ++ Lib.strCells s := by
    rw [List.map_append]
    unfold Sl.bytesOf Lib.strCells
    rw [List.map_map]
    rfl
  rw [e, List.length_append, Sl.bytesOf_length]
  exact h
set_option maxHeartbeats 2000000 in
theorem nameText (v : Value) (l : List ByteArray) (w : World) (h : Holds Value.string w v l) (hl : bulk l ≤ 9000000) :
    Calls Try.prog 84 #[.agg #[v]] w fun e w' => e = .returned (.string (txt l)) ∧ Below w.heap.size w w' := by
  obtain ⟨x, n, cap, rfl, hn, hcap, hh⟩ := h.shapeN
  obtain ⟨i0, hi, hz0, hz1, hz2⟩ := info_parts (show (Try.prog.info? 5).map (fun i => (i.zero, i.size, i.bytes)) = some (some (.int .u8 0), 1, 1) by kernel_rfl)
  have hb0 := (Below.refl w.heap.size w).alloc (Nat.le_refl _) (.cells #[.slice x n cap] 27)
  have hb1 := hb0.alloc (by simp) (.cells #[] 5)
  have HB1 := Lib.hid hb1
  have HH := Lib.hid hh
  have hoe := Sl.own_empty .u8 5 (w.alloc (.cells #[.slice x n cap] 27))
  rw [World.size_alloc] at hoe
  have HO0 := Lib.hid (show Sl.Own 5 .u8 w.heap.size ((w.alloc (.cells #[.slice x n cap] 27)).alloc (.cells #[] 5)) (.slice (some ⟨w.heap.size + 1, 0, none⟩) 0 0) (encPs (l.take 0)) from hoe.mono (Nat.le_succ _))
  have HN := Lib.hid hn
  have HL := Lib.hid hl
  have hnl : n ≤ 9000000 := by rw [hn]; exact Nat.le_trans (bulk_len l) hl
  have HI := Lib.hid hi; have HZ0 := Lib.hid hz0; have HZ1 := Lib.hid hz1; have HZ2 := Lib.hid hz2
  clear hh h hn hl hb0 hb1 hoe hi hz0 hz1 hz2
  go_enter Try.func84, Try.ntmps84
  go_wp2_with fail
  go_loopw [3, 10] (fun bv iv wr => ∃ k : Nat, k ≤ n ∧ iv = .int .i64 k ∧ Hid (Sl.Own 5 .u8 w.heap.size wr bv (encPs (l.take k))) ∧ Hid (Below w.heap.size w wr)) (fun _ iv _ => n - (intOf iv).toNat)
  case atStart => exact ⟨0, Nat.zero_le _, rfl, HO0, HB1⟩
  case round =>
    obtain ⟨k, hk, rfl, hO, hB⟩ := hrel
    by_cases hlt : k < n
    · obtain ⟨b0, off0, hy, hc⟩ := (HH.out.on hB.out).at (j := k) (by rw [← HN.out]; exact hlt)
      subst hy
      have hsz : (nth l k).size ≤ 9000000 := by
        have h2 := size_bulk (l := l) (k := k) (by rw [← HN.out]; exact hlt)
        have h3 := HL.out
        omega
      have hle : (encPs (l.take k)).length ≤ 54000000 := by
        have h1 := encPs_len (l.take k)
        have h2 := bulk_take_le l k
        have h3 := HL.out
        omega
      have HLE := Lib.hid hle
      have HNX := Lib.hid (encPs_next (l := l) (k := k) (by rw [← HN.out]; exact hlt))
      clear hle
      go_wp2_with fail
      refine (Sl.addVarint w.heap.size _ (encPs (l.take k)) (nth l k).size wr (Or.inl hO.out) hB.out.size (by have := HLE.out; omega) (by omega) (by omega)).mono ?_
      rintro e w1 ⟨v1, rfl, ho1, hb1⟩
      have HO1 := Lib.hid ho1
      have HB2 := Lib.hid (hB.out.trans hb1)
      have hvl := Var.var_len (nth l k).size
      clear ho1 hb1 hc
      go_wp2_with (at_builtin; refine Lib.wpList_append_own_string _ rfl _ _ 22 9 rfl w.heap.size 5 i0 Try.underlying22 Try.underlying9 HI.out HZ0.out HZ1.out HZ2.out _ _ _ rfl HO1.out (nth l k) rfl ?_ ?_ HB2.out.size ?_)
      · unfold maxLen; have := HLE.out; rw [List.length_append]; omega
      · have := HLE.out; rw [List.length_append]; omega
      intro v2 w2 ho2 hg2 _
      have HO2 := Lib.hid (show Sl.Own 5 .u8 w.heap.size w2 v2 (encPs (l.take (k + 1))) by
        have h9 := own_str (l := encPs (l.take k) ++ Var.var (nth l k).size) (s := nth l k) (by rw [List.length_append, List.map_append, List.append_assoc]; exact ho2)
        rw [HNX.out, ← List.append_assoc]
        exact h9)
      have HB3 := Lib.hid (HB2.out.grown hg2 HB2.out.size (fun g hg => (HO1.out.lt g hg).1))
      clear ho2 hg2
      go_wp2_with fail
      go_roundw
      case rel => exact ⟨k + 1, by omega, by go_num, HO2, HB3⟩
      case measure => simp [intOf]; omega
    · obtain rfl : k = n := by omega
      clear hlt
      have ho := hO.out
      rw [HN.out, List.take_length] at ho
      obtain ⟨x1, c1, rfl, -, hh1⟩ := ho.holds.shape
      have hcv := Sl.conv_holds hh1
      clear ho hh1
      go_wp2_with fail
      go_ret
      exact ⟨rfl, hB.out⟩
end Go.Proofs.Ytdaahcaafdleaaa.Row
/- Lists that lie as rows of the call's own: a part of a row, an element more, an append within the room, a clearing behind the end; closures while a row is written. For any kind and any program. No conditions but that lengths fit. -/
namespace Go.Proofs.Ytdaahcaafdleaaa.Row
open Go.ChangeShapes Go.WideShapes Go.ChangeAt Go.RowKit Go.Instr
set_option linter.unusedVariables false
set_option linter.unusedSectionVars false
set_option maxRecDepth 100000
theorem take_nx {α : Type} [Inhabited α] {l : List α} {k : Nat} (h : k < l.length) : l.take (k + 1) = l.take k ++ [nth l k] := by rw [List.take_succ_eq_append_getElem h, nth_eq h]
theorem filter_nx {α : Type} [Inhabited α] {p : α → Bool} {l : List α} {k : Nat} (h : k < l.length) (hp : p (nth l k) = true) : (l.take (k + 1)).filter p = (l.take k).filter p ++ [nth l k] := by
  rw [take_nx h, List.filter_append]; simp [hp]
theorem filter_sk {α : Type} [Inhabited α] {p : α → Bool} {l : List α} {k : Nat} (h : k < l.length) (hp : p (nth l k) = false) : (l.take (k + 1)).filter p = (l.take k).filter p := by
  rw [take_nx h, List.filter_append]; simp [hp]
section
variable {α M : Type} {k : Kd α M} {B C E E' : Nat} {e : TypeId} {w w' : World} {m : M}
theorem Kd.Own.upto (h : k.Own B w.heap.size w m) (hb : Below w.heap.size w w') : k.Own B w'.heap.size w' m := (h.on hb).mono (Nat.le_refl _) hb.size
theorem sub_flat {γ δ : Type} (f : γ → List δ) {l l' : List γ} (h : l'.Sublist l) : (l'.flatMap f).Sublist (l.flatMap f) := by
  induction h with
  | slnil => exact List.Sublist.refl _
  | cons a _ ih => rw [List.flatMap_cons]; exact ih.trans (List.sublist_append_right _ _)
  | cons_cons a _ ih => rw [List.flatMap_cons, List.flatMap_cons]; exact (List.Sublist.refl _).append ih
theorem Kd.sub (hN : k.NoRow e) {r : Rw M} (h : (k.slice e).Own B C w r) {L' : List M} (hs : L'.Sublist r.els) {row : Option Nat} (hg : w.grownBy w' row) (hr : ∀ g, row = some g → r.v.ownBlock = some g)
    {ad : Option Addr} {n cap : Nat} (ho : OwnK e k.cells k.size B w' (.slice ad n cap) L') : (k.slice e).Own B w'.heap.size w' ⟨ad, n, cap, L'⟩ := by
  have hnd : (r.v.ownBlock.toList ++ r.els.flatMap k.blocks).Nodup := h.2.1
  have hnd2 := List.nodup_append.1 hnd
  have hel : ∀ y ∈ L', k.own B w' y := fun y hy => k.own_keep (h.1.2 y (hs.subset hy)) (fun g hgy => hg.block g (k.own_lt (h.1.2 y (hs.subset hy)) g hgy).2 (fun er => hnd2.2.2 g (by rw [hr g er.symm]; simp) g (List.mem_flatMap.2 ⟨y, hs.subset hy, hgy⟩) rfl))
  refine ⟨⟨ho, hel⟩, ?_, fun g hgm => ?_⟩
  · show ((Rw.v ⟨ad, n, cap, L'⟩).ownBlock.toList ++ L'.flatMap k.blocks).Nodup
    rw [List.nodup_append]
    refine ⟨by cases (Rw.v ⟨ad, n, cap, L'⟩).ownBlock <;> simp, hnd2.2.1.sublist (sub_flat k.blocks hs), fun a ha b hb eab => ?_⟩
    obtain ⟨y, hy, hyb⟩ := List.mem_flatMap.1 hb
    obtain ⟨cs, hc⟩ := ho.row (g := a) (show (Value.slice ad n cap).ownBlock = some a from Option.mem_toList.1 ha)
    rw [eab] at hc
    exact hN B w' y (hel y hy) b hyb cs hc
  · rcases List.mem_append.1 (show g ∈ (Rw.v ⟨ad, n, cap, L'⟩).ownBlock.toList ++ L'.flatMap k.blocks from hgm) with hgm | hgm
    · exact (ho.lt g (show (Value.slice ad n cap).ownBlock = some g from Option.mem_toList.1 hgm)).2
    · obtain ⟨y, hy, hyb⟩ := List.mem_flatMap.1 hgm
      exact (k.own_lt (hel y hy) g hyb).2
end
section
variable {P : Program} {α : Type} {enc : α → List Value} {sz : Nat} {e t : TypeId} {bytes : Nat} {z : Value}
end
def ClosR {α M : Type} (P : Program) (k : Kd α M) (fid : FuncId) (cap : Array Value) (p : α → Bool) (ok : α → Prop) (w : World) (row : Option Nat) : Prop :=
  ∀ (x : α) (V : Value) (W : World), w.grownBy W row → k.At W V x → ok x → Calls P fid (#[V] ++ cap) W fun e w' => e = .returned (.bool (p x)) ∧ Below W.heap.size W w'
theorem ClosR.plain {α M : Type} {P : Program} {k : Kd α M} {fid : FuncId} {cap : Array Value} {p : α → Bool} {ok : α → Prop} {w : World} {row : Option Nat} (h : ClosR P k fid cap p ok w row) : ClosK P k fid cap p ok w := fun x V W hW => h x V W (Sl.grown_of_below hW row)
structure MidK {M : Type} [Inhabited M] (q : M → Bool) (L L' : List M) (i j : Nat) : Prop where
  len : L'.length = L.length
  head : L'.take i = (L.take j).filter q
  rest : ∀ r, j ≤ r → r < L.length → nth L' r = nth L r
  lt : i < j
theorem MidK.keep {M : Type} [Inhabited M] {q : M → Bool} {L L' : List M} {i j : Nat} (h : MidK q L L' i j) (hj : j < L.length) (hq : q (nth L j) = true) : MidK q L (L'.set i (nth L j)) (i + 1) (j + 1) := by
  have h1 := h.len
  have h2 := h.lt
  refine ⟨by simp [h1], ?_, fun r hr hr2 => ?_, by omega⟩
  · rw [List.take_succ_eq_append_getElem (by simp; omega), List.getElem_set_self, List.take_set_of_le (Nat.le_refl _), h.head, filter_nx hj hq]
  · rw [← h.rest r (by omega) hr2]
    simp only [nth, List.getD]
    rw [List.getElem?_set_ne (by omega)]
theorem MidK.skip {M : Type} [Inhabited M] {q : M → Bool} {L L' : List M} {i j : Nat} (h : MidK q L L' i j) (hj : j < L.length) (hq : q (nth L j) = false) : MidK q L L' i (j + 1) := by
  refine ⟨h.len, ?_, fun r hr hr2 => h.rest r (by omega) hr2, by have := h.lt; omega⟩
  rw [h.head, filter_sk hj hq]
theorem MidK.start {M : Type} [Inhabited M] {q : M → Bool} {L : List M} {i : Nat} (hi : i < L.length) (hn : ∀ j, j < i → q (nth L j) = true) (hp : q (nth L i) = false) : MidK q L L i (i + 1) := by
  refine ⟨rfl, ?_, fun r _ _ => rfl, by omega⟩
  rw [filter_sk hi hp]
  symm
  rw [List.filter_eq_self]
  intro x hx
  obtain ⟨j, hj, rfl⟩ := List.getElem_of_mem hx
  have hji : j < i := by simp at hj; omega
  have := hn j hji
  rw [nth_eq (by omega)] at this
  rw [List.getElem_take, this]
end Go.Proofs.Ytdaahcaafdleaaa.Row
/- Routes: what chapter 14's functions answer, as functions of lists. No conditions. -/
namespace Go.Proofs.Ytdaahcaafdleaaa.Row
open Go.ChangeShapes Go.WideShapes Go.ChangeAt Go.RowKit Go.Instr
set_option linter.unusedVariables false
set_option linter.unusedSectionVars false
set_option maxRecDepth 100000
def isRt (m : List ByteArray) (f : Int) (x : Rtt) : Bool := decide (x.2.1 = f) && decide (x.1 = m)
def fcRt (f : Int) (x : Rtt) : Bool := decide (x.2.1 = f)
def vRt (x : Rtt) : Bool := validN x.1 && (Num.inB x.2.1 1 6 && Num.inB x.2.2 0 1000)
def newRt (l : List Rtt) (k : Nat) : Bool := !(l.take k).any (isRt (nth l k).1 (nth l k).2.1)
def vldRt (l : List Rtt) : Nat → Bool
  | 0 => true
  | k + 1 => vldRt l k && (vRt (nth l k) && newRt l k)
def validRts (l : List Rtt) : Bool := vldRt l l.length && decide (l.length ≤ 24)
def chgRt (l : List Rtt) (r : Rtt) : List Rtt :=
  if 0 ≤ ixL (isRt r.1 r.2.1) l then l.set (ixL (isRt r.1 r.2.1) l).toNat ((nth l (ixL (isRt r.1 r.2.1) l).toNat).1, (nth l (ixL (isRt r.1 r.2.1) l).toNat).2.1, r.2.2) else l ++ [r]
def addRt (l : List Rtt) (r : Rtt) : List Rtt := if validRts (chgRt l r) = true then chgRt l r else l
def rmRt (l : List Rtt) (f : Int) : List Rtt := l.filter (fun x => !fcRt f x)
def mpI (l : List Rtt) (n : List ByteArray) : Nat → Int
  | 0 => -1
  | k + 1 => if hpB n (nth l k).1 = true ∧ (mpI l n k < 0 ∨ (nth l (mpI l n k).toNat).1.length < (nth l k).1.length) then (k : Int) else mpI l n k
def mpN (l : List Rtt) (n : List ByteArray) : List ByteArray := if mpI l n l.length < 0 then [] else (nth l (mpI l n l.length).toNat).1
def mpB (l : List Rtt) (n : List ByteArray) : Bool := decide (0 ≤ mpI l n l.length)
theorem mpI_lt (l : List Rtt) (n : List ByteArray) : ∀ k, -1 ≤ mpI l n k ∧ mpI l n k < k
  | 0 => by unfold mpI; omega
  | k + 1 => by
    have := mpI_lt l n k
    unfold mpI
    split <;> omega
def leRt (a b : Rtt) : Bool := decide (a.2.2 < b.2.2) || (decide (a.2.2 = b.2.2) && decide (a.2.1 ≤ b.2.1))
def putRt (r : Rtt) : List Rtt → List Rtt
  | [] => [r]
  | a :: l => if leRt a r = true then a :: putRt r l else r :: a :: l
def hopRs (l : List Rtt) (p : List ByteArray) : List Rtt := (l.filter (fun x => decide (x.1 = p))).foldl (fun s r => putRt r s) []
def hopsRt (l : List Rtt) (n : List ByteArray) : List Int := if mpB l n = true then (hopRs l (mpN l n)).map (fun x => x.2.1) else []
theorem vldRt_true {l : List Rtt} : ∀ {k : Nat}, vldRt l k = true ↔ ∀ j, j < k → vRt (nth l j) = true ∧ newRt l j = true
  | 0 => by simp [vldRt]
  | k + 1 => by
    unfold vldRt
    rw [Bool.and_eq_true, Bool.and_eq_true, vldRt_true (k := k)]
    constructor
    · rintro ⟨h1, h2⟩ j hj
      by_cases e : j = k
      · subst e; exact h2
      · exact h1 j (by omega)
    · intro h
      exact ⟨fun j hj => h j (by omega), h k (by omega)⟩
theorem vldRt_le {l : List Rtt} {k m : Nat} (h : vldRt l k = false) (hm : k ≤ m) : vldRt l m = false := by
  rw [Bool.eq_false_iff] at *
  intro h1
  exact h (vldRt_true.2 fun j hj => vldRt_true.1 h1 j (by omega))
def eachRt (l : List Rtt) (k : Nat) : Bool := (l.take k).all vRt
def numRt (l : List Rtt) : Nat → Nat
  | 0 => 0
  | k + 1 => if newRt l k = true then numRt l k + 1 else numRt l k
theorem numRt_le (l : List Rtt) : ∀ k, numRt l k ≤ k
  | 0 => Nat.le_refl _
  | k + 1 => by have := numRt_le l k; unfold numRt; split <;> omega
theorem numRt_eq {l : List Rtt} : ∀ {k : Nat}, numRt l k = k ↔ ∀ j, j < k → newRt l j = true
  | 0 => by simp [numRt]
  | k + 1 => by
    have h9 := numRt_le l k
    unfold numRt
    split
    · rename_i h
      constructor
      · intro e j hj
        by_cases e1 : j = k
        · subst e1; exact h
        · exact numRt_eq.1 (show numRt l k = k by omega) j (by omega)
      · intro e
        rw [numRt_eq.2 (fun j hj => e j (by omega))]
    · rename_i h
      constructor
      · intro e; omega
      · intro e; exact absurd (e k (by omega)) h
theorem all_take_iff {l : List Rtt} {k : Nat} (hk : k ≤ l.length) : (l.take k).all vRt = true ↔ ∀ j, j < k → vRt (nth l j) = true := by
  rw [List.all_eq_true]
  constructor
  · intro h j hj
    refine h _ ?_
    rw [nth_eq (by omega)]
    exact List.mem_take_iff_getElem.2 ⟨j, by omega, rfl⟩
  · intro h x hx
    obtain ⟨j, hj, rfl⟩ := List.mem_take_iff_getElem.1 hx
    have := h j (by omega)
    rwa [nth_eq (by omega)] at this
theorem validRts_eq (l : List Rtt) : validRts l = (eachRt l l.length && (decide (l.length ≤ 24) && decide (numRt l l.length = l.length))) := by
  rw [Bool.eq_iff_iff]
  unfold validRts eachRt
  simp only [Bool.and_eq_true, decide_eq_true_eq]
  rw [vldRt_true, all_take_iff (Nat.le_refl _), numRt_eq]
  constructor
  · rintro ⟨h1, h2⟩; exact ⟨fun j hj => (h1 j hj).1, h2, fun j hj => (h1 j hj).2⟩
  · rintro ⟨h1, h2, h3⟩; exact ⟨fun j hj => ⟨h1 j hj, h3 j hj⟩, h2⟩
theorem eachRt_no {l : List Rtt} {k : Nat} (hk : k < l.length) (h : vRt (nth l k) = false) : validRts l = false := by
  rw [validRts_eq]
  have : eachRt l l.length = false := by
    rw [Bool.eq_false_iff]
    intro h1
    have := (all_take_iff (Nat.le_refl _)).1 h1 k hk
    rw [h] at this
    cases this
  rw [this]; rfl
theorem eachRt_next {l : List Rtt} {k : Nat} (hk : k < l.length) (h : eachRt l k = true) (h1 : vRt (nth l k) = true) : eachRt l (k + 1) = true := by
  unfold eachRt at *
  refine (all_take_iff (by omega)).2 fun j hj => ?_
  by_cases e : j = k
  · subst e; exact h1
  · exact (all_take_iff (by omega)).1 h j (by omega)
def kR (m : List ByteArray) (f : Int) : Lit := .string (keyBytes [.string (txt m).data.toList, .int .i64 f])
def stRt (l : List Rtt) (D : DataW Value) (k : Nat) : DataW Value := if Maps.has D (kR (nth l k).1 (nth l k).2.1) then D else D.put (kR (nth l k).1 (nth l k).2.1) (.held (.int .i64 k))
def rtD (l : List Rtt) : Nat → DataW Value
  | 0 => .map []
  | k + 1 => stRt l (rtD l k) k
theorem kR_key (m : List ByteArray) (f : Int) : WideAt.IsKeyLit (kR m f) := trivial
theorem rtD_tidy (l : List Rtt) : ∀ k, Maps.Tidy (rtD l k)
  | 0 => Maps.tidy_empty
  | k + 1 => by
    unfold rtD stRt
    split
    · exact rtD_tidy l k
    · exact (rtD_tidy l k).put (kR_key _ _) _
def InjR (ok : List ByteArray → Int → Prop) : Prop := ∀ m f m' f', ok m f → ok m' f' → kR m f = kR m' f' → m = m' ∧ f = f'
theorem isRt_iff {m : List ByteArray} {f : Int} {x : Rtt} : isRt m f x = true ↔ x.1 = m ∧ x.2.1 = f := by
  unfold isRt; rw [Bool.and_eq_true, decide_eq_true_eq, decide_eq_true_eq]; exact and_comm
theorem take_any {l : List Rtt} {k : Nat} (hk : k < l.length) (p : Rtt → Bool) : (l.take (k + 1)).any p = ((l.take k).any p || p (nth l k)) := by
  rw [take_nx hk, List.any_append]; simp
theorem rtD_has {ok : List ByteArray → Int → Prop} (hI : InjR ok) {l : List Rtt} (hl : ∀ x ∈ l, ok x.1 x.2.1) {m : List ByteArray} {f : Int} (hm : ok m f) : ∀ k, k ≤ l.length → Maps.has (rtD l k) (kR m f) = (l.take k).any (isRt m f)
  | 0, _ => by simp [rtD, Maps.has]
  | k + 1, hk => by
    have ih := rtD_has hI hl hm k (by omega)
    have ho := hl (nth l k) (nth_mem (by omega))
    have ihk := rtD_has hI hl ho k (by omega)
    rw [take_any (by omega)]
    unfold rtD stRt
    by_cases e : isRt m f (nth l k) = true
    · obtain ⟨e1, e2⟩ := isRt_iff.1 e
      rw [e, Bool.or_true, e1, e2]
      split
      · rename_i h; exact h
      · exact Maps.has_put_same (rtD_tidy l k).isMap (kR_key _ _) _
    · have hne : kR m f ≠ kR (nth l k).1 (nth l k).2.1 := fun h => by
        obtain ⟨e1, e2⟩ := hI _ _ _ _ hm ho h
        exact e (isRt_iff.2 ⟨e1.symm, e2.symm⟩)
      rw [Bool.eq_false_iff.2 e, Bool.or_false, ← ih]
      split
      · rfl
      · exact Maps.has_put_other hne _
theorem ixL_snoc {p : Rtt → Bool} {l : List Rtt} {x : Rtt} : ixL p (l ++ [x]) = if 0 ≤ ixL p l then ixL p l else if p x = true then (l.length : Int) else -1 := by
  rcases ixL_cases p l with ⟨e, h⟩ | ⟨k, hk, e, hc, h⟩
  · rw [e, if_neg (by omega)]
    have hn : ∀ j, j < l.length → p (nth (l ++ [x]) j) = false := fun j hj => by
      have := h j hj
      rw [nth_eq hj] at this
      rw [nth_eq (by simp; omega), List.getElem_append_left hj]; exact this
    have hx : nth (l ++ [x]) l.length = x := by rw [nth_eq (by simp)]; simp
    split
    · rename_i hp
      exact ixL_at (by simp) hn (by rw [hx]; exact hp)
    · rename_i hp
      refine ixL_none fun j hj => ?_
      by_cases e1 : j = l.length
      · subst e1; rw [hx]; simpa using hp
      · exact hn j (by simp at hj; omega)
  · rw [e, if_pos (by omega)]
    have hj : ∀ j, j < l.length → nth (l ++ [x]) j = nth l j := fun j hj => by rw [nth_eq (by simp; omega), List.getElem_append_left hj, nth_eq hj]
    exact ixL_at (by simp; omega) (fun j hj' => by rw [hj j (by omega)]; exact h j hj') (by rw [hj k hk]; exact hc)
theorem rtD_at {ok : List ByteArray → Int → Prop} (hI : InjR ok) {l : List Rtt} (hl : ∀ x ∈ l, ok x.1 x.2.1) {m : List ByteArray} {f : Int} (hm : ok m f) (z : DataW Value) : ∀ k, k ≤ l.length → (rtD l k).atKey (kR m f) z = if 0 ≤ ixL (isRt m f) (l.take k) then .held (.int .i64 (ixL (isRt m f) (l.take k))) else z
  | 0, _ => by simp [rtD, DataW.atKey, ixL]
  | k + 1, hk => by
    have ih := rtD_at hI hl hm z k (by omega)
    have ho := hl (nth l k) (nth_mem (by omega))
    have hh := rtD_has hI hl hm k (by omega)
    rw [any_ixL] at hh
    rw [take_nx (by omega), ixL_snoc]
    unfold rtD stRt
    by_cases e : isRt m f (nth l k) = true
    · obtain ⟨e1, e2⟩ := isRt_iff.1 e
      rw [e1, e2, hh]
      by_cases h0 : 0 ≤ ixL (isRt m f) (l.take k)
      · rw [if_pos (by simpa using h0), ih]
        simp only [if_pos h0]
      · rw [if_neg (by simpa using h0), if_neg h0, if_pos e, Maps.atKey_put_same (rtD_tidy l k).isMap (kR_key _ _)]
        rw [List.length_take, Nat.min_eq_left (by omega), if_pos (by omega)]
    · have hne : kR m f ≠ kR (nth l k).1 (nth l k).2.1 := fun h => by
        obtain ⟨e1, e2⟩ := hI _ _ _ _ hm ho h
        exact e (isRt_iff.2 ⟨e1.symm, e2.symm⟩)
      have hr : (if 0 ≤ ixL (isRt m f) (l.take k) then ixL (isRt m f) (l.take k) else if isRt m f (nth l k) = true then ((l.take k).length : Int) else -1) = ixL (isRt m f) (l.take k) := by
        rw [if_neg e]
        split
        · rfl
        · rename_i h; rcases ixL_lt (isRt m f) (l.take k) with h1 | h1 <;> omega
      rw [hr, ← ih]
      split
      · rfl
      · exact Maps.atKey_put_other hne _ _
theorem rtD_size {ok : List ByteArray → Int → Prop} (hI : InjR ok) {l : List Rtt} (hl : ∀ x ∈ l, ok x.1 x.2.1) : ∀ k, k ≤ l.length → Maps.size (rtD l k) = numRt l k
  | 0, _ => rfl
  | k + 1, hk => by
    have ih := rtD_size hI hl k (by omega)
    have ho := hl (nth l k) (nth_mem (by omega))
    have hh := rtD_has hI hl ho k (by omega)
    unfold rtD stRt numRt newRt
    rw [hh]
    cases he : (l.take k).any (isRt (nth l k).1 (nth l k).2.1)
    · rw [if_neg (by simp), if_pos (by simp), Maps.size_put (rtD_tidy l k), hh, he, ih]; simp
    · rw [if_pos rfl, if_neg (by simp), ih]
def facesTo (d : List Rtt) (p : List ByteArray) (k : Nat) : List Int := ((d.take k).filter (fun x => decide (x.1 = p))).map (fun x => x.2.1)
def hopTo (l : List Rtt) (p : List ByteArray) (k : Nat) : List Rtt := hopRs (l.take k) p
end Go.Proofs.Ytdaahcaafdleaaa.Row
/- An element of a list of routes and its parts; contracts of the names in letters. No conditions but that lengths fit. -/
namespace Go.Proofs.Ytdaahcaafdleaaa.Row
open Go.ChangeShapes Go.WideShapes Go.ChangeAt Go.RowKit Go.Instr
set_option linter.unusedVariables false
set_option maxRecDepth 100000
theorem kRt_parts {w : World} {x0 : Option Addr} {n0 c0 : Nat} {u v : Int} {x : Rtt} (h : kRt.At w (.agg #[.slice x0 n0 c0, .int .i64 u, .int .i64 v]) x) : kN.At w (.agg #[.slice x0 n0 c0]) x.1 := by
  obtain ⟨a0, b0, d0, e, h0⟩ := kRt_at h
  simp only [Value.agg.injEq, Array.mk.injEq, List.cons.injEq, Value.slice.injEq, Value.int.injEq, and_true, true_and] at e
  obtain ⟨⟨rfl, rfl, rfl⟩, rfl, rfl⟩ := e
  exact h0
theorem noRow_kNr (e : TypeId) (h1 : 9 ≠ e) : kN.NoRow e := (Kd.NoRow.slice (e' := 9) Kd.noRow_scalar h1).wrap
theorem noRow_kRt : kRt.NoRow 53 := (noRow_kNr _ (by decide)).pair (Kd.noRow_scalar.pair Kd.noRow_scalar)
theorem kN_lenR {w : World} {x : Option Addr} {n c : Nat} {l : List ByteArray} (h : kN.At w (.agg #[.slice x n c]) l) : l.length = n := by
  obtain ⟨v, e, h9⟩ := kN_at h
  cases e
  obtain ⟨x', n', c', e, hn, -, -⟩ := h9.shapeN
  cases e
  exact hn.symm
theorem sInR {n a b : Int} (z : Bool) (hz : Num.inB n a b = z) {w : World} : Calls Try.prog 52 #[.int .i64 n, .int .i64 a, .int .i64 b] w fun e w' => e = .returned (.bool z) ∧ Below w.heap.size w w' := (Num.specIn n a b w).mono fun e w' ⟨p, q⟩ => ⟨by rw [p, hz], by subst q; exact Below.refl _ _⟩
theorem iInR {n a b : Int} (z : Bool) (hz : Num.inB n a b = z) {w : World} : Calls Try.prog 83 #[.int .i64 n, .int .i64 a, .int .i64 b] w fun e w' => e = .returned (.bool z) ∧ Below w.heap.size w w' := (Num.implInRange n a b w).mono fun e w' ⟨p, q⟩ => ⟨by rw [p, hz], by subst q; exact Below.refl _ _⟩
theorem sHpN {l m : List ByteArray} {V U : Value} {w : World} (z : Bool) (hz : hpB l m = z) (h : kN.At w V l) (g : kN.At w U m) (hl : bulk l ≤ 9000000) (hm : bulk m ≤ 9000000) :
    Calls Try.prog 65 #[V, U] w fun e w' => e = .returned (.bool z) ∧ Below w.heap.size w w' := by
  obtain ⟨v, rfl, h9⟩ := kN_at h
  obtain ⟨u, rfl, g9⟩ := kN_at g
  subst hz
  exact specHasPrefix v u l m w h9 g9 (Nat.le_trans (bulk_len l) (Nat.le_trans hl (by decide))) (Nat.le_trans (bulk_len m) (Nat.le_trans hm (by decide)))
theorem iHpN {l m : List ByteArray} {V U : Value} {w : World} (z : Bool) (hz : hpB l m = z) (h : kN.At w V l) (g : kN.At w U m) (hl : bulk l ≤ 9000000) (hm : bulk m ≤ 9000000) :
    Calls Try.prog 67 #[V, U] w fun e w' => e = .returned (.bool z) ∧ Below w.heap.size w w' := by
  obtain ⟨v, rfl, h9⟩ := kN_at h
  obtain ⟨u, rfl, g9⟩ := kN_at g
  subst hz
  exact implHasPrefix v u l m w h9 g9 (Nat.le_trans (bulk_len l) (Nat.le_trans hl (by decide))) (Nat.le_trans (bulk_len m) (Nat.le_trans hm (by decide)))
theorem kLRt_take {w : World} {x : Option Addr} {n cap k : Nat} {l : List Rtt} (h : kLRt.At w (.slice x n cap) l) (hk : k ≤ l.length) : kLRt.At w (.slice x k cap) (l.take k) := by
  obtain ⟨ad, n', cap', L, e, hn, rfl, hh, hel⟩ := kLRt_at h
  cases e
  rw [List.length_map] at hk
  exact ⟨⟨x, k, cap, L.take k⟩, rfl, by show (L.take k).map kRt.strip = _; rw [List.map_take], hh.take szRt_cells hk, fun y hy => hel y (List.mem_of_mem_take hy)⟩
def FitRt (l : List Rtt) : Prop := bulkK wtRt l ≤ 1100000
theorem FitRt.len {l : List Rtt} (h : FitRt l) : l.length ≤ 1100000 := Nat.le_trans (bulkK_len wtRt l) h
theorem FitRt.len9 {l : List Rtt} (h : FitRt l) : l.length ≤ 9000000 := Nat.le_trans h.len (by decide)
theorem FitRt.each {l : List Rtt} (h : FitRt l) : ∀ e ∈ l, bulk e.1 ≤ 1200000 := fun e he => Nat.le_trans (bulkK_mem (f := wtRt) he) (Nat.le_trans h (by decide))
end Go.Proofs.Ytdaahcaafdleaaa.Row
/- One element as a literal, what is beneath it: for any kind. No conditions. -/
namespace Go.Proofs.Ytdaahcaafdleaaa.Row
open Go.ChangeShapes Go.WideShapes Go.ChangeAt Go.RowKit Go.Instr
set_option linter.unusedVariables false
set_option maxRecDepth 100000
theorem one_k {α M : Type} {k : Kd α M} (hs : Sz k.cells k.size) {e : TypeId} {W : World} {m : M} {cs : List Value} (hd : k.cells m = cs) : HoldsK k.cells k.size (W.alloc (.cells cs.toArray e)) (.slice (some ⟨W.heap.size, 0, none⟩) 1 1) [m] := by
  subst hd
  exact holdsK_one hs e W m
theorem one_kg {α M : Type} {k : Kd α M} (hs : Sz k.cells k.size) {e : TypeId} {W : World} {m : M} {cs : List Value} {g : Nat} (hd : k.cells m = cs) (hg : g = W.heap.size) : HoldsK k.cells k.size (W.alloc (.cells cs.toArray e)) (.slice (some ⟨g, 0, none⟩) 1 1) [m] := by
  subst hg
  exact one_k hs hd
theorem Kd.Own.top {α M : Type} {k : Kd α M} {B E : Nat} {w : World} {m : M} (h : k.Own B E w m) : ∀ g ∈ k.blocks m, g < w.heap.size := fun g hg => (h.lt g hg).2.2
theorem Kd.Own.cap {α M : Type} {k : Kd α M} {B E : Nat} {w : World} {m : M} (h : k.Own B E w m) : k.Own B w.heap.size w m := ⟨h.1, h.2.1, fun g hg => (h.lt g hg).2.2⟩
theorem kN_splitP {B E : Nat} {w : World} {V : Value} {x : List ByteArray} (h : kN.In B E w V x) : ∃ (m1 : Rw ByteArray) (ya : Option Addr) (ma da : Nat), V = .agg #[.slice ya ma da] ∧ kN.strip m1 = x ∧ kN.cells m1 = [.slice ya ma da] ∧ kN.Own B E w m1 := by
  obtain ⟨m1, rfl, rfl, ho⟩ := h.split
  obtain ⟨ya, ma, da, e, -⟩ := kN_shapeA (Kd.at_of (k := kN) ho.holds)
  exact ⟨m1, ya, ma, da, e, rfl, by injection e with e; exact congrArg Array.toList e, ho⟩
end Go.Proofs.Ytdaahcaafdleaaa.Row
/- Copies of routes and of lists of them, model and program. No conditions but that lengths fit. -/
namespace Go.Proofs.Ytdaahcaafdleaaa.Row
open Go.ChangeShapes Go.WideShapes Go.ChangeAt Go.RowKit Go.Instr
set_option linter.unusedVariables false
set_option maxRecDepth 100000
theorem rt_join {B E : Nat} {w : World} {m1 : Rw ByteArray} {u v : Int} (h : kN.Own B E w m1) (N : Nat) (h1 : ∀ g ∈ kN.blocks m1, g < N) : kRt.Own B N w ((m1, u, v) : Rtm) := by
  have hn : kN.Own B N w m1 := ⟨h.1, h.2.1, h1⟩
  exact Kd.Own.join hn (Kd.Own.join (Kd.own_scalar _ _ _ _) (Kd.own_scalar _ _ _ _) (fun q h _ => by cases h)) (fun q _ h => by cases h)
theorem kRt_split {B E : Nat} {w : World} {V : Value} {x : Rtt} (h : kRt.In B E w V x) : ∃ (mm : Rtm) (ya : Option Addr) (ma da : Nat), V = .agg #[.slice ya ma da, .int .i64 x.2.1, .int .i64 x.2.2] ∧ kRt.strip mm = x ∧ kRt.cells mm = [.slice ya ma da, .int .i64 x.2.1, .int .i64 x.2.2] ∧ kRt.Own B E w mm := by
  obtain ⟨m1, rfl, rfl, ho⟩ := h.split
  obtain ⟨ya, ma, da, e, -⟩ := kRt_shapeA (Kd.at_of (k := kRt) ho.holds)
  exact ⟨m1, ya, ma, da, e, rfl, by injection e with e; exact congrArg Array.toList e, ho⟩
set_option maxHeartbeats 4000000 in
theorem iCloneRt (V : Value) (x : Rtt) (w : World) (h : kRt.At w V x) (hp : bulk x.1 ≤ 1200000) :
    Calls Try.prog 59 #[V] w fun e w' => ∃ U, e = .returned U ∧ kRt.In w.heap.size w'.heap.size w' U x ∧ Below w.heap.size w w' := by
  obtain ⟨x0, n0, c0, rfl, h⟩ := kRt_shapeA h
  have hN := kRt_parts h
  obtain ⟨nm, rf, rc⟩ := x
  simp only at hN hp ⊢
  have hal := (Below.refl w.heap.size w).alloc (Nat.le_refl _) (.cells #[.slice x0 n0 c0, .int .i64 rf, .int .i64 rc] 53)
  have hb1 := hal.alloc (by simp) (.cells #[.slice none 0 0, .int .i64 0, .int .i64 0] 53)
  have HB := Lib.hid hb1; have HN := Lib.hid (hN.on hb1)
  have X0 := Lib.hid ((Ret.Blk.new w #[.slice x0 n0 c0, .int .i64 rf, .int .i64 rc] 53).on ((Below.refl _ _).alloc (Nat.le_refl _) (.cells #[.slice none 0 0, .int .i64 0, .int .i64 0] 53)))
  have X1 := Lib.hid (Ret.Blk.new' (w := w.alloc (.cells #[.slice x0 n0 c0, .int .i64 rf, .int .i64 rc] 53)) (n := w.heap.size + 1) #[.slice none 0 0, .int .i64 0, .int .i64 0] 53 (by simp))
  have hz0 : ((w.alloc (.cells #[.slice x0 n0 c0, .int .i64 rf, .int .i64 rc] 53)).alloc (.cells #[.slice none 0 0, .int .i64 0, .int .i64 0] 53)).heap.size = w.heap.size + 2 := by simp
  clear h hN hal hb1
  go_enter Try.func59, Try.ntmps59
  go_wp2_with fail
  refine (iCpyN HN.out (by omega)).mono ?_
  rintro e w1 ⟨U, rfl, hi, hb⟩
  obtain ⟨m1, za, na, ea, rfl, hs1, hd1, ho1⟩ := kN_splitP hi
  have hs0 := hb.size
  rw [hz0] at ho1 hs0; clear hz0
  have Y0 := Lib.hid (X0.out.on hb); have Y1 := Lib.hid (X1.out.on hb); have HB1 := Lib.hid (HB.out.trans (hb.mono HB.out.size)); have HO := Lib.hid ho1; have HS1 := Lib.hid hs1; have HD1 := Lib.hid hd1
  clear hi hb ho1 hs1 hd1 X0 X1
  have r0 : w1.cell? ⟨w.heap.size, 0, none⟩ = some (.slice x0 n0 c0) := Y0.out.cell 0
  have r1 : w1.cell? ⟨w.heap.size, 1, none⟩ = some (.int .i64 rf) := Y0.out.cell 1
  have r2 : w1.cell? ⟨w.heap.size, 2, none⟩ = some (.int .i64 rc) := Y0.out.cell 2
  have s0 : w1.cell? ⟨w.heap.size + 1, 0, none⟩ = some (.slice none 0 0) := Y1.out.cell 0
  have s1 : w1.cell? ⟨w.heap.size + 1, 1, none⟩ = some (.int .i64 0) := Y1.out.cell 1
  have s2 : w1.cell? ⟨w.heap.size + 1, 2, none⟩ = some (.int .i64 0) := Y1.out.cell 2
  have t0 := Y1.out.frozen 0; have t1 := Y1.out.frozen 1; have t2 := Y1.out.frozen 2
  have k0_ := Y0.out.frozen 0
  have Z1 := Lib.hid ((((Y1.out.other (a := ⟨w.heap.size, 0, none⟩) (by simp) (.slice za na ea)).set 0 (.slice za na ea)).set 1 (.int .i64 rf)).set 2 (.int .i64 rc))
  have Z2 := Lib.hid (Kd.Own.set (g := w.heap.size + 1) (i := 2) (u := .int .i64 rc) (Kd.Own.set (g := w.heap.size + 1) (i := 1) (u := .int .i64 rf) (Kd.Own.set (g := w.heap.size + 1) (i := 0) (u := .slice za na ea) (Kd.Own.set (g := w.heap.size) (i := 0) (u := .slice za na ea) HO.out (by omega)) (by omega)) (by omega)) (by omega))
  have Z3 := Lib.hid ((((HB1.out.setCell (p := ⟨w.heap.size, 0, none⟩) (by simp) (.slice za na ea)).setCell (p := ⟨w.heap.size + 1, 0, none⟩) (by simp) (.slice za na ea)).setCell (p := ⟨w.heap.size + 1, 1, none⟩) (by simp) (.int .i64 rf)).setCell (p := ⟨w.heap.size + 1, 2, none⟩) (by simp) (.int .i64 rc))
  clear Y0 Y1
  go_wp2_with fail
  refine bodyPost_ret (Ret.results_c rfl _ _ (w.heap.size + 1) [.slice za na ea, .int .i64 rf, .int .i64 rc] rfl aggRt Z1.out.cells) rfl ?_
  have hval : kRt.val (m1, rf, rc) = .agg #[.slice za na ea, .int .i64 rf, .int .i64 rc] := by
    show Value.agg ((kN.cells m1 ++ (kInt.cells rf ++ (kInt.cells rc)))).toArray = _
    rw [HD1.out]
    rfl
  have hstr : kRt.strip (m1, rf, rc) = (nm, rf, rc) := Prod.ext HS1.out (Prod.ext rfl rfl)
  refine ⟨_, rfl, ?_, Z3.out⟩
  rw [← hval, ← hstr]
  refine Kd.Own.in ?_
  have Z4 := Z2.out.mono (B' := w.heap.size) (by omega) (Nat.le_refl _)
  exact rt_join Z4 _ (by simp only [World.size_setCell]; exact fun g hg => (Z4.lt g hg).2.1)
set_option maxRecDepth 100000 in
set_option maxHeartbeats 4000000 in
theorem rtm {Q : Exit → Act → World → Prop} {v1 v2 v6 v7 v8 v9 v10 v11 v12 v13 v14 v15 v16 v17 v18 v19 v20 v21 v22 v23 v24 v25 v26 v27 v28 v29 v30 v31 v32 v33 v34 : Value} {w : World} {Lu : List Rtm} {B nu cu : Nat} {xu : Option Addr} (HBW : Hid (B ≤ w.heap.size)) (HLM : Hid (Lu.length ≤ 1100000)) {p b off n c k n0 c0 E1 C1 : Nat} {x0 : Option Addr} {rf rc : Int} {nm : List ByteArray} {m1 : Rw ByteArray} (hk : k < n) (hkc : k ≤ c) (hn : n ≤ 9000000) (HOL : Hid (kLRt.Own B C1 w ⟨xu, nu, cu, Lu⟩)) (HC0 : Hid (B ≤ C1)) (HPR : Hid (some p ≠ (Value.slice xu nu cu).ownBlock)) (HBR : Hid (some b ≠ (Value.slice xu nu cu).ownBlock)) (ON : Hid (kN.Own C1 E1 w m1)) (HS1 : Hid (kN.strip m1 = nm)) (HD1 : Hid (kN.cells m1 = [.slice x0 n0 c0])) (K0 : Hid (w.cell? ⟨p, 0, none⟩ = some (.slice x0 n0 c0))) (K1 : Hid (w.cell? ⟨b, off + k * 3 + 1, none⟩ = some (.int .i64 rf))) (K2 : Hid (w.cell? ⟨b, off + k * 3 + 2, none⟩ = some (.int .i64 rc)))
  (hQ : ∀ (u19 u20 u21 u22 u23 u24 u25 u26 u27 u28 u29 u30 u31 u32 u33 : Value) (x4 : Option Addr) (n4 c4 : Nat) (mm : Rtm)  (wx : World), Hid (kRt.strip mm = (nm, rf, rc)) → Hid (kLRt.Own B wx.heap.size wx ⟨x4, n4, c4, Lu ++ [mm]⟩) → Below B w wx → Q .normal ⟨#[.slice (some ⟨b, off, none⟩) n c, v1, v2, .slice x4 n4 c4, .int .i64 k, .pointer (some ⟨p, 0, none⟩), v6, v7, v8, v9, v10, v11, v12, v13, v14, v15, v16, v17, v18, u19, u20, u21, u22, u23, u24, u25, u26, u27, u28, u29, u30, u31, u32, u33, v34], []⟩ wx) :
  (Code.region 6 #[⟨some 19, .move (.tmp 3), 42, "l14_route.go:27", #[], none⟩,
   ⟨some 20, .load 27 (.tmp 5), 27, "l14_route.go:27", #[], none⟩,
   ⟨some 21, .move (.tmp 0), 42, "l14_route.go:27", #[], none⟩,
   ⟨some 22, .move (.tmp 4), 3, "l14_route.go:27", #[], none⟩,
   ⟨some 23, .indexAddr 42 (.tmp 21) (.tmp 22), 0, "l14_route.go:27", #[⟨2, .data⟩, ⟨3, .data⟩], none⟩,
   ⟨some 24, .fieldAddr 53 (.tmp 23) 1, 0, "l14_route.go:27", #[⟨4, .data⟩], none⟩,
   ⟨some 25, .load 3 (.tmp 24), 3, "l14_route.go:27", #[⟨5, .data⟩], none⟩,
   ⟨some 26, .move (.tmp 0), 42, "l14_route.go:27", #[], none⟩,
   ⟨some 27, .move (.tmp 4), 3, "l14_route.go:27", #[], none⟩,
   ⟨some 28, .indexAddr 42 (.tmp 26) (.tmp 27), 0, "l14_route.go:27", #[⟨7, .data⟩, ⟨8, .data⟩], none⟩,
   ⟨some 29, .fieldAddr 53 (.tmp 28) 2, 0, "l14_route.go:27", #[⟨9, .data⟩], none⟩,
   ⟨some 30, .load 3 (.tmp 29), 3, "l14_route.go:27", #[⟨10, .data⟩], none⟩,
   ⟨some 31, .build 53 #[(0, .tmp 20), (1, .tmp 25), (2, .tmp 30)], 53, "l14_route.go:27", #[⟨1, .data⟩, ⟨6, .data⟩, ⟨11, .data⟩], none⟩,
   ⟨some 32, .buildSlice 42 1 #[(0, .tmp 31)], 42, "l14_route.go:27", #[⟨12, .data⟩], none⟩,
   ⟨some 33, .call ⟨.builtin .append, #[.tmp 19, .tmp 32], #[42, 42]⟩, 42, "l14_route.go:27", #[⟨0, .data⟩, ⟨13, .data⟩], none⟩,
   ⟨some 3, .assign (.tmp 33), 42, "l14_route.go:27", #[⟨14, .data⟩, ⟨14, .chain⟩, ⟨0, .phase⟩, ⟨1, .phase⟩, ⟨2, .phase⟩, ⟨3, .phase⟩, ⟨4, .phase⟩, ⟨5, .phase⟩, ⟨6, .phase⟩, ⟨7, .phase⟩, ⟨8, .phase⟩, ⟨9, .phase⟩, ⟨10, .phase⟩, ⟨11, .phase⟩, ⟨12, .phase⟩, ⟨13, .phase⟩, ⟨14, .phase⟩], none⟩] true).wp Try.prog Q ⟨#[.slice (some ⟨b, off, none⟩) n c, v1, v2, .slice xu nu cu, .int .i64 k, .pointer (some ⟨p, 0, none⟩), v6, v7, v8, v9, v10, v11, v12, v13, v14, v15, v16, v17, v18, v19, v20, v21, v22, v23, v24, v25, v26, v27, v28, v29, v30, v31, v32, v33, v34], []⟩ w := by
 have HQ := Lib.hid hQ; clear hQ
 have hdr : Below w.heap.size w w.drew := (Below.refl _ _).drew
 have BB := Lib.hid hdr
 have BX := Lib.hid (BB.out.mono HBW.out)
 refine wp_region_noPanic ?_
 refine wp_region_held_drew (S := (fun w' => w'.cell? ⟨p, 0, none⟩ = some (.slice x0 n0 c0) ∧ w'.cell? ⟨b, off + k * 3 + 1, none⟩ = some (.int .i64 rf) ∧ w'.cell? ⟨b, off + k * 3 + 2, none⟩ = some (.int .i64 rc))) (by kernel_rfl) ?_ (fun hHeld => ?_)
 ·
  exact ⟨kc K0.out BB.out, kc K1.out BB.out, kc K2.out BB.out⟩
 clear hdr
 generalize w.drew = wd at *
 refine wpAnyH_take (i := 0) (oi := ⟨some 19, .move (.tmp 3), 42, "l14_route.go:27", #[], none⟩) (v := ?_) rfl (by kernel_rfl) (by kernel_rfl) (by kernel_rfl) (fun _ _ _ h => h) (Or.inl ⟨by rfl, ?_⟩) (by assumption) ?_
 rotate_left
 ·
  intro w' hSw; (try dsimp only at hSw); first | (go_simp; done) | (go_simp; with_reducible rfl)
 (try simp only [Act.put, Row.pB0, Row.pB1, Row.pB2])
 refine wpAnyH_take (i := 1) (oi := ⟨some 20, .load 27 (.tmp 5), 27, "l14_route.go:27", #[], none⟩) (v := ?_) rfl (by kernel_rfl) (by kernel_rfl) (by kernel_rfl) (fun _ _ _ h => h) (Or.inl ⟨by rfl, ?_⟩) (by assumption) ?_
 rotate_left
 ·
  intro w' hSw; (try dsimp only at hSw); first | (go_simp; done) | (go_simp; with_reducible rfl)
 (try simp only [Act.put, Row.pB0, Row.pB1, Row.pB2])
 refine wpAnyH_take (i := 2) (oi := ⟨some 21, .move (.tmp 0), 42, "l14_route.go:27", #[], none⟩) (v := ?_) rfl (by kernel_rfl) (by kernel_rfl) (by kernel_rfl) (fun _ _ _ h => h) (Or.inl ⟨by rfl, ?_⟩) (by assumption) ?_
 rotate_left
 ·
  intro w' hSw; (try dsimp only at hSw); first | (go_simp; done) | (go_simp; with_reducible rfl)
 (try simp only [Act.put, Row.pB0, Row.pB1, Row.pB2])
 refine wpAnyH_take (i := 3) (oi := ⟨some 22, .move (.tmp 4), 3, "l14_route.go:27", #[], none⟩) (v := ?_) rfl (by kernel_rfl) (by kernel_rfl) (by kernel_rfl) (fun _ _ _ h => h) (Or.inl ⟨by rfl, ?_⟩) (by assumption) ?_
 rotate_left
 ·
  intro w' hSw; (try dsimp only at hSw); first | (go_simp; done) | (go_simp; with_reducible rfl)
 (try simp only [Act.put, Row.pB0, Row.pB1, Row.pB2])
 refine wpAnyH_take (i := 4) (oi := ⟨some 23, .indexAddr 42 (.tmp 21) (.tmp 22), 0, "l14_route.go:27", #[⟨2, .data⟩, ⟨3, .data⟩], none⟩) (v := ?_) rfl (by kernel_rfl) (by kernel_rfl) (by kernel_rfl) (fun _ _ _ h => h) (Or.inl ⟨by rfl, ?_⟩) (by assumption) ?_
 rotate_left
 ·
  intro w' hSw; (try dsimp only at hSw); first | (go_simp; done) | (go_simp; with_reducible rfl)
 (try simp only [Act.put, Row.pB0, Row.pB1, Row.pB2])
 refine wpAnyH_take (i := 5) (oi := ⟨some 24, .fieldAddr 53 (.tmp 23) 1, 0, "l14_route.go:27", #[⟨4, .data⟩], none⟩) (v := ?_) rfl (by kernel_rfl) (by kernel_rfl) (by kernel_rfl) (fun _ _ _ h => h) (Or.inl ⟨by rfl, ?_⟩) (by assumption) ?_
 rotate_left
 ·
  intro w' hSw; (try dsimp only at hSw); first | (go_simp; done) | (go_simp; with_reducible rfl)
 (try simp only [Act.put, Row.pB0, Row.pB1, Row.pB2])
 refine wpAnyH_take (i := 6) (oi := ⟨some 25, .load 3 (.tmp 24), 3, "l14_route.go:27", #[⟨5, .data⟩], none⟩) (v := ?_) rfl (by kernel_rfl) (by kernel_rfl) (by kernel_rfl) (fun _ _ _ h => h) (Or.inl ⟨by rfl, ?_⟩) (by assumption) ?_
 rotate_left
 ·
  intro w' hSw; (try dsimp only at hSw); first | (go_simp; done) | (go_simp; with_reducible rfl)
 (try simp only [Act.put, Row.pB0, Row.pB1, Row.pB2])
 refine wpAnyH_take (i := 7) (oi := ⟨some 26, .move (.tmp 0), 42, "l14_route.go:27", #[], none⟩) (v := ?_) rfl (by kernel_rfl) (by kernel_rfl) (by kernel_rfl) (fun _ _ _ h => h) (Or.inl ⟨by rfl, ?_⟩) (by assumption) ?_
 rotate_left
 ·
  intro w' hSw; (try dsimp only at hSw); first | (go_simp; done) | (go_simp; with_reducible rfl)
 (try simp only [Act.put, Row.pB0, Row.pB1, Row.pB2])
 refine wpAnyH_take (i := 8) (oi := ⟨some 27, .move (.tmp 4), 3, "l14_route.go:27", #[], none⟩) (v := ?_) rfl (by kernel_rfl) (by kernel_rfl) (by kernel_rfl) (fun _ _ _ h => h) (Or.inl ⟨by rfl, ?_⟩) (by assumption) ?_
 rotate_left
 ·
  intro w' hSw; (try dsimp only at hSw); first | (go_simp; done) | (go_simp; with_reducible rfl)
 (try simp only [Act.put, Row.pB0, Row.pB1, Row.pB2])
 refine wpAnyH_take (i := 9) (oi := ⟨some 28, .indexAddr 42 (.tmp 26) (.tmp 27), 0, "l14_route.go:27", #[⟨7, .data⟩, ⟨8, .data⟩], none⟩) (v := ?_) rfl (by kernel_rfl) (by kernel_rfl) (by kernel_rfl) (fun _ _ _ h => h) (Or.inl ⟨by rfl, ?_⟩) (by assumption) ?_
 rotate_left
 ·
  intro w' hSw; (try dsimp only at hSw); first | (go_simp; done) | (go_simp; with_reducible rfl)
 (try simp only [Act.put, Row.pB0, Row.pB1, Row.pB2])
 refine wpAnyH_take (i := 10) (oi := ⟨some 29, .fieldAddr 53 (.tmp 28) 2, 0, "l14_route.go:27", #[⟨9, .data⟩], none⟩) (v := ?_) rfl (by kernel_rfl) (by kernel_rfl) (by kernel_rfl) (fun _ _ _ h => h) (Or.inl ⟨by rfl, ?_⟩) (by assumption) ?_
 rotate_left
 ·
  intro w' hSw; (try dsimp only at hSw); first | (go_simp; done) | (go_simp; with_reducible rfl)
 (try simp only [Act.put, Row.pB0, Row.pB1, Row.pB2])
 refine wpAnyH_take (i := 11) (oi := ⟨some 30, .load 3 (.tmp 29), 3, "l14_route.go:27", #[⟨10, .data⟩], none⟩) (v := ?_) rfl (by kernel_rfl) (by kernel_rfl) (by kernel_rfl) (fun _ _ _ h => h) (Or.inl ⟨by rfl, ?_⟩) (by assumption) ?_
 rotate_left
 ·
  intro w' hSw; (try dsimp only at hSw); first | (go_simp; done) | (go_simp; with_reducible rfl)
 (try simp only [Act.put, Row.pB0, Row.pB1, Row.pB2])
 refine wpAnyH_take (i := 12) (oi := ⟨some 31, .build 53 #[(0, .tmp 20), (1, .tmp 25), (2, .tmp 30)], 53, "l14_route.go:27", #[⟨1, .data⟩, ⟨6, .data⟩, ⟨11, .data⟩], none⟩) (v := ?_) rfl (by kernel_rfl) (by kernel_rfl) (by kernel_rfl) (fun _ _ _ h => h) (Or.inl ⟨by rfl, ?_⟩) (by assumption) ?_
 rotate_left
 ·
  intro w' hSw; (try dsimp only at hSw); first | (go_simp; done) | (go_simp; with_reducible rfl)
 (try simp only [Act.put, Row.pB0, Row.pB1, Row.pB2])
 refine wpAnyH_ready (rs := [13]) (by kernel_rfl) (by simp) ?_
 refine AllReadyH.cons (o := ⟨some 32, .buildSlice 42 1 #[(0, .tmp 31)], 42, "l14_route.go:27", #[⟨12, .data⟩], none⟩) rfl (fun K hK => ?_) AllReadyH.nil
 go_simp
 have hb : Below wd.heap.size wd (wd.alloc (.cells #[.slice x0 n0 c0, .int .i64 (rf), .int .i64 (rc)] 53)) := (Below.refl _ _).alloc (Nat.le_refl _) _
 have HSO := Lib.hid (one_k (k := kRt) szRt_cells (e := 53) (W := wd) (m := ((m1, rf, rc) : Rtm)) (cs := [.slice x0 n0 c0, .int .i64 (rf), .int .i64 (rc)]) (by show kN.cells m1 ++ (kInt.cells (rf) ++ kInt.cells (rc)) = _; rw [HD1.out]; rfl))
 have HMM := Lib.hid ((rt_join (u := rf) (v := rc) (ON.out.on BB.out) wd.heap.size (ON.out.on BB.out).top).on hb)
 replace BB := Lib.hid (BB.out.trans (hb.mono BB.out.size))
 replace BX := Lib.hid (BX.out.trans (hb.mono (Nat.le_trans HBW.out BX.out.size)))
 clear hb
 generalize wd.alloc (.cells #[.slice x0 n0 c0, .int .i64 (rf), .int .i64 (rc)] 53) = wn1 at *
 clear hHeld
 refine hK.out _ _ ?_ (fun hHeld => ?_)
 ·
  (try dsimp only); exact ⟨kc K0.out BB.out, kc K1.out BB.out, kc K2.out BB.out⟩
 clear hK K
 (try simp only [Act.put, Row.pB0, Row.pB1, Row.pB2])
 refine wpAnyH_ready (rs := [14]) (by kernel_rfl) (by simp) ?_
 refine AllReadyH.cons (o := ⟨some 33, .call ⟨.builtin .append, #[.tmp 19, .tmp 32], #[42, 42]⟩, 42, "l14_route.go:27", #[⟨0, .data⟩, ⟨13, .data⟩], none⟩) rfl (fun K hK => ?_) AllReadyH.nil
 refine step_appK kindRt (B := B) (v := .slice xu nu cu) (l := Lu) (m := [((m1, rf, rc) : Rtm)]) rfl _ _ (by rfl) Try.underlying42 (by rfl) (by rfl) ?_ ?_ ?_ ?_ ?_ ?_
 ·
  exact (HOL.out.on BB.out).1.1
 ·
  exact HSO.out
 ·
  have h5 := HLM.out; simp; omega
 ·
  have h5 := HLM.out; unfold maxLen; simp; omega
 ·
  exact Nat.le_trans HBW.out BB.out.size
 intro v4 wn2 ho4 hg4
 obtain ⟨x4, n4, c4, rfl, -, -, ho4⟩ := ho4.shapeN
 have HO4 := Lib.hid (Kd.push_later noRow_kRt (r := ⟨xu, nu, cu, Lu⟩) (HOL.out.on BB.out) HMM.out HC0.out ho4 hg4)
 replace BX := Lib.hid (BX.out.grown hg4 (Nat.le_trans HBW.out BX.out.size) (fun g e => ((HOL.out.on BB.out).1.1.lt g e).1))
 have k0_ := hg4.cell (kc K0.out BB.out) HPR.out
 have k1_ := hg4.cell (kc K1.out BB.out) HBR.out
 have k2_ := hg4.cell (kc K2.out BB.out) HBR.out
 clear ho4 hg4
 clear hHeld
 refine hK.out _ _ ?_ (fun hHeld => ?_)
 ·
  (try dsimp only); exact ⟨k0_, k1_, k2_⟩
 clear hK K k0_ k1_ k2_
 (try simp only [Act.put, Row.pB0, Row.pB1, Row.pB2])
 refine wpAnyH_take (i := 15) (oi := ⟨some 3, .assign (.tmp 33), 42, "l14_route.go:27", #[⟨14, .data⟩, ⟨14, .chain⟩, ⟨0, .phase⟩, ⟨1, .phase⟩, ⟨2, .phase⟩, ⟨3, .phase⟩, ⟨4, .phase⟩, ⟨5, .phase⟩, ⟨6, .phase⟩, ⟨7, .phase⟩, ⟨8, .phase⟩, ⟨9, .phase⟩, ⟨10, .phase⟩, ⟨11, .phase⟩, ⟨12, .phase⟩, ⟨13, .phase⟩, ⟨14, .phase⟩], none⟩) (v := ?_) rfl (by kernel_rfl) (by kernel_rfl) (by kernel_rfl) (fun _ _ _ h => h) (Or.inl ⟨by rfl, ?_⟩) (by assumption) ?_
 rotate_left
 ·
  intro w' hSw; (try dsimp only at hSw); first | (go_simp; done) | (go_simp; with_reducible rfl)
 (try simp only [Act.put, Row.pB0, Row.pB1, Row.pB2])
 refine wpAnyH_done (by kernel_rfl) ?_ _
 exact NoPanic.normal (HQ.out _ _ _ _ _ _ _ _ _ _ _ _ _ _ _ x4 n4 c4 (m1, rf, rc) _ (Lib.hid (by show (kN.strip m1, rf, rc) = _; rw [HS1.out])) HO4 BX.out)
set_option maxHeartbeats 8000000 in
theorem iCopyRt (V : Value) (l : List Rtt) (w : World) (h : kLRt.At w V l) (hf : FitRt l) :
    Calls Try.prog 57 #[V] w fun e w' => ∃ U, e = .returned U ∧ kLRt.In w.heap.size w'.heap.size w' U l ∧ Below w.heap.size w w' := by
  have hl := hf.len
  have hp := hf.each
  obtain ⟨x, n, cx, L, rfl, hn, ht, hh, hel⟩ := kLRt_at h
  have hlen : l.length = n := by rw [← ht, List.length_map]; exact hn.symm
  rw [hlen] at hl
  have hcap : n ≤ cx := by obtain ⟨x', n', cap', hv, hn', hc', -⟩ := hh.shapeN; cases hv; exact hc'
  have HN := Lib.hid hn; have HT := Lib.hid ht; have HH := Lib.hid hh; have HEL := Lib.hid hel; have HLEN := Lib.hid hlen; have HP := Lib.hid hp
  clear hn ht hh hel hlen hp h
  obtain ⟨i0, hi, hz0, hz1, hz2⟩ := info_parts kindRt.elem
  have HI := Lib.hid hi; have HZ0 := Lib.hid hz0; have HZ1 := Lib.hid hz1; have HZ2 := Lib.hid hz2
  clear hi hz0 hz1 hz2
  go_enter Try.func57, Try.ntmps57
  go_wp2_with (at_make; refine wpList_make_own _ rfl _ _ 42 rfl w.heap.size 53 i0 (.agg #[.slice none 0 0, .int .i64 0, .int .i64 0]) 3 Try.underlying42 HI.out HZ0.out HZ1.out _ _ _ n rfl rfl rfl (by rw [HZ2.out]; omega) (by unfold maxLen; omega) (Nat.le_refl _) ?_)
  intro w9 hown hgrow
  have HB := Lib.hid ((Below.refl w.heap.size w).grown hgrow (Nat.le_refl _) (fun g hg => by cases hg))
  have HO := Lib.hid (show kLRt.Own w.heap.size w9.heap.size w9 ⟨some ⟨w.heap.size, 0, none⟩, 0, n, []⟩ from Kd.own_row hown rfl)
  clear hown hgrow HI HZ0 HZ1 HZ2
  go_wp2
  go_loopw [3, 11] (fun uv iv wr => ∃ k : Nat, k ≤ n ∧ iv = .int .i64 k ∧ ∃ xu nu cu Lu, uv = .slice xu nu cu ∧ Hid (Lu.length = k) ∧ Hid (Lu.map kRt.strip = l.take k) ∧ Hid (kLRt.Own w.heap.size wr.heap.size wr ⟨xu, nu, cu, Lu⟩) ∧ Hid (Below w.heap.size w wr)) (fun _ iv _ => n - (intOf iv).toNat)
  case atStart => exact ⟨0, Nat.zero_le _, rfl, some ⟨w.heap.size, 0, none⟩, 0, n, [], rfl, Lib.hid rfl, Lib.hid (by simp), HO, HB⟩
  case round =>
    clear HO HB
    obtain ⟨k, hk, rfl, xu, nu, cu, Lu, rfl, hM, hst, ho, hb⟩ := hrel
    by_cases hlt : k < n
    · have hlen := HN.out
      obtain ⟨b, off, y0, m0, d0, rfl, -, hc0, hc1, hc2, hA⟩ := kLRt_elem (HH.out.on hb.out) (fun y hy => kRt.holds_on (HEL.out y hy) hb.out) (j := k) (by omega)
      have hpt : nth l k = kRt.strip (nth L k) := by rw [← HT.out, nth_map _ (by omega)]
      have hps := HP.out (nth l k) (nth_mem (by have := HLEN.out; omega))
      rw [← hpt] at hA hc1 hc2
      have hNM := kRt_parts hA
      obtain ⟨nm, rf, rc, hx⟩ : ∃ nm rf rc, nth l k = (nm, rf, rc) := ⟨_, _, _, rfl⟩
      rw [hx] at hNM hps hc1 hc2 hA
      have HA := Lib.hid hA; have HNM := Lib.hid hNM; have HPN := Lib.hid hps; have HXE := Lib.hid hx
      simp only at hc1 hc2
      have H0 := Lib.hid hc0; have H1 := Lib.hid hc1; have H2 := Lib.hid hc2
      clear hlen hpt hps hA hNM hx
      have hal := (Below.refl wr.heap.size wr).alloc (Nat.le_refl _) (.cells #[.slice y0 m0 d0, .int .i64 rf, .int .i64 rc] 53)
      have HXB := Lib.hid (Ret.Blk.new wr #[.slice y0 m0 d0, .int .i64 rf, .int .i64 rc] 53)
      have HA2 := Lib.hid (HA.out.on hal); have HOL := Lib.hid (ho.out.upto hal); have hb2 := Lib.hid (hb.out.trans (hal.mono hb.out.size))
      clear hal
      have q0 := HXB.out.cell 0; have q1 := HXB.out.cell 1; have q2 := HXB.out.cell 2
      go_wp2_with fail
      clear hc0 hc1 hc2 q0 q1 q2
      refine (iCloneRt _ _ _ HA2.out HPN.out).mono ?_
      rintro e w5 ⟨U, rfl, hi5, hb5⟩
      obtain ⟨mm, za, na, ea, rfl, hs5, hd5, ho5⟩ := kRt_split hi5
      simp only at hd5
      have hal := (Below.refl w5.heap.size w5).alloc (Nat.le_refl _) (.cells #[.slice za na ea, .int .i64 rf, .int .i64 rc] 53)
      have HSO := Lib.hid (one_k (k := kRt) szRt_cells (e := 53) (W := w5) (m := mm) hd5)
      have HBC := Lib.hid hb2.out.size
      have hb6 := hb5.trans (hal.mono hb5.size)
      have HMM := Lib.hid (ho5.on hal); have HOL2 := Lib.hid (HOL.out.on hb6); have HB3 := Lib.hid (hb2.out.trans (hb6.mono hb2.out.size)); have HS5 := Lib.hid hs5
      have HLM := Lib.hid (show Lu.length ≤ 1100000 by have := hM.out; omega)
      clear hi5 hd5 ho5 hb5 hb6 hal hs5
      go_wp2_with (at_builtin; refine wpList_appK kindRt (B := w.heap.size) (l := Lu) (m := [mm]) rfl _ _ rfl Try.underlying42 rfl rfl HOL2.out.1.1 HSO.out (by have := HLM.out; simp; omega) (by have := HLM.out; unfold maxLen; simp; omega) HB3.out.size ?_)
      intro v4 w4 ho4 hg4
      obtain ⟨x4, n4, c4, rfl, -, -, ho4⟩ := ho4.shapeN
      have HO4 := Lib.hid (Kd.push_later noRow_kRt (r := ⟨xu, nu, cu, Lu⟩) HOL2.out HMM.out HBC.out ho4 hg4)
      have HB4 := Lib.hid (HB3.out.grown hg4 HB3.out.size (fun g e => (HOL2.out.1.1.lt g e).1))
      have HST := Lib.hid (show (Lu ++ [mm]).map kRt.strip = l.take (k + 1) by
        rw [List.map_append, hst.out, take_nx (by have := HLEN.out; omega), HXE.out]
        show _ ++ [kRt.strip mm] = _
        rw [HS5.out])
      clear ho4 hg4
      go_wp2
      go_roundw
      case rel => exact ⟨k + 1, by omega, by go_num, x4, n4, c4, Lu ++ [mm], rfl, Lib.hid (by have := hM.out; simp; omega), HST, HO4, HB4⟩
      case measure => simp [intOf]; omega
    · obtain rfl : k = n := by omega
      clear hlt
      have HE := Lib.hid (show Lu.map kRt.strip = l by rw [hst.out, List.take_of_length_le (by rw [HLEN.out]; exact Nat.le_refl _)])
      go_wp2
      go_ret
      exact ⟨_, rfl, HE.out ▸ (show kLRt.In _ _ _ (.slice xu nu cu) (Lu.map kRt.strip) from ho.out.in), hb.out⟩
set_option maxHeartbeats 8000000 in
theorem sCopyRt (V : Value) (l : List Rtt) (w : World) (h : kLRt.At w V l) (hf : FitRt l) :
    Calls Try.prog 56 #[V] w fun e w' => ∃ U, e = .returned U ∧ kLRt.In w.heap.size w'.heap.size w' U l ∧ Below w.heap.size w w' := by
  have hl := hf.len
  have hp := hf.each
  obtain ⟨x, n, cx, L, rfl, hn, ht, hh, hel⟩ := kLRt_at h
  have hlen : l.length = n := by rw [← ht, List.length_map]; exact hn.symm
  rw [hlen] at hl
  have hcap : n ≤ cx := by obtain ⟨x', n', cap', hv, hn', hc', -⟩ := hh.shapeN; cases hv; exact hc'
  have HN := Lib.hid hn; have HT := Lib.hid ht; have HH := Lib.hid hh; have HEL := Lib.hid hel; have HLEN := Lib.hid hlen; have HP := Lib.hid hp
  clear hn ht hh hel hlen hp h
  have hown := ownK_empty kRt.cells 3 53 w
  have HB := Lib.hid ((Below.refl w.heap.size w).alloc (Nat.le_refl _) (.cells #[] 53))
  have HO := Lib.hid (show kLRt.Own w.heap.size (w.alloc (.cells #[] 53)).heap.size _ ⟨some ⟨w.heap.size, 0, none⟩, 0, 0, []⟩ from Kd.own_row hown rfl)
  clear hown
  go_enter Try.func56, Try.ntmps56
  go_wp2
  go_loopw [3, 4] (fun uv iv wr => ∃ k : Nat, k ≤ n ∧ iv = .int .i64 k ∧ ∃ xu nu cu Lu, uv = .slice xu nu cu ∧ Hid (Lu.length = k) ∧ Hid (Lu.map kRt.strip = l.take k) ∧ Hid (kLRt.Own w.heap.size wr.heap.size wr ⟨xu, nu, cu, Lu⟩) ∧ Hid (Below w.heap.size w wr)) (fun _ iv _ => n - (intOf iv).toNat)
  case atStart => exact ⟨0, Nat.zero_le _, rfl, some ⟨w.heap.size, 0, none⟩, 0, 0, [], rfl, Lib.hid rfl, Lib.hid (by simp), HO, HB⟩
  case round =>
    clear HO HB
    obtain ⟨k, hk, rfl, xu, nu, cu, Lu, rfl, hM, hst, ho, hb⟩ := hrel
    by_cases hlt : k < n
    · have hlen := HN.out
      obtain ⟨b, off, y0, m0, d0, rfl, -, hc0, hc1, hc2, hA⟩ := kLRt_elem (HH.out.on hb.out) (fun y hy => kRt.holds_on (HEL.out y hy) hb.out) (j := k) (by omega)
      have hpt : nth l k = kRt.strip (nth L k) := by rw [← HT.out, nth_map _ (by omega)]
      have hps := HP.out (nth l k) (nth_mem (by have := HLEN.out; omega))
      rw [← hpt] at hA hc1 hc2
      have hNM := kRt_parts hA
      obtain ⟨nm, rf, rc, hx⟩ : ∃ nm rf rc, nth l k = (nm, rf, rc) := ⟨_, _, _, rfl⟩
      rw [hx] at hNM hps hc1 hc2 hA
      have HA := Lib.hid hA; have HNM := Lib.hid hNM; have HPN := Lib.hid hps; have HXE := Lib.hid hx
      simp only at hc1 hc2
      have H0 := Lib.hid hc0; have H1 := Lib.hid hc1; have H2 := Lib.hid hc2
      clear hlen hpt hps hA hNM hx
      go_wp2_with fail
      refine (sCpyN HNM.out (Nat.le_trans HPN.out (by decide))).mono ?_
      rintro e w5 ⟨U, rfl, hi5, hb5⟩
      obtain ⟨m5, za, na, ea, rfl, hs5, hd5, ho5⟩ := kN_splitP hi5
      have hal := (Below.refl w5.heap.size w5).alloc (Nat.le_refl _) (.cells #[.slice za na ea] 27)
      have hbl := hb5.trans (hal.mono hb5.size)
      have hbw := Ret.cell_lt H0.out
      obtain ⟨b9, off9, y9, m9, d9, e9, -, hw9, -⟩ := kLRt_elem HH.out (fun y hy => HEL.out y hy) (j := k) (by have := HN.out; omega)
      cases e9
      have hbw0 : b < w.heap.size := Ret.cell_lt hw9
      have HXB := Lib.hid (Ret.Blk.new w5 #[.slice za na ea] 27)
      have HPL := Lib.hid (fun e => by have h5 := (ho.out.1.1.lt _ (Eq.symm e)).2; have h6 := hb5.size; omega : some w5.heap.size ≠ (Value.slice xu nu cu).ownBlock)
      have HBR := Lib.hid (fun e => by have h5 := (ho.out.1.1.lt _ (Eq.symm e)).1; omega : some b ≠ (Value.slice xu nu cu).ownBlock)
      have HOL := Lib.hid (ho.out.on hbl); have hb2 := Lib.hid (hb.out.trans (hbl.mono hb.out.size)); have HON := Lib.hid (ho5.on hal); have HS5 := Lib.hid hs5; have HD5 := Lib.hid hd5
      have HBW := Lib.hid (show w.heap.size ≤ (w5.alloc (.cells #[.slice za na ea] 27)).heap.size from hb2.out.size)
      have HC0 := Lib.hid hb.out.size
      have HLM := Lib.hid (show Lu.length ≤ 1100000 by have := hM.out; omega)
      have C1 := Lib.hid (kc H1.out hbl); have C2 := Lib.hid (kc H2.out hbl)
      clear hal hbl hi5 hb5 hs5 hd5 ho5 hbw hbw0 hw9 hc0 hc1 hc2
      go_wp2_with fail
      refine rtm (B := w.heap.size) (Lu := Lu) HBW HLM hlt (by omega) (by omega) HOL HC0 HPL HBR HON HS5 HD5 (Lib.hid (HXB.out.cell 0)) C1 C2 ?_
      intro u19 u20 u21 u22 u23 u24 u25 u26 u27 u28 u29 u30 u31 u32 u33 x4 n4 c4 mm wx hs4 ho4 hbx
      have HB4 := Lib.hid (hb2.out.trans hbx)
      have HO4 := ho4
      have HST := Lib.hid (show (Lu ++ [mm]).map kRt.strip = l.take (k + 1) by
        rw [List.map_append, hst.out, take_nx (by have := HLEN.out; omega), HXE.out]
        show _ ++ [kRt.strip mm] = _
        rw [hs4.out])
      clear hbx hs4 ho4
      go_wp2
      go_roundw
      case rel => exact ⟨k + 1, by omega, by go_num, x4, n4, c4, Lu ++ [mm], rfl, Lib.hid (by have := hM.out; simp; omega), HST, HO4, HB4⟩
      case measure => simp [intOf]; omega
    · obtain rfl : k = n := by omega
      clear hlt
      have HE := Lib.hid (show Lu.map kRt.strip = l by rw [hst.out, List.take_of_length_le (by rw [HLEN.out]; exact Nat.le_refl _)])
      go_wp2
      go_ret
      exact ⟨_, rfl, HE.out ▸ (show kLRt.In _ _ _ (.slice xu nu cu) (Lu.map kRt.strip) from ho.out.in), hb.out⟩
end Go.Proofs.Ytdaahcaafdleaaa.Row
/- The program's map from a prefix and a face: the key's type, the key of a route. No conditions but that lengths fit. -/
namespace Go.Proofs.Ytdaahcaafdleaaa.Row
open Go.ChangeShapes Go.WideShapes Go.ChangeAt Go.RowKit Go.Instr Go.WideMaps
set_option linter.unusedVariables false
set_option maxRecDepth 100000
theorem laidR : laidOutB Try.prog = true := by kernel_rfl
theorem rowKeyR : (93 : TypeId) < Try.prog.types.size := of_decide_eq_true (by kernel_rfl)
theorem wideKeyR : (match Try.prog.underlying 93 with | some (.array _ _) | some (.struct _) => true | _ => false) = true := by kernel_rfl
theorem lawKeyR : Maps.Keyed Try.prog 93 := Maps.Keyed.of_law (deep_law_laid laidR (m := 3) (by omega) rowKeyR (by kernel_rfl) wideKeyR)
theorem keyTypeR : Try.prog.keyType 93 = true := by kernel_rfl
theorem typesR : ∃ d, Try.prog.types.size = d + 1 := by
  have h := rowKeyR
  exact ⟨_, (Nat.succ_pred_eq_of_pos (Nat.lt_of_le_of_lt (Nat.zero_le _) h)).symm⟩
theorem keyLitsR (d : Nat) (s : ByteArray) (f : Int) (hs : s.size ≤ maxLen) (hf : (Lit.int .i64 f).wf = true) : Try.prog.keyLits (d + 2) 93 [.string s, .int .i64 f] = some [.string s.data.toList, .int .i64 f] := by
  have hc : Try.prog.cellsOf 93 = 2 := by kernel_rfl
  have hc1 : Try.prog.cellsOf 9 = 1 := by kernel_rfl
  have hc2 : Try.prog.cellsOf 3 = 1 := by kernel_rfl
  simp [Program.keyLits, Try.underlying93, Try.underlying9, Try.underlying3, hc, hc1, hc2, hs, hf]
theorem keyOfR {s : ByteArray} {f : Int} (hs : s.size ≤ maxLen) (hf : (Lit.int .i64 f).wf = true) : keyOf Try.prog 93 (.agg #[.string s, .int .i64 f]) = some (.string (keyBytes [.string s.data.toList, .int .i64 f])) := by
  obtain ⟨d, hd⟩ := typesR
  have h := keyLitsR d s f hs hf
  have hc : Try.prog.cellsOf 93 = 2 := by kernel_rfl
  have hfm : (Value.agg #[.string s, .int .i64 f]).formed Try.prog 93 = true := by
    simp [Value.formed, Try.underlying93, hc]
  unfold keyOf
  rw [Try.underlying93]
  simp only [keyTypeR, hfm, Bool.and_self, if_true, hd]
  rw [show (Value.agg #[.string s, .int .i64 f]).cells.toList = [.string s, .int .i64 f] from rfl, h]
  rfl
def okKR (m : List ByteArray) (f : Int) : Prop := bulk m ≤ 9000000 ∧ (Lit.int .i64 f).wf = true
theorem keyR {m : List ByteArray} {f : Int} (h : okKR m f) : keyOf Try.prog 93 (.agg #[.string (txt m), .int .i64 f]) = some (kR m f) := keyOfR (by have := txt_size m; have := h.1; unfold maxLen; omega) h.2
theorem injKR : InjR okKR := fun m f m' f' h h' e => by
  have h1 := keyR h
  have h2 := keyR h'
  rw [← e] at h2
  have h3 := lawKeyR.inj h1 h2
  simp only [Value.agg.injEq, Array.mk.injEq, List.cons.injEq, Value.string.injEq, Value.int.injEq, and_true, true_and] at h3
  have h4 : kl m = kl m' := by unfold kl; rw [h3.1]
  exact ⟨kl_inj (smN_bulk h.1) (smN_bulk h'.1) h4, h3.2⟩
end Go.Proofs.Ytdaahcaafdleaaa.Row
/- The first route with each prefix and face: the model finds it, the program keeps it in a map. No conditions but that lengths fit. -/
namespace Go.Proofs.Ytdaahcaafdleaaa.Row
open Go.ChangeShapes Go.WideShapes Go.ChangeAt Go.RowKit Go.Instr
set_option linter.unusedVariables false
set_option maxRecDepth 100000
set_option maxRecDepth 100000 in
set_option maxHeartbeats 4000000 in
theorem rtf0 {Q : Exit → Act → World → Prop} {v1 v3 v5 v6 v8 v9 v10 v11 v12 v13 v14 v15 v16 v17 v18 v19 v20 v21 v22 v23 v24 v25 v26 v27 v28 v29 v30 : Value} {w : World} {b off n c g k : Nat}   {rf sd : Int}    (hk : k < n) (hkc : k ≤ c) (hn : n ≤ 9000000) (ht : (rf == sd) = false) (K1 : Hid (w.cell? ⟨b, off + k * 3 + 1, none⟩ = some (.int .i64 rf)))
  (hQ : ∀ (u14 u15 u16 u17 u18 u19 u20 u21 u22 u23 u24 u25 u26 u27 u28 : Value)  (wx : World), Below w.heap.size w wx → Q .normal ⟨#[.slice (some ⟨b, off, none⟩) n c, v1, .int .i64 sd, v3, .pointer (some ⟨g, 0, none⟩), v5, v6, .int .i64 k, v8, v9, v10, v11, v12, v13, u14, u15, u16, u17, u18, u19, u20, u21, u22, u23, u24, u25, u26, u27, u28, .bool false, v30], []⟩ wx) :
  (Code.region 4 #[⟨some 14, .move (.tmp 0), 42, "l14_route.go:7", #[], none⟩,
   ⟨some 15, .move (.tmp 7), 3, "l14_route.go:7", #[], none⟩,
   ⟨some 16, .indexAddr 42 (.tmp 14) (.tmp 15), 0, "l14_route.go:7", #[⟨0, .data⟩, ⟨1, .data⟩], none⟩,
   ⟨some 17, .fieldAddr 53 (.tmp 16) 1, 0, "l14_route.go:7", #[⟨2, .data⟩], none⟩,
   ⟨some 18, .load 3 (.tmp 17), 3, "l14_route.go:7", #[⟨3, .data⟩], none⟩,
   ⟨some 19, .move (.tmp 2), 3, "l14_route.go:7", #[], none⟩,
   ⟨some 20, .binOp BinOp.eql 3 (.tmp 18) (.tmp 19) 3, 4, "l14_route.go:7", #[⟨4, .data⟩, ⟨5, .data⟩], none⟩,
   ⟨some 21, .move (.tmp 20), 4, "l14_route.go:7", #[⟨6, .data⟩], none⟩,
   ⟨some 22, .move (.tmp 0), 42, "l14_route.go:7", #[⟨7, .guard⟩], some (7, true)⟩,
   ⟨some 23, .move (.tmp 7), 3, "l14_route.go:7", #[⟨7, .guard⟩], some (7, true)⟩,
   ⟨some 24, .indexAddr 42 (.tmp 22) (.tmp 23), 0, "l14_route.go:7", #[⟨8, .data⟩, ⟨9, .data⟩, ⟨7, .guard⟩], some (7, true)⟩,
   ⟨some 25, .fieldAddr 53 (.tmp 24) 0, 0, "l14_route.go:7", #[⟨10, .data⟩, ⟨7, .guard⟩], some (7, true)⟩,
   ⟨some 26, .load 27 (.tmp 25), 27, "l14_route.go:7", #[⟨11, .data⟩, ⟨7, .guard⟩], some (7, true)⟩,
   ⟨some 27, .load 27 (.tmp 4), 27, "l14_route.go:7", #[⟨7, .guard⟩], some (7, true)⟩,
   ⟨some 28, .call ⟨.value (.func 81), #[.tmp 26, .tmp 27], #[27, 27]⟩, 4, "l14_route.go:7", #[⟨12, .data⟩, ⟨13, .data⟩, ⟨7, .chain⟩, ⟨7, .guard⟩], some (7, true)⟩,
   ⟨some 29, .pick (.tmp 21) (.tmp 28) (.const (Value.bool false)), 4, "l14_route.go:7", #[⟨7, .data⟩, ⟨14, .data⟩], none⟩] true).wp Try.prog Q ⟨#[.slice (some ⟨b, off, none⟩) n c, v1, .int .i64 sd, v3, .pointer (some ⟨g, 0, none⟩), v5, v6, .int .i64 k, v8, v9, v10, v11, v12, v13, v14, v15, v16, v17, v18, v19, v20, v21, v22, v23, v24, v25, v26, v27, v28, v29, v30], []⟩ w := by
 have HQ := Lib.hid hQ; clear hQ
 have hdr : Below w.heap.size w w.drew := (Below.refl _ _).drew
 have BB := Lib.hid hdr
 refine wp_region_noPanic ?_
 refine wp_region_held_drew (S := (fun w' => w'.cell? ⟨b, off + k * 3 + 1, none⟩ = some (.int .i64 rf))) (by kernel_rfl) ?_ (fun hHeld => ?_)
 ·
  exact kc K1.out BB.out
 clear hdr
 generalize w.drew = wd at *
 refine wpAnyH_take (i := 0) (oi := ⟨some 14, .move (.tmp 0), 42, "l14_route.go:7", #[], none⟩) (v := ?_) rfl (by kernel_rfl) (by kernel_rfl) (by kernel_rfl) (fun _ _ _ h => h) (Or.inl ⟨by rfl, ?_⟩) (by assumption) ?_
 rotate_left
 ·
  intro w' hSw; (try dsimp only at hSw); first | (go_simp; done) | (go_simp; with_reducible rfl)
 (try simp only [Act.put, Row.pB0, Row.pB1, Row.pB2])
 refine wpAnyH_take (i := 1) (oi := ⟨some 15, .move (.tmp 7), 3, "l14_route.go:7", #[], none⟩) (v := ?_) rfl (by kernel_rfl) (by kernel_rfl) (by kernel_rfl) (fun _ _ _ h => h) (Or.inl ⟨by rfl, ?_⟩) (by assumption) ?_
 rotate_left
 ·
  intro w' hSw; (try dsimp only at hSw); first | (go_simp; done) | (go_simp; with_reducible rfl)
 (try simp only [Act.put, Row.pB0, Row.pB1, Row.pB2])
 refine wpAnyH_take (i := 2) (oi := ⟨some 16, .indexAddr 42 (.tmp 14) (.tmp 15), 0, "l14_route.go:7", #[⟨0, .data⟩, ⟨1, .data⟩], none⟩) (v := ?_) rfl (by kernel_rfl) (by kernel_rfl) (by kernel_rfl) (fun _ _ _ h => h) (Or.inl ⟨by rfl, ?_⟩) (by assumption) ?_
 rotate_left
 ·
  intro w' hSw; (try dsimp only at hSw); first | (go_simp; done) | (go_simp; with_reducible rfl)
 (try simp only [Act.put, Row.pB0, Row.pB1, Row.pB2])
 refine wpAnyH_take (i := 3) (oi := ⟨some 17, .fieldAddr 53 (.tmp 16) 1, 0, "l14_route.go:7", #[⟨2, .data⟩], none⟩) (v := ?_) rfl (by kernel_rfl) (by kernel_rfl) (by kernel_rfl) (fun _ _ _ h => h) (Or.inl ⟨by rfl, ?_⟩) (by assumption) ?_
 rotate_left
 ·
  intro w' hSw; (try dsimp only at hSw); first | (go_simp; done) | (go_simp; with_reducible rfl)
 (try simp only [Act.put, Row.pB0, Row.pB1, Row.pB2])
 refine wpAnyH_take (i := 4) (oi := ⟨some 18, .load 3 (.tmp 17), 3, "l14_route.go:7", #[⟨3, .data⟩], none⟩) (v := ?_) rfl (by kernel_rfl) (by kernel_rfl) (by kernel_rfl) (fun _ _ _ h => h) (Or.inl ⟨by rfl, ?_⟩) (by assumption) ?_
 rotate_left
 ·
  intro w' hSw; (try dsimp only at hSw); first | (go_simp; done) | (go_simp; with_reducible rfl)
 (try simp only [Act.put, Row.pB0, Row.pB1, Row.pB2])
 refine wpAnyH_take (i := 5) (oi := ⟨some 19, .move (.tmp 2), 3, "l14_route.go:7", #[], none⟩) (v := ?_) rfl (by kernel_rfl) (by kernel_rfl) (by kernel_rfl) (fun _ _ _ h => h) (Or.inl ⟨by rfl, ?_⟩) (by assumption) ?_
 rotate_left
 ·
  intro w' hSw; (try dsimp only at hSw); first | (go_simp; done) | (go_simp; with_reducible rfl)
 (try simp only [Act.put, Row.pB0, Row.pB1, Row.pB2])
 refine wpAnyH_take (i := 6) (oi := ⟨some 20, .binOp BinOp.eql 3 (.tmp 18) (.tmp 19) 3, 4, "l14_route.go:7", #[⟨4, .data⟩, ⟨5, .data⟩], none⟩) (v := ?_) rfl (by kernel_rfl) (by kernel_rfl) (by kernel_rfl) (fun _ _ _ h => h) (Or.inl ⟨by rfl, ?_⟩) (by assumption) ?_
 rotate_left
 ·
  intro w' hSw; (try dsimp only at hSw); first | (go_simp; done) | (go_simp; with_reducible rfl)
 (try simp only [Act.put, Row.pB0, Row.pB1, Row.pB2])
 refine wpAnyH_take (i := 7) (oi := ⟨some 21, .move (.tmp 20), 4, "l14_route.go:7", #[⟨6, .data⟩], none⟩) (v := ?_) rfl (by kernel_rfl) (by kernel_rfl) (by kernel_rfl) (fun _ _ _ h => h) (Or.inl ⟨by rfl, ?_⟩) (by assumption) ?_
 rotate_left
 ·
  intro w' hSw; (try dsimp only at hSw); first | (go_simp; done) | (go_simp; with_reducible rfl)
 (try simp only [Act.put, Row.pB0, Row.pB1, Row.pB2])
 refine wpAnyH_take (i := 8) (oi := ⟨some 22, .move (.tmp 0), 42, "l14_route.go:7", #[⟨7, .guard⟩], some (7, true)⟩) (v := undef) rfl (by kernel_rfl) (by kernel_rfl) (by kernel_rfl) (fun _ _ _ h => h) (Or.inr ⟨by rfl, rfl⟩) (by assumption) ?_
 (try simp only [Act.put, Row.pB0, Row.pB1, Row.pB2])
 refine wpAnyH_take (i := 9) (oi := ⟨some 23, .move (.tmp 7), 3, "l14_route.go:7", #[⟨7, .guard⟩], some (7, true)⟩) (v := undef) rfl (by kernel_rfl) (by kernel_rfl) (by kernel_rfl) (fun _ _ _ h => h) (Or.inr ⟨by rfl, rfl⟩) (by assumption) ?_
 (try simp only [Act.put, Row.pB0, Row.pB1, Row.pB2])
 refine wpAnyH_take (i := 10) (oi := ⟨some 24, .indexAddr 42 (.tmp 22) (.tmp 23), 0, "l14_route.go:7", #[⟨8, .data⟩, ⟨9, .data⟩, ⟨7, .guard⟩], some (7, true)⟩) (v := undef) rfl (by kernel_rfl) (by kernel_rfl) (by kernel_rfl) (fun _ _ _ h => h) (Or.inr ⟨by rfl, rfl⟩) (by assumption) ?_
 (try simp only [Act.put, Row.pB0, Row.pB1, Row.pB2])
 refine wpAnyH_take (i := 11) (oi := ⟨some 25, .fieldAddr 53 (.tmp 24) 0, 0, "l14_route.go:7", #[⟨10, .data⟩, ⟨7, .guard⟩], some (7, true)⟩) (v := undef) rfl (by kernel_rfl) (by kernel_rfl) (by kernel_rfl) (fun _ _ _ h => h) (Or.inr ⟨by rfl, rfl⟩) (by assumption) ?_
 (try simp only [Act.put, Row.pB0, Row.pB1, Row.pB2])
 refine wpAnyH_take (i := 12) (oi := ⟨some 26, .load 27 (.tmp 25), 27, "l14_route.go:7", #[⟨11, .data⟩, ⟨7, .guard⟩], some (7, true)⟩) (v := undef) rfl (by kernel_rfl) (by kernel_rfl) (by kernel_rfl) (fun _ _ _ h => h) (Or.inr ⟨by rfl, rfl⟩) (by assumption) ?_
 (try simp only [Act.put, Row.pB0, Row.pB1, Row.pB2])
 refine wpAnyH_take (i := 13) (oi := ⟨some 27, .load 27 (.tmp 4), 27, "l14_route.go:7", #[⟨7, .guard⟩], some (7, true)⟩) (v := undef) rfl (by kernel_rfl) (by kernel_rfl) (by kernel_rfl) (fun _ _ _ h => h) (Or.inr ⟨by rfl, rfl⟩) (by assumption) ?_
 (try simp only [Act.put, Row.pB0, Row.pB1, Row.pB2])
 refine wpAnyH_take (i := 14) (oi := ⟨some 28, .call ⟨.value (.func 81), #[.tmp 26, .tmp 27], #[27, 27]⟩, 4, "l14_route.go:7", #[⟨12, .data⟩, ⟨13, .data⟩, ⟨7, .chain⟩, ⟨7, .guard⟩], some (7, true)⟩) (v := undef) rfl (by kernel_rfl) (by kernel_rfl) (by kernel_rfl) (fun _ _ _ h => h) (Or.inr ⟨by rfl, rfl⟩) (by assumption) ?_
 (try simp only [Act.put, Row.pB0, Row.pB1, Row.pB2])
 refine wpAnyH_take (i := 15) (oi := ⟨some 29, .pick (.tmp 21) (.tmp 28) (.const (Value.bool false)), 4, "l14_route.go:7", #[⟨7, .data⟩, ⟨14, .data⟩], none⟩) (v := ?_) rfl (by kernel_rfl) (by kernel_rfl) (by kernel_rfl) (fun _ _ _ h => h) (Or.inl ⟨by rfl, ?_⟩) (by assumption) ?_
 rotate_left
 ·
  intro w' hSw; (try dsimp only at hSw); first | (go_simp; done) | (go_simp; with_reducible rfl)
 (try simp only [Act.put, Row.pB0, Row.pB1, Row.pB2])
 refine wpAnyH_done (by kernel_rfl) ?_ _
 exact NoPanic.normal (HQ.out _ _ _ _ _ _ _ _ _ _ _ _ _ _ _  _  BB.out)
set_option maxRecDepth 100000 in
set_option maxHeartbeats 4000000 in
theorem rtf1 {Q : Exit → Act → World → Prop} {v1 v3 v5 v6 v8 v9 v10 v11 v12 v13 v14 v15 v16 v17 v18 v19 v20 v21 v22 v23 v24 v25 v26 v27 v28 v29 v30 : Value} {w : World} {b off n c g k na ca : Nat} {xa : Option Addr} {a m : List ByteArray} {rf : Int} {z : Bool} {xn : Option Addr} {nn cn : Nat} (hk : k < n) (hkc : k ≤ c) (hn : n ≤ 9000000) (HZ : Hid (decide (a = m) = z)) (H_a : Hid (kN.At w (.agg #[.slice xa na ca]) a)) (H_m : Hid (kN.At w (.agg #[.slice xn nn cn]) m)) (HAB : Hid (bulk a ≤ 1200000)) (HMB : Hid (bulk m ≤ 1200000)) (K0 : Hid (w.cell? ⟨g, 0, none⟩ = some (.slice xn nn cn))) (K2 : Hid (w.cell? ⟨b, off + k * 3, none⟩ = some (.slice xa na ca))) (K1 : Hid (w.cell? ⟨b, off + k * 3 + 1, none⟩ = some (.int .i64 rf)))
  (hQ : ∀ (u14 u15 u16 u17 u18 u19 u20 u21 u22 u23 u24 u25 u26 u27 u28 : Value)  (wx : World), Below w.heap.size w wx → Q .normal ⟨#[.slice (some ⟨b, off, none⟩) n c, v1, .int .i64 rf, v3, .pointer (some ⟨g, 0, none⟩), v5, v6, .int .i64 k, v8, v9, v10, v11, v12, v13, u14, u15, u16, u17, u18, u19, u20, u21, u22, u23, u24, u25, u26, u27, u28, .bool z, v30], []⟩ wx) :
  (Code.region 4 #[⟨some 14, .move (.tmp 0), 42, "l14_route.go:7", #[], none⟩,
   ⟨some 15, .move (.tmp 7), 3, "l14_route.go:7", #[], none⟩,
   ⟨some 16, .indexAddr 42 (.tmp 14) (.tmp 15), 0, "l14_route.go:7", #[⟨0, .data⟩, ⟨1, .data⟩], none⟩,
   ⟨some 17, .fieldAddr 53 (.tmp 16) 1, 0, "l14_route.go:7", #[⟨2, .data⟩], none⟩,
   ⟨some 18, .load 3 (.tmp 17), 3, "l14_route.go:7", #[⟨3, .data⟩], none⟩,
   ⟨some 19, .move (.tmp 2), 3, "l14_route.go:7", #[], none⟩,
   ⟨some 20, .binOp BinOp.eql 3 (.tmp 18) (.tmp 19) 3, 4, "l14_route.go:7", #[⟨4, .data⟩, ⟨5, .data⟩], none⟩,
   ⟨some 21, .move (.tmp 20), 4, "l14_route.go:7", #[⟨6, .data⟩], none⟩,
   ⟨some 22, .move (.tmp 0), 42, "l14_route.go:7", #[⟨7, .guard⟩], some (7, true)⟩,
   ⟨some 23, .move (.tmp 7), 3, "l14_route.go:7", #[⟨7, .guard⟩], some (7, true)⟩,
   ⟨some 24, .indexAddr 42 (.tmp 22) (.tmp 23), 0, "l14_route.go:7", #[⟨8, .data⟩, ⟨9, .data⟩, ⟨7, .guard⟩], some (7, true)⟩,
   ⟨some 25, .fieldAddr 53 (.tmp 24) 0, 0, "l14_route.go:7", #[⟨10, .data⟩, ⟨7, .guard⟩], some (7, true)⟩,
   ⟨some 26, .load 27 (.tmp 25), 27, "l14_route.go:7", #[⟨11, .data⟩, ⟨7, .guard⟩], some (7, true)⟩,
   ⟨some 27, .load 27 (.tmp 4), 27, "l14_route.go:7", #[⟨7, .guard⟩], some (7, true)⟩,
   ⟨some 28, .call ⟨.value (.func 81), #[.tmp 26, .tmp 27], #[27, 27]⟩, 4, "l14_route.go:7", #[⟨12, .data⟩, ⟨13, .data⟩, ⟨7, .chain⟩, ⟨7, .guard⟩], some (7, true)⟩,
   ⟨some 29, .pick (.tmp 21) (.tmp 28) (.const (Value.bool false)), 4, "l14_route.go:7", #[⟨7, .data⟩, ⟨14, .data⟩], none⟩] true).wp Try.prog Q ⟨#[.slice (some ⟨b, off, none⟩) n c, v1, .int .i64 rf, v3, .pointer (some ⟨g, 0, none⟩), v5, v6, .int .i64 k, v8, v9, v10, v11, v12, v13, v14, v15, v16, v17, v18, v19, v20, v21, v22, v23, v24, v25, v26, v27, v28, v29, v30], []⟩ w := by
 have HQ := Lib.hid hQ; clear hQ
 have hdr : Below w.heap.size w w.drew := (Below.refl _ _).drew
 have BB := Lib.hid hdr
 refine wp_region_noPanic ?_
 refine wp_region_held_drew (S := (fun w' => w'.cell? ⟨g, 0, none⟩ = some (.slice xn nn cn) ∧ w'.cell? ⟨b, off + k * 3, none⟩ = some (.slice xa na ca) ∧ w'.cell? ⟨b, off + k * 3 + 1, none⟩ = some (.int .i64 rf))) (by kernel_rfl) ?_ (fun hHeld => ?_)
 ·
  exact ⟨kc K0.out BB.out, kc K2.out BB.out, kc K1.out BB.out⟩
 clear hdr
 generalize w.drew = wd at *
 refine wpAnyH_take (i := 0) (oi := ⟨some 14, .move (.tmp 0), 42, "l14_route.go:7", #[], none⟩) (v := ?_) rfl (by kernel_rfl) (by kernel_rfl) (by kernel_rfl) (fun _ _ _ h => h) (Or.inl ⟨by rfl, ?_⟩) (by assumption) ?_
 rotate_left
 ·
  intro w' hSw; (try dsimp only at hSw); first | (go_simp; done) | (go_simp; with_reducible rfl)
 (try simp only [Act.put, Row.pB0, Row.pB1, Row.pB2])
 refine wpAnyH_take (i := 1) (oi := ⟨some 15, .move (.tmp 7), 3, "l14_route.go:7", #[], none⟩) (v := ?_) rfl (by kernel_rfl) (by kernel_rfl) (by kernel_rfl) (fun _ _ _ h => h) (Or.inl ⟨by rfl, ?_⟩) (by assumption) ?_
 rotate_left
 ·
  intro w' hSw; (try dsimp only at hSw); first | (go_simp; done) | (go_simp; with_reducible rfl)
 (try simp only [Act.put, Row.pB0, Row.pB1, Row.pB2])
 refine wpAnyH_take (i := 2) (oi := ⟨some 16, .indexAddr 42 (.tmp 14) (.tmp 15), 0, "l14_route.go:7", #[⟨0, .data⟩, ⟨1, .data⟩], none⟩) (v := ?_) rfl (by kernel_rfl) (by kernel_rfl) (by kernel_rfl) (fun _ _ _ h => h) (Or.inl ⟨by rfl, ?_⟩) (by assumption) ?_
 rotate_left
 ·
  intro w' hSw; (try dsimp only at hSw); first | (go_simp; done) | (go_simp; with_reducible rfl)
 (try simp only [Act.put, Row.pB0, Row.pB1, Row.pB2])
 refine wpAnyH_take (i := 3) (oi := ⟨some 17, .fieldAddr 53 (.tmp 16) 1, 0, "l14_route.go:7", #[⟨2, .data⟩], none⟩) (v := ?_) rfl (by kernel_rfl) (by kernel_rfl) (by kernel_rfl) (fun _ _ _ h => h) (Or.inl ⟨by rfl, ?_⟩) (by assumption) ?_
 rotate_left
 ·
  intro w' hSw; (try dsimp only at hSw); first | (go_simp; done) | (go_simp; with_reducible rfl)
 (try simp only [Act.put, Row.pB0, Row.pB1, Row.pB2])
 refine wpAnyH_take (i := 4) (oi := ⟨some 18, .load 3 (.tmp 17), 3, "l14_route.go:7", #[⟨3, .data⟩], none⟩) (v := ?_) rfl (by kernel_rfl) (by kernel_rfl) (by kernel_rfl) (fun _ _ _ h => h) (Or.inl ⟨by rfl, ?_⟩) (by assumption) ?_
 rotate_left
 ·
  intro w' hSw; (try dsimp only at hSw); first | (go_simp; done) | (go_simp; with_reducible rfl)
 (try simp only [Act.put, Row.pB0, Row.pB1, Row.pB2])
 refine wpAnyH_take (i := 5) (oi := ⟨some 19, .move (.tmp 2), 3, "l14_route.go:7", #[], none⟩) (v := ?_) rfl (by kernel_rfl) (by kernel_rfl) (by kernel_rfl) (fun _ _ _ h => h) (Or.inl ⟨by rfl, ?_⟩) (by assumption) ?_
 rotate_left
 ·
  intro w' hSw; (try dsimp only at hSw); first | (go_simp; done) | (go_simp; with_reducible rfl)
 (try simp only [Act.put, Row.pB0, Row.pB1, Row.pB2])
 refine wpAnyH_take (i := 6) (oi := ⟨some 20, .binOp BinOp.eql 3 (.tmp 18) (.tmp 19) 3, 4, "l14_route.go:7", #[⟨4, .data⟩, ⟨5, .data⟩], none⟩) (v := ?_) rfl (by kernel_rfl) (by kernel_rfl) (by kernel_rfl) (fun _ _ _ h => h) (Or.inl ⟨by rfl, ?_⟩) (by assumption) ?_
 rotate_left
 ·
  intro w' hSw; (try dsimp only at hSw); first | (go_simp; done) | (go_simp; with_reducible rfl)
 (try simp only [Act.put, Row.pB0, Row.pB1, Row.pB2])
 refine wpAnyH_take (i := 7) (oi := ⟨some 21, .move (.tmp 20), 4, "l14_route.go:7", #[⟨6, .data⟩], none⟩) (v := ?_) rfl (by kernel_rfl) (by kernel_rfl) (by kernel_rfl) (fun _ _ _ h => h) (Or.inl ⟨by rfl, ?_⟩) (by assumption) ?_
 rotate_left
 ·
  intro w' hSw; (try dsimp only at hSw); first | (go_simp; done) | (go_simp; with_reducible rfl)
 (try simp only [Act.put, Row.pB0, Row.pB1, Row.pB2])
 refine wpAnyH_take (i := 8) (oi := ⟨some 22, .move (.tmp 0), 42, "l14_route.go:7", #[⟨7, .guard⟩], some (7, true)⟩) (v := ?_) rfl (by kernel_rfl) (by kernel_rfl) (by kernel_rfl) (fun _ _ _ h => h) (Or.inl ⟨by rfl, ?_⟩) (by assumption) ?_
 rotate_left
 ·
  intro w' hSw; (try dsimp only at hSw); first | (go_simp; done) | (go_simp; with_reducible rfl)
 (try simp only [Act.put, Row.pB0, Row.pB1, Row.pB2])
 refine wpAnyH_take (i := 9) (oi := ⟨some 23, .move (.tmp 7), 3, "l14_route.go:7", #[⟨7, .guard⟩], some (7, true)⟩) (v := ?_) rfl (by kernel_rfl) (by kernel_rfl) (by kernel_rfl) (fun _ _ _ h => h) (Or.inl ⟨by rfl, ?_⟩) (by assumption) ?_
 rotate_left
 ·
  intro w' hSw; (try dsimp only at hSw); first | (go_simp; done) | (go_simp; with_reducible rfl)
 (try simp only [Act.put, Row.pB0, Row.pB1, Row.pB2])
 refine wpAnyH_take (i := 10) (oi := ⟨some 24, .indexAddr 42 (.tmp 22) (.tmp 23), 0, "l14_route.go:7", #[⟨8, .data⟩, ⟨9, .data⟩, ⟨7, .guard⟩], some (7, true)⟩) (v := ?_) rfl (by kernel_rfl) (by kernel_rfl) (by kernel_rfl) (fun _ _ _ h => h) (Or.inl ⟨by rfl, ?_⟩) (by assumption) ?_
 rotate_left
 ·
  intro w' hSw; (try dsimp only at hSw); first | (go_simp; done) | (go_simp; with_reducible rfl)
 (try simp only [Act.put, Row.pB0, Row.pB1, Row.pB2])
 refine wpAnyH_take (i := 11) (oi := ⟨some 25, .fieldAddr 53 (.tmp 24) 0, 0, "l14_route.go:7", #[⟨10, .data⟩, ⟨7, .guard⟩], some (7, true)⟩) (v := ?_) rfl (by kernel_rfl) (by kernel_rfl) (by kernel_rfl) (fun _ _ _ h => h) (Or.inl ⟨by rfl, ?_⟩) (by assumption) ?_
 rotate_left
 ·
  intro w' hSw; (try dsimp only at hSw); first | (go_simp; done) | (go_simp; with_reducible rfl)
 (try simp only [Act.put, Row.pB0, Row.pB1, Row.pB2])
 refine wpAnyH_take (i := 12) (oi := ⟨some 26, .load 27 (.tmp 25), 27, "l14_route.go:7", #[⟨11, .data⟩, ⟨7, .guard⟩], some (7, true)⟩) (v := ?_) rfl (by kernel_rfl) (by kernel_rfl) (by kernel_rfl) (fun _ _ _ h => h) (Or.inl ⟨by rfl, ?_⟩) (by assumption) ?_
 rotate_left
 ·
  intro w' hSw; (try dsimp only at hSw); first | (go_simp; done) | (go_simp; with_reducible rfl)
 (try simp only [Act.put, Row.pB0, Row.pB1, Row.pB2])
 refine wpAnyH_take (i := 13) (oi := ⟨some 27, .load 27 (.tmp 4), 27, "l14_route.go:7", #[⟨7, .guard⟩], some (7, true)⟩) (v := ?_) rfl (by kernel_rfl) (by kernel_rfl) (by kernel_rfl) (fun _ _ _ h => h) (Or.inl ⟨by rfl, ?_⟩) (by assumption) ?_
 rotate_left
 ·
  intro w' hSw; (try dsimp only at hSw); first | (go_simp; done) | (go_simp; with_reducible rfl)
 (try simp only [Act.put, Row.pB0, Row.pB1, Row.pB2])
 refine wpAnyH_ready (rs := [14]) (by kernel_rfl) (by simp) ?_
 refine AllReadyH.cons (o := ⟨some 28, .call ⟨.value (.func 81), #[.tmp 26, .tmp 27], #[27, 27]⟩, 4, "l14_route.go:7", #[⟨12, .data⟩, ⟨13, .data⟩, ⟨7, .chain⟩, ⟨7, .guard⟩], some (7, true)⟩) rfl (fun K hK => ?_) AllReadyH.nil
 go_simp
 refine (sEqK z HZ.out (H_a.out.on BB.out) (H_m.out.on BB.out) (Nat.le_trans HAB.out (by decide)) (Nat.le_trans HMB.out (by decide))).mono ?_
 rintro e wn1 ⟨rfl, hb⟩
 replace BB := Lib.hid (BB.out.trans (hb.mono BB.out.size))
 clear hb
 (try go_wp2_with fail)
 clear hHeld
 refine hK.out _ _ ?_ (fun hHeld => ?_)
 ·
  (try dsimp only); exact ⟨kc K0.out BB.out, kc K2.out BB.out, kc K1.out BB.out⟩
 clear hK K
 (try simp only [Act.put, Row.pB0, Row.pB1, Row.pB2])
 refine wpAnyH_take (i := 15) (oi := ⟨some 29, .pick (.tmp 21) (.tmp 28) (.const (Value.bool false)), 4, "l14_route.go:7", #[⟨7, .data⟩, ⟨14, .data⟩], none⟩) (v := ?_) rfl (by kernel_rfl) (by kernel_rfl) (by kernel_rfl) (fun _ _ _ h => h) (Or.inl ⟨by rfl, ?_⟩) (by assumption) ?_
 rotate_left
 ·
  intro w' hSw; (try dsimp only at hSw); first | (go_simp; done) | (go_simp; with_reducible rfl)
 (try simp only [Act.put, Row.pB0, Row.pB1, Row.pB2])
 refine wpAnyH_done (by kernel_rfl) ?_ _
 exact NoPanic.normal (HQ.out _ _ _ _ _ _ _ _ _ _ _ _ _ _ _  _  BB.out)
set_option maxHeartbeats 4000000 in
theorem sFindRt (V U : Value) (l : List Rtt) (m : List ByteArray) (sd : Int) (w : World) (z : Int) (hz : ixL (isRt m sd) l = z) (h : kLRt.At w V l) (g : kN.At w U m) (hl : l.length ≤ 9000000) (hp : ∀ x ∈ l, bulk x.1 ≤ 1200000) (hm : bulk m ≤ 1200000) :
    Calls Try.prog 53 #[V, U, .int .i64 sd] w fun e w' => e = .returned (.int .i64 z) ∧ Below w.heap.size w w' := by
  obtain ⟨x, n, cx, L, rfl, hn, ht, hh, hel⟩ := kLRt_at h
  have hlen : l.length = n := by rw [← ht, List.length_map]; exact hn.symm
  rw [hlen] at hl
  have hcap : n ≤ cx := by obtain ⟨x', n', cap', hv, hn', hc', -⟩ := hh.shapeN; cases hv; exact hc'
  obtain ⟨xn, nn, cn, rfl, g⟩ := kN_shapeA g
  have b1 := (Below.refl w.heap.size w).alloc (Nat.le_refl _) (.cells #[.slice xn nn cn] 27)
  have HX := Lib.hid (Ret.Blk.new w #[.slice xn nn cn] 27)
  have HG := Lib.hid (g.on b1); have HB := Lib.hid b1; have HZ := Lib.hid hz; have HM := Lib.hid hm
  have HN := Lib.hid hn; have HT := Lib.hid ht; have HH := Lib.hid hh; have HEL := Lib.hid hel; have HLEN := Lib.hid hlen; have HP := Lib.hid hp
  clear b1 g hz hm hn ht hh hel hlen hp h
  go_enter Try.func53, Try.ntmps53
  go_wp2
  go_loopw [7] (fun iv wr => ∃ i : Nat, i ≤ n ∧ iv = .int .i64 i ∧ Hid (noL (isRt m sd) l i) ∧ Hid (Ret.Blk wr w.heap.size #[.slice xn nn cn] 27) ∧ Hid (kN.At wr (.agg #[.slice xn nn cn]) m) ∧ Hid (Below w.heap.size w wr)) (fun iv _ => n - (intOf iv).toNat)
  case atStart => exact ⟨0, Nat.zero_le _, rfl, Lib.hid (noL_zero _ _), HX, HG, HB⟩
  case round =>
    obtain ⟨k, hk, rfl, ha, hx, hg, hb⟩ := hrel
    by_cases hlt : k < n
    · have hlen := HN.out
      obtain ⟨b, off, y0, m0, d0, rfl, -, hc0, hc1, hc2, hA⟩ := kLRt_elem (HH.out.on hb.out) (fun y hy => kRt.holds_on (HEL.out y hy) hb.out) (j := k) (by omega)
      have hpt : nth l k = kRt.strip (nth L k) := by rw [← HT.out, nth_map _ (by omega)]
      have hps := HP.out (nth l k) (nth_mem (by have := HLEN.out; omega))
      rw [← hpt] at hA hc1 hc2
      have hNM := kRt_parts hA
      obtain ⟨nm, rf, rc, hx⟩ : ∃ nm rf rc, nth l k = (nm, rf, rc) := ⟨_, _, _, rfl⟩
      rw [hx] at hNM hps hc1 hc2 hA
      have HA := Lib.hid hA; have HNM := Lib.hid hNM; have HPN := Lib.hid hps; have HXE := Lib.hid hx
      simp only at hc1 hc2
      have H0 := Lib.hid hc0; have H1 := Lib.hid hc1; have H2 := Lib.hid hc2
      clear hlen hpt hps hA hNM hx
      by_cases hfc : rf = sd
      · subst hfc
        obtain ⟨q, hq⟩ : ∃ q, decide (nm = m) = q := ⟨_, rfl⟩
        have HQ := Lib.hid hq
        have HP9 := Lib.hid (show isRt m rf (nth l k) = q by rw [HXE.out]; unfold isRt; simp [hq])
        clear hq hc0 hc1 hc2
        go_wp2_with fail
        refine rtf1 hlt (by omega) hl HQ HNM hg HPN HM (Lib.hid (hx.out.cell 0)) H0 H1 ?_
        intro u14 u15 u16 u17 u18 u19 u20 u21 u22 u23 u24 u25 u26 u27 u28 wx hbx
        have hx2 := Lib.hid (hx.out.on hbx); have hg2 := Lib.hid (hg.out.on hbx); have hb2 := Lib.hid (hb.out.trans (hbx.mono hb.out.size))
        clear hbx
        cases q with
        | true =>
          have HV := Lib.hid (show z = (k : Int) from HZ.out.symm.trans (ixL_at (by have := HLEN.out; omega) ha.out HP9.out))
          go_wp2
          go_ret
          exact ⟨ret_int HV.out.symm, hb2.out⟩
        | false =>
          have HA2 := Lib.hid (noL_succ ha.out HP9.out)
          go_wp2
          go_roundw
          case rel => exact ⟨k + 1, by omega, by go_num, HA2, hx2, hg2, hb2⟩
          case measure => simp [intOf]; omega
      · have HP9 := Lib.hid (show isRt m sd (nth l k) = false by rw [HXE.out]; unfold isRt; simp [hfc])
        have ht : (rf == sd) = false := by simpa using hfc
        clear hc0 hc1 hc2
        go_wp2_with fail
        refine rtf0 hlt (by omega) hl ht H1 ?_
        intro u14 u15 u16 u17 u18 u19 u20 u21 u22 u23 u24 u25 u26 u27 u28 wx hbx
        have hx2 := Lib.hid (hx.out.on hbx); have hg2 := Lib.hid (hg.out.on hbx); have hb2 := Lib.hid (hb.out.trans (hbx.mono hb.out.size))
        have HA2 := Lib.hid (noL_succ ha.out HP9.out)
        clear hbx ht hfc
        go_wp2
        go_roundw
        case rel => exact ⟨k + 1, by omega, by go_num, HA2, hx2, hg2, hb2⟩
        case measure => simp [intOf]; omega
    · obtain rfl : k = n := by omega
      have HV := Lib.hid (show z = -1 from HZ.out.symm.trans (ixL_none (by rw [HLEN.out]; exact ha.out)))
      clear hlt
      go_wp2
      go_ret
      exact ⟨ret_int HV.out.symm, hb.out⟩
theorem aggKR : Ret.AggOf Try.prog 93 2 := ⟨by kernel_rfl, by kernel_rfl⟩
theorem cell_two14 {w : World} {p q i : Nat} {v a b : Value} (h : w.cell? ⟨p, i, none⟩ = some v) (hne : q ≠ p) : ((w.setCell ⟨q, 0, none⟩ a).setCell ⟨q, 1, none⟩ b).cell? ⟨p, i, none⟩ = some v := by
  rw [World.cell?_setCell_other _ _ _ _ (fun e => hne (by cases e; rfl)), World.cell?_setCell_other _ _ _ _ (fun e => hne (by cases e; rfl))]
  exact h
theorem keyTxtN {V : Value} {m : List ByteArray} {w : World} (h : kN.At w V m) (hm : bulk m ≤ 9000000) : Calls Try.prog 84 #[V] w fun e w' => e = .returned (.string (txt m)) ∧ Below w.heap.size w w' := by
  obtain ⟨v, rfl, h9⟩ := kN_at h
  exact nameText v m w h9 hm
set_option maxRecDepth 100000 in
set_option maxHeartbeats 4000000 in
theorem rky {Q : Exit → Act → World → Prop} {v0 v3 v4 v5 v6 v7 v8 : Value} {w : World} {p q na ca : Nat} {xa : Option Addr} {m : List ByteArray} {rf : Int} {z0 z1 : Value} (hpq : q ≠ p) (XR : Hid (Ret.Blk w q #[z0, z1] 93)) (H_a : Hid (kN.At w (.agg #[.slice xa na ca]) m)) (HAB : Hid (bulk m ≤ 1200000)) (K0 : Hid (w.cell? ⟨p, 0, none⟩ = some (.slice xa na ca))) (K1 : Hid (w.cell? ⟨p, 1, none⟩ = some (.int .i64 rf)))
  (hQ : ∀ (u3 u4 u5 u6 u7 u8 : Value)  (wx : World), Below w.heap.size w wx → Q .normal ⟨#[v0, .pointer (some ⟨p, 0, none⟩), .pointer (some ⟨q, 0, none⟩), u3, u4, u5, u6, u7, u8], []⟩ ((wx.setCell ⟨q, 0, none⟩ (.string (txt m))).setCell ⟨q, 1, none⟩ (.int .i64 rf))) :
  (Code.region 1 #[⟨some 3, .fieldAddr 53 (.tmp 1) 0, 0, "l14_route.go:27", #[], none⟩,
   ⟨some 4, .load 27 (.tmp 3), 27, "l14_route.go:27", #[⟨0, .data⟩], none⟩,
   ⟨some 5, .call ⟨.value (.func 84), #[.tmp 4], #[27]⟩, 9, "l14_route.go:27", #[⟨1, .data⟩], none⟩,
   ⟨some 6, .fieldAddr 53 (.tmp 1) 1, 0, "l14_route.go:27", #[], none⟩,
   ⟨some 7, .load 3 (.tmp 6), 3, "l14_route.go:27", #[⟨3, .data⟩], none⟩,
   ⟨some 8, .build 93 #[(0, .tmp 5), (1, .tmp 7)], 93, "l14_route.go:27", #[⟨2, .data⟩, ⟨4, .data⟩], none⟩,
   ⟨none, .store 93 (.tmp 2) (.tmp 8), 0, "l14_route.go:27", #[⟨5, .data⟩, ⟨2, .chain⟩, ⟨0, .phase⟩, ⟨1, .phase⟩, ⟨2, .phase⟩, ⟨3, .phase⟩, ⟨4, .phase⟩, ⟨5, .phase⟩], none⟩] true).wp Try.prog Q ⟨#[v0, .pointer (some ⟨p, 0, none⟩), .pointer (some ⟨q, 0, none⟩), v3, v4, v5, v6, v7, v8], []⟩ w := by
 have HQ := Lib.hid hQ; clear hQ
 have hdr : Below w.heap.size w w.drew := (Below.refl _ _).drew
 have BB := Lib.hid hdr
 refine wp_region_noPanic ?_
 refine wp_region_held_drew (S := (fun w' => w'.cell? ⟨p, 0, none⟩ = some (.slice xa na ca) ∧ w'.cell? ⟨p, 1, none⟩ = some (.int .i64 rf))) (by kernel_rfl) ?_ (fun hHeld => ?_)
 ·
  exact ⟨kc K0.out BB.out, kc K1.out BB.out⟩
 clear hdr
 generalize w.drew = wd at *
 refine wpAnyH_take (i := 0) (oi := ⟨some 3, .fieldAddr 53 (.tmp 1) 0, 0, "l14_route.go:27", #[], none⟩) (v := ?_) rfl (by kernel_rfl) (by kernel_rfl) (by kernel_rfl) (fun _ _ _ h => h) (Or.inl ⟨by rfl, ?_⟩) (by assumption) ?_
 rotate_left
 ·
  intro w' hSw; (try dsimp only at hSw); first | (go_simp; done) | (go_simp; with_reducible rfl)
 (try simp only [Act.put, Row.pB0, Row.pB1, Row.pB2])
 refine wpAnyH_take (i := 1) (oi := ⟨some 4, .load 27 (.tmp 3), 27, "l14_route.go:27", #[⟨0, .data⟩], none⟩) (v := ?_) rfl (by kernel_rfl) (by kernel_rfl) (by kernel_rfl) (fun _ _ _ h => h) (Or.inl ⟨by rfl, ?_⟩) (by assumption) ?_
 rotate_left
 ·
  intro w' hSw; (try dsimp only at hSw); first | (go_simp; done) | (go_simp; with_reducible rfl)
 (try simp only [Act.put, Row.pB0, Row.pB1, Row.pB2])
 refine wpAnyH_take (i := 3) (oi := ⟨some 6, .fieldAddr 53 (.tmp 1) 1, 0, "l14_route.go:27", #[], none⟩) (v := ?_) rfl (by kernel_rfl) (by kernel_rfl) (by kernel_rfl) (fun _ _ _ h => h) (Or.inl ⟨by rfl, ?_⟩) (by assumption) ?_
 rotate_left
 ·
  intro w' hSw; (try dsimp only at hSw); first | (go_simp; done) | (go_simp; with_reducible rfl)
 (try simp only [Act.put, Row.pB0, Row.pB1, Row.pB2])
 refine wpAnyH_take (i := 4) (oi := ⟨some 7, .load 3 (.tmp 6), 3, "l14_route.go:27", #[⟨3, .data⟩], none⟩) (v := ?_) rfl (by kernel_rfl) (by kernel_rfl) (by kernel_rfl) (fun _ _ _ h => h) (Or.inl ⟨by rfl, ?_⟩) (by assumption) ?_
 rotate_left
 ·
  intro w' hSw; (try dsimp only at hSw); first | (go_simp; done) | (go_simp; with_reducible rfl)
 (try simp only [Act.put, Row.pB0, Row.pB1, Row.pB2])
 refine wpAnyH_ready (rs := [2]) (by kernel_rfl) (by simp) ?_
 refine AllReadyH.cons (o := ⟨some 5, .call ⟨.value (.func 84), #[.tmp 4], #[27]⟩, 9, "l14_route.go:27", #[⟨1, .data⟩], none⟩) rfl (fun K hK => ?_) AllReadyH.nil
 go_simp
 refine (keyTxtN (H_a.out.on BB.out) (Nat.le_trans HAB.out (by decide))).mono ?_
 rintro e wn1 ⟨rfl, hb⟩
 replace BB := Lib.hid (BB.out.trans (hb.mono BB.out.size))
 clear hb
 (try go_wp2_with fail)
 clear hHeld
 refine hK.out _ _ ?_ (fun hHeld => ?_)
 ·
  (try dsimp only); exact ⟨kc K0.out BB.out, kc K1.out BB.out⟩
 clear hK K
 (try simp only [Act.put, Row.pB0, Row.pB1, Row.pB2])
 refine wpAnyH_take (i := 5) (oi := ⟨some 8, .build 93 #[(0, .tmp 5), (1, .tmp 7)], 93, "l14_route.go:27", #[⟨2, .data⟩, ⟨4, .data⟩], none⟩) (v := ?_) rfl (by kernel_rfl) (by kernel_rfl) (by kernel_rfl) (fun _ _ _ h => h) (Or.inl ⟨by rfl, ?_⟩) (by assumption) ?_
 rotate_left
 ·
  intro w' hSw; (try dsimp only at hSw); first | (go_simp; done) | (go_simp; with_reducible rfl)
 (try simp only [Act.put, Row.pB0, Row.pB1, Row.pB2])
 refine wpAnyH_ready (rs := [6]) (by kernel_rfl) (by simp) ?_
 refine AllReadyH.cons (o := ⟨none, .store 93 (.tmp 2) (.tmp 8), 0, "l14_route.go:27", #[⟨5, .data⟩, ⟨2, .chain⟩, ⟨0, .phase⟩, ⟨1, .phase⟩, ⟨2, .phase⟩, ⟨3, .phase⟩, ⟨4, .phase⟩, ⟨5, .phase⟩], none⟩) rfl (fun K hK => ?_) AllReadyH.nil
 have xr := XR.out.on BB.out
 have r0 := xr.cell 0; have r1 := xr.cell 1
 have t0 := xr.frozen 0; have t1 := xr.frozen 1
 go_simp
 clear hHeld
 refine hK.out _ _ ?_ (fun hHeld => ?_)
 ·
  (try dsimp only); exact ⟨cell_two14 (kc K0.out BB.out) hpq, cell_two14 (kc K1.out BB.out) hpq⟩
 clear hK K
 (try simp only [Act.put, Row.pB0, Row.pB1, Row.pB2])
 refine wpAnyH_done (by kernel_rfl) ?_ _
 exact NoPanic.normal (HQ.out _ _ _ _ _ _  _  BB.out)
set_option maxHeartbeats 4000000 in
theorem iKeyRt (V : Value) (x : Rtt) (w : World) (h : kRt.At w V x) (hp : bulk x.1 ≤ 1200000) :
    Calls Try.prog 58 #[V] w fun e w' => e = .returned (.agg #[.string (txt x.1), .int .i64 x.2.1]) ∧ Below w.heap.size w w' := by
  obtain ⟨x0, n0, c0, rfl, h⟩ := kRt_shapeA h
  have hN := kRt_parts h
  obtain ⟨nm, rf, rc⟩ := x
  simp only at hN hp ⊢
  have hal := (Below.refl w.heap.size w).alloc (Nat.le_refl _) (.cells #[.slice x0 n0 c0, .int .i64 rf, .int .i64 rc] 53)
  have hb1 := hal.alloc (by simp) (.cells #[.string (ByteArray.mk #[]), .int .i64 0] 93)
  have HB := Lib.hid hb1; have HN := Lib.hid (hN.on hb1); have HPN := Lib.hid hp
  have X0 := Lib.hid ((Ret.Blk.new w #[.slice x0 n0 c0, .int .i64 rf, .int .i64 rc] 53).on ((Below.refl _ _).alloc (Nat.le_refl _) (.cells #[.string (ByteArray.mk #[]), .int .i64 0] 93)))
  have X1 := Lib.hid (Ret.Blk.new' (w := w.alloc (.cells #[.slice x0 n0 c0, .int .i64 rf, .int .i64 rc] 53)) (n := w.heap.size + 1) #[.string (ByteArray.mk #[]), .int .i64 0] 93 (by simp))
  clear h hN hal hb1 hp
  go_enter Try.func58, Try.ntmps58
  go_wp2_with fail
  refine rky (q := w.heap.size + 1) (by omega) X1 HN HPN (Lib.hid (X0.out.cell 0)) (Lib.hid (X0.out.cell 1)) ?_
  intro u3 u4 u5 u6 u7 u8 wx hbx
  have Y1 := Lib.hid (X1.out.on hbx); have HB1 := Lib.hid (HB.out.trans (hbx.mono HB.out.size))
  clear hbx X0 X1
  have Z1 := Lib.hid ((Y1.out.set 0 (.string (txt nm))).set 1 (.int .i64 rf))
  have Z3 := Lib.hid ((HB1.out.setCell (p := ⟨w.heap.size + 1, 0, none⟩) (by simp) (.string (txt nm))).setCell (p := ⟨w.heap.size + 1, 1, none⟩) (by simp) (.int .i64 rf))
  clear Y1
  go_wp2_with fail
  exact bodyPost_ret (Ret.results_c rfl _ _ (w.heap.size + 1) [.string (txt nm), .int .i64 rf] rfl aggKR Z1.out.cells) rfl ⟨rfl, Z3.out⟩
theorem zeroIntR (w : World) : (zeroValue 3).run Try.prog w = .ok (.int .i64 0) w := by kernel_rfl
def GivesF (w : World) (l : List Rtt) (e : Ending) (w' : World) : Prop := ∃ b, e = .returned (.map (some b)) ∧ w'.ownsMap Try.prog 93 heldV b l.length (rtD l l.length) ∧ w.heap.size ≤ b ∧ Below w.heap.size w w'
theorem rtD_held {l : List Rtt} {ok : List ByteArray → Int → Prop} (hI : InjR ok) (hl : ∀ x ∈ l, ok x.1 x.2.1) {m : List ByteArray} {f : Int} (hm : ok m f) {k : Nat} (hk : k ≤ l.length) : ∃ i, (rtD l k).atKey (kR m f) (.held (.int .i64 0)) = .held (.int .i64 i) ∧ (0 ≤ ixL (isRt m f) (l.take k) → i = ixL (isRt m f) (l.take k)) := by
  rw [rtD_at hI hl hm _ k hk]
  split
  · exact ⟨_, rfl, fun _ => rfl⟩
  · rename_i h; exact ⟨0, rfl, fun h1 => absurd h1 h⟩
theorem lookF {w : World} {b n k : Nat} {l : List Rtt} (h : w.ownsMap Try.prog 93 heldV b n (rtD l k)) (hl : ∀ x ∈ l, okKR x.1 x.2.1) {m : List ByteArray} {f : Int} (hm : okKR m f) (hk : k ≤ l.length) :
    ∃ i, (Instr.lookup 88 (.map (some b)) (.agg #[.string (txt m), .int .i64 f]) true).run Try.prog w = .ok (.tuple #[.int .i64 i, .bool ((l.take k).any (isRt m f))]) w ∧ (0 ≤ ixL (isRt m f) (l.take k) → i = ixL (isRt m f) (l.take k)) := by
  obtain ⟨v9, ps9, hr, hv⟩ := h.look_ok lawKeyR Try.underlying88 (zeroIntR w) (zd := .held (.int .i64 0)) (zp := []) rfl (keyR hm)
  obtain ⟨i, hi, hi2⟩ := rtD_held injKR hl hm hk
  rw [hi] at hv
  rw [rtD_has injKR hl hm k hk, heldV_inj hv] at hr
  exact ⟨i, hr, hi2⟩
set_option maxHeartbeats 8000000 in
theorem iFirstRt (V : Value) (l : List Rtt) (w : World) (h : kLRt.At w V l) (hf : FitRt l) (hw : ∀ x ∈ l, (Lit.int .i64 x.2.1).wf = true) :
    Calls Try.prog 55 #[V] w (GivesF w l) := by
  have hl := hf.len
  have hp := hf.each
  have HOK := Lib.hid (show ∀ x ∈ l, okKR x.1 x.2.1 from fun x hx => ⟨Nat.le_trans (hp x hx) (by decide), hw x hx⟩)
  obtain ⟨x, n, cx, L, rfl, hn, ht, hh, hel⟩ := kLRt_at h
  have hlen : l.length = n := by rw [← ht, List.length_map]; exact hn.symm
  rw [hlen] at hl
  have hcap : n ≤ cx := by obtain ⟨x', n', cap', hv, hn', hc', -⟩ := hh.shapeN; cases hv; exact hc'
  have HN := Lib.hid hn; have HT := Lib.hid ht; have HH := Lib.hid hh; have HEL := Lib.hid hel; have HLEN := Lib.hid hlen; have HP := Lib.hid hp
  clear hn ht hh hel hlen hp h
  have HM0 := Lib.hid (show (w.alloc (.map #[] 0)).ownsMap Try.prog 93 heldV w.heap.size 0 (rtD l 0) from World.ownsMap_made w _ _ _)
  have HB0 := Lib.hid ((Below.refl w.heap.size w).alloc (Nat.le_refl _) (.map #[] 0))
  have hmm := @run_makeMap Try.prog
  clear hw hf
  go_enter Try.func55, Try.ntmps55
  go_wp2_with fail
  go_loopw [11] (fun i wr => ∃ k : Nat, k ≤ n ∧ i = .int .i64 k ∧ Hid (wr.ownsMap Try.prog 93 heldV w.heap.size k (rtD l k)) ∧ Hid (Below w.heap.size w wr) ∧ Hid (w.heap.size + 1 ≤ wr.heap.size)) (fun i _ => n - (intOf i).toNat)
  case atStart => exact ⟨0, Nat.zero_le _, rfl, HM0, HB0, Lib.hid (by simp)⟩
  case round =>
    clear HM0 HB0 hmm
    obtain ⟨k, hk, rfl, hM, hb, hS⟩ := hrel
    by_cases hlt : k < n
    · have hlen := HN.out
      obtain ⟨b, off, y0, m0, d0, rfl, -, hc0, hc1, hc2, hA⟩ := kLRt_elem (HH.out.on hb.out) (fun y hy => kRt.holds_on (HEL.out y hy) hb.out) (j := k) (by omega)
      have hpt : nth l k = kRt.strip (nth L k) := by rw [← HT.out, nth_map _ (by omega)]
      have hps := HP.out (nth l k) (nth_mem (by have := HLEN.out; omega))
      rw [← hpt] at hA hc1 hc2
      have hNM := kRt_parts hA
      obtain ⟨nm, rf, rc, hx⟩ : ∃ nm rf rc, nth l k = (nm, rf, rc) := ⟨_, _, _, rfl⟩
      rw [hx] at hNM hps hc1 hc2 hA
      have HA := Lib.hid hA; have HNM := Lib.hid hNM; have HPN := Lib.hid hps; have HXE := Lib.hid hx
      simp only at hc1 hc2
      have H0 := Lib.hid hc0; have H1 := Lib.hid hc1; have H2 := Lib.hid hc2
      clear hlen hpt hps hA hNM hx
      have hal := (Below.refl wr.heap.size wr).alloc (Nat.le_refl _) (.cells #[.slice y0 m0 d0, .int .i64 rf, .int .i64 rc] 53)
      have HX := Lib.hid (Ret.Blk.new wr #[.slice y0 m0 d0, .int .i64 rf, .int .i64 rc] 53)
      have HA1 := Lib.hid (HA.out.on hal); have HB1 := Lib.hid (hb.out.trans (hal.mono hb.out.size)); have HM1 := Lib.hid (hM.out.alloc (.cells #[.slice y0 m0 d0, .int .i64 rf, .int .i64 rc] 53))
      have HS1 := Lib.hid (show w.heap.size + 1 ≤ (wr.alloc (.cells #[.slice y0 m0 d0, .int .i64 rf, .int .i64 rc] 53)).heap.size by have := hS.out; simp; omega)
      have HKY := Lib.hid (show okKR nm rf from by have h5 := HOK.out (nth l k) (nth_mem (by have := HLEN.out; omega)); rw [HXE.out] at h5; exact h5)
      clear hal
      have q0 := HX.out.cell 0; have q1 := HX.out.cell 1; have q2 := HX.out.cell 2
      go_wp2_with fail
      clear hc0 hc1 hc2 q0 q1 q2
      refine (iKeyRt _ _ _ HA1.out HPN.out).mono ?_
      rintro e w1 ⟨rfl, hb1⟩
      simp only
      have HM2 := Lib.hid (show w1.ownsMap Try.prog 93 heldV w.heap.size k (rtD l k) by
        obtain ⟨es, clock, hbk, r⟩ := HM1.out
        exact ⟨es, clock, (hb1.block _ (Array.getElem?_eq_some_iff.1 hbk).1).trans hbk, r⟩)
      have HX2 := Lib.hid (HX.out.on hb1); have HA2 := Lib.hid (HA1.out.on hb1); have HB2 := Lib.hid (HB1.out.trans (hb1.mono HB1.out.size))
      have HS2 := Lib.hid (show w.heap.size + 1 ≤ w1.heap.size by have := HS1.out; have := hb1.size; omega)
      obtain ⟨i9, hlook, -⟩ := lookF HM2.out HOK.out HKY.out (by have := HLEN.out; omega : k ≤ l.length)
      obtain ⟨z, hz⟩ : ∃ z, (l.take k).any (isRt nm rf) = z := ⟨_, rfl⟩
      have HST := Lib.hid (show rtD l (k + 1) = if z then rtD l k else (rtD l k).put (kR nm rf) (.held (.int .i64 k)) by
        show stRt l (rtD l k) k = _
        unfold stRt
        rw [HXE.out]
        simp only
        rw [rtD_has injKR HOK.out HKY.out k (by have := HLEN.out; omega), hz])
      rw [hz] at hlook
      clear hz hb1
      cases z with
      | true =>
        have HM3 := Lib.hid (show w1.ownsMap Try.prog 93 heldV w.heap.size (k + 1) (rtD l (k + 1)) by rw [HST.out]; exact HM2.out.mono (Nat.le_succ _))
        go_wp2_with fail
        go_roundw
        case rel => exact ⟨k + 1, by omega, by go_num, HM3, HB2, HS2⟩
        case measure => simp [intOf]; omega
      | false =>
        have q0 : w1.cell? ⟨wr.heap.size, 0, none⟩ = some (.slice y0 m0 d0) := HX2.out.cell 0
        have q1 : w1.cell? ⟨wr.heap.size, 1, none⟩ = some (.int .i64 rf) := HX2.out.cell 1
        have q2 : w1.cell? ⟨wr.heap.size, 2, none⟩ = some (.int .i64 rc) := HX2.out.cell 2
        go_wp2_with fail
        clear hlook q0 q1 q2
        refine (iKeyRt _ _ _ HA2.out HPN.out).mono ?_
        rintro e w2 ⟨rfl, hb2⟩
        simp only
        have HM3 := Lib.hid (show w2.ownsMap Try.prog 93 heldV w.heap.size k (rtD l k) by
          obtain ⟨es, clock, hbk, r⟩ := HM2.out
          exact ⟨es, clock, (hb2.block _ (Array.getElem?_eq_some_iff.1 hbk).1).trans hbk, r⟩)
        have HB3 := Lib.hid (HB2.out.trans (hb2.mono HB2.out.size))
        have HS3 := Lib.hid (show w.heap.size + 1 ≤ w2.heap.size by have := HS2.out; have := hb2.size; omega)
        clear hb2
        go_wp2_with (at_mapUpdate; refine wpList_mapUpdate_own _ rfl _ _ _ 88 rfl 93 3 lawKeyR Try.underlying88 heldV w.heap.size k _ rfl HM3.out (by unfold maxLen; omega) _ _ _ rfl rfl (keyR HKY.out) (.held (.int .i64 k)) [] rfl ?_)
        intro w3 hown3 hg3
        have HM4 := Lib.hid (show w3.ownsMap Try.prog 93 heldV w.heap.size (k + 1) (rtD l (k + 1)) by rw [HST.out]; exact hown3)
        have HB4 := Lib.hid (HB3.out.grown hg3 HB3.out.size (fun g hg => by cases hg; exact Nat.le_refl _))
        have HS4 := Lib.hid (show w.heap.size + 1 ≤ w3.heap.size by have := HS3.out; have := hg3.size; omega)
        clear hown3 hg3
        go_wp2_with fail
        go_roundw
        case rel => exact ⟨k + 1, by omega, by go_num, HM4, HB4, HS4⟩
        case measure => simp [intOf]; omega
    · obtain rfl : k = n := by omega
      clear hlt
      have HM9 := Lib.hid (show wr.ownsMap Try.prog 93 heldV w.heap.size l.length (rtD l l.length) by rw [HLEN.out]; exact hM.out)
      go_wp2_with fail
      go_ret
      exact ⟨_, rfl, HM9.out, Nat.le_refl _, hb.out⟩
end Go.Proofs.Ytdaahcaafdleaaa.Row
/- Regions of the model's ValidRoutes. No conditions but that lengths fit. -/
namespace Go.Proofs.Ytdaahcaafdleaaa.Row
open Go.ChangeShapes Go.WideShapes Go.ChangeAt Go.RowKit Go.Instr
set_option linter.unusedVariables false
set_option maxRecDepth 100000
set_option maxRecDepth 100000 in
set_option maxHeartbeats 4000000 in
theorem rvt0 {Q : Exit → Act → World → Prop} {v1 v2 v4 v5 v6 v7 v8 v9 v10 v11 v12 v13 v14 v15 v16 v17 v18 v19 v20 v21 v22 v23 v24 v25 v26 v27 v28 v29 v30 v31 v32 v33 v34 v35 v36 v37 v38 v39 v40 v41 v42 v43 v44 v45 v46 v47 v48 v49 v50 v51 v52 v53 v54 : Value} {w : World} {b off n c k n0 c0 : Nat} {x0 : Option Addr}  {m : List ByteArray}   (hk : k < n) (hkc : k ≤ c) (hn : n ≤ 9000000) (HV : Hid (validN m = false)) (H_m : Hid (kN.At w (.agg #[.slice x0 n0 c0]) m)) (HMB : Hid (bulk m ≤ 1200000)) (K0 : Hid (w.cell? ⟨b, off + k * 3, none⟩ = some (.slice x0 n0 c0)))
  (hQ : ∀ (u10 u11 u12 u13 u14 u15 u16 u17 u18 u19 u20 u21 u22 u23 u24 u25 u26 u27 u28 u29 u30 u31 u32 u33 u34 u35 u36 u37 u38 u39 u40 u41 u42 u43 u44 u45 u46 u47 u48 u49 u50 : Value)  (wx : World), Below w.heap.size w wx → Q .normal ⟨#[.slice (some ⟨b, off, none⟩) n c, v1, v2, .int .i64 k, v4, v5, v6, v7, v8, v9, u10, u11, u12, u13, u14, u15, u16, u17, u18, u19, u20, u21, u22, u23, u24, u25, u26, u27, u28, u29, u30, u31, u32, u33, u34, u35, u36, u37, u38, u39, u40, u41, u42, u43, u44, u45, u46, u47, u48, u49, u50, .bool true, v52, v53, v54], []⟩ wx) :
  (Code.region 4 #[⟨some 10, .move (.tmp 0), 42, "l14_route.go:16", #[], none⟩,
   ⟨some 11, .move (.tmp 3), 3, "l14_route.go:16", #[], none⟩,
   ⟨some 12, .indexAddr 42 (.tmp 10) (.tmp 11), 0, "l14_route.go:16", #[⟨0, .data⟩, ⟨1, .data⟩], none⟩,
   ⟨some 13, .fieldAddr 53 (.tmp 12) 0, 0, "l14_route.go:16", #[⟨2, .data⟩], none⟩,
   ⟨some 14, .load 27 (.tmp 13), 27, "l14_route.go:16", #[⟨3, .data⟩], none⟩,
   ⟨some 15, .call ⟨.value (.func 51), #[.tmp 14], #[27]⟩, 4, "l14_route.go:16", #[⟨4, .data⟩], none⟩,
   ⟨some 16, .unOp UnOp.not 4 (.tmp 15), 4, "l14_route.go:16", #[⟨5, .data⟩], none⟩,
   ⟨some 17, .move (.tmp 16), 4, "l14_route.go:16", #[⟨6, .data⟩, ⟨5, .chain⟩], none⟩,
   ⟨some 18, .move (.tmp 0), 42, "l14_route.go:16", #[⟨7, .guard⟩], some (7, false)⟩,
   ⟨some 19, .move (.tmp 3), 3, "l14_route.go:16", #[⟨7, .guard⟩], some (7, false)⟩,
   ⟨some 20, .indexAddr 42 (.tmp 18) (.tmp 19), 0, "l14_route.go:16", #[⟨8, .data⟩, ⟨9, .data⟩, ⟨7, .guard⟩], some (7, false)⟩,
   ⟨some 21, .fieldAddr 53 (.tmp 20) 1, 0, "l14_route.go:16", #[⟨10, .data⟩, ⟨7, .guard⟩], some (7, false)⟩,
   ⟨some 22, .load 3 (.tmp 21), 3, "l14_route.go:16", #[⟨11, .data⟩, ⟨7, .guard⟩], some (7, false)⟩,
   ⟨some 23, .call ⟨.value (.func 52), #[.tmp 22, .const (Value.int IntKind.i64 1), .const (Value.int IntKind.i64 6)], #[3, 3, 3]⟩, 4, "l14_route.go:16", #[⟨12, .data⟩, ⟨7, .chain⟩, ⟨7, .guard⟩], some (7, false)⟩,
   ⟨some 24, .unOp UnOp.not 4 (.tmp 23), 4, "l14_route.go:16", #[⟨13, .data⟩, ⟨7, .guard⟩], some (7, false)⟩,
   ⟨some 25, .pick (.tmp 17) (.const (Value.bool true)) (.tmp 24), 4, "l14_route.go:16", #[⟨7, .data⟩, ⟨14, .data⟩], none⟩,
   ⟨some 26, .move (.tmp 25), 4, "l14_route.go:16", #[⟨15, .data⟩, ⟨13, .chain⟩], none⟩,
   ⟨some 27, .move (.tmp 0), 42, "l14_route.go:16", #[⟨16, .guard⟩], some (16, false)⟩,
   ⟨some 28, .move (.tmp 3), 3, "l14_route.go:16", #[⟨16, .guard⟩], some (16, false)⟩,
   ⟨some 29, .indexAddr 42 (.tmp 27) (.tmp 28), 0, "l14_route.go:16", #[⟨17, .data⟩, ⟨18, .data⟩, ⟨16, .guard⟩], some (16, false)⟩,
   ⟨some 30, .fieldAddr 53 (.tmp 29) 2, 0, "l14_route.go:16", #[⟨19, .data⟩, ⟨16, .guard⟩], some (16, false)⟩,
   ⟨some 31, .load 3 (.tmp 30), 3, "l14_route.go:16", #[⟨20, .data⟩, ⟨16, .guard⟩], some (16, false)⟩,
   ⟨some 32, .call ⟨.value (.func 52), #[.tmp 31, .const (Value.int IntKind.i64 0), .const (Value.int IntKind.i64 1000)], #[3, 3, 3]⟩, 4, "l14_route.go:16", #[⟨21, .data⟩, ⟨16, .chain⟩, ⟨16, .guard⟩], some (16, false)⟩,
   ⟨some 33, .unOp UnOp.not 4 (.tmp 32), 4, "l14_route.go:16", #[⟨22, .data⟩, ⟨16, .guard⟩], some (16, false)⟩,
   ⟨some 34, .pick (.tmp 26) (.const (Value.bool true)) (.tmp 33), 4, "l14_route.go:16", #[⟨16, .data⟩, ⟨23, .data⟩], none⟩,
   ⟨some 35, .move (.tmp 34), 4, "l14_route.go:16", #[⟨24, .data⟩, ⟨22, .chain⟩], none⟩,
   ⟨some 36, .move (.tmp 0), 42, "l14_route.go:16", #[⟨25, .guard⟩], some (25, false)⟩,
   ⟨some 37, .move (.tmp 3), 3, "l14_route.go:16", #[⟨25, .guard⟩], some (25, false)⟩,
   ⟨some 38, .slice 42 (.tmp 36) none (some (.tmp 37)) none, 42, "l14_route.go:16", #[⟨26, .data⟩, ⟨27, .data⟩, ⟨25, .guard⟩], some (25, false)⟩,
   ⟨some 39, .move (.tmp 0), 42, "l14_route.go:16", #[⟨25, .guard⟩], some (25, false)⟩,
   ⟨some 40, .move (.tmp 3), 3, "l14_route.go:16", #[⟨25, .guard⟩], some (25, false)⟩,
   ⟨some 41, .indexAddr 42 (.tmp 39) (.tmp 40), 0, "l14_route.go:16", #[⟨29, .data⟩, ⟨30, .data⟩, ⟨25, .guard⟩], some (25, false)⟩,
   ⟨some 42, .fieldAddr 53 (.tmp 41) 0, 0, "l14_route.go:16", #[⟨31, .data⟩, ⟨25, .guard⟩], some (25, false)⟩,
   ⟨some 43, .load 27 (.tmp 42), 27, "l14_route.go:16", #[⟨32, .data⟩, ⟨25, .guard⟩], some (25, false)⟩,
   ⟨some 44, .move (.tmp 0), 42, "l14_route.go:16", #[⟨25, .guard⟩], some (25, false)⟩,
   ⟨some 45, .move (.tmp 3), 3, "l14_route.go:16", #[⟨25, .guard⟩], some (25, false)⟩,
   ⟨some 46, .indexAddr 42 (.tmp 44) (.tmp 45), 0, "l14_route.go:16", #[⟨34, .data⟩, ⟨35, .data⟩, ⟨25, .guard⟩], some (25, false)⟩,
   ⟨some 47, .fieldAddr 53 (.tmp 46) 1, 0, "l14_route.go:16", #[⟨36, .data⟩, ⟨25, .guard⟩], some (25, false)⟩,
   ⟨some 48, .load 3 (.tmp 47), 3, "l14_route.go:16", #[⟨37, .data⟩, ⟨25, .guard⟩], some (25, false)⟩,
   ⟨some 49, .call ⟨.value (.func 53), #[.tmp 38, .tmp 43, .tmp 48], #[42, 27, 3]⟩, 3, "l14_route.go:16", #[⟨28, .data⟩, ⟨33, .data⟩, ⟨38, .data⟩, ⟨25, .chain⟩, ⟨25, .guard⟩], some (25, false)⟩,
   ⟨some 50, .binOp BinOp.geq 3 (.tmp 49) (.const (Value.int IntKind.i64 0)) 3, 4, "l14_route.go:16", #[⟨39, .data⟩, ⟨25, .guard⟩], some (25, false)⟩,
   ⟨some 51, .pick (.tmp 35) (.const (Value.bool true)) (.tmp 50), 4, "l14_route.go:16", #[⟨25, .data⟩, ⟨40, .data⟩], none⟩] true).wp Try.prog Q ⟨#[.slice (some ⟨b, off, none⟩) n c, v1, v2, .int .i64 k, v4, v5, v6, v7, v8, v9, v10, v11, v12, v13, v14, v15, v16, v17, v18, v19, v20, v21, v22, v23, v24, v25, v26, v27, v28, v29, v30, v31, v32, v33, v34, v35, v36, v37, v38, v39, v40, v41, v42, v43, v44, v45, v46, v47, v48, v49, v50, v51, v52, v53, v54], []⟩ w := by
 have HQ := Lib.hid hQ; clear hQ
 have hdr : Below w.heap.size w w.drew := (Below.refl _ _).drew
 have BB := Lib.hid hdr
 refine wp_region_noPanic ?_
 refine wp_region_held_drew (S := (fun w' => w'.cell? ⟨b, off + k * 3, none⟩ = some (.slice x0 n0 c0))) (by kernel_rfl) ?_ (fun hHeld => ?_)
 ·
  exact kc K0.out BB.out
 clear hdr
 generalize w.drew = wd at *
 refine wpAnyH_take (i := 0) (oi := ⟨some 10, .move (.tmp 0), 42, "l14_route.go:16", #[], none⟩) (v := ?_) rfl (by kernel_rfl) (by kernel_rfl) (by kernel_rfl) (fun _ _ _ h => h) (Or.inl ⟨by rfl, ?_⟩) (by assumption) ?_
 rotate_left
 ·
  intro w' hSw; (try dsimp only at hSw); first | (go_simp; done) | (go_simp; with_reducible rfl)
 (try simp only [Act.put, Row.pB0, Row.pB1, Row.pB2])
 refine wpAnyH_take (i := 1) (oi := ⟨some 11, .move (.tmp 3), 3, "l14_route.go:16", #[], none⟩) (v := ?_) rfl (by kernel_rfl) (by kernel_rfl) (by kernel_rfl) (fun _ _ _ h => h) (Or.inl ⟨by rfl, ?_⟩) (by assumption) ?_
 rotate_left
 ·
  intro w' hSw; (try dsimp only at hSw); first | (go_simp; done) | (go_simp; with_reducible rfl)
 (try simp only [Act.put, Row.pB0, Row.pB1, Row.pB2])
 refine wpAnyH_take (i := 2) (oi := ⟨some 12, .indexAddr 42 (.tmp 10) (.tmp 11), 0, "l14_route.go:16", #[⟨0, .data⟩, ⟨1, .data⟩], none⟩) (v := ?_) rfl (by kernel_rfl) (by kernel_rfl) (by kernel_rfl) (fun _ _ _ h => h) (Or.inl ⟨by rfl, ?_⟩) (by assumption) ?_
 rotate_left
 ·
  intro w' hSw; (try dsimp only at hSw); first | (go_simp; done) | (go_simp; with_reducible rfl)
 (try simp only [Act.put, Row.pB0, Row.pB1, Row.pB2])
 refine wpAnyH_take (i := 3) (oi := ⟨some 13, .fieldAddr 53 (.tmp 12) 0, 0, "l14_route.go:16", #[⟨2, .data⟩], none⟩) (v := ?_) rfl (by kernel_rfl) (by kernel_rfl) (by kernel_rfl) (fun _ _ _ h => h) (Or.inl ⟨by rfl, ?_⟩) (by assumption) ?_
 rotate_left
 ·
  intro w' hSw; (try dsimp only at hSw); first | (go_simp; done) | (go_simp; with_reducible rfl)
 (try simp only [Act.put, Row.pB0, Row.pB1, Row.pB2])
 refine wpAnyH_take (i := 4) (oi := ⟨some 14, .load 27 (.tmp 13), 27, "l14_route.go:16", #[⟨3, .data⟩], none⟩) (v := ?_) rfl (by kernel_rfl) (by kernel_rfl) (by kernel_rfl) (fun _ _ _ h => h) (Or.inl ⟨by rfl, ?_⟩) (by assumption) ?_
 rotate_left
 ·
  intro w' hSw; (try dsimp only at hSw); first | (go_simp; done) | (go_simp; with_reducible rfl)
 (try simp only [Act.put, Row.pB0, Row.pB1, Row.pB2])
 refine wpAnyH_ready (rs := [5]) (by kernel_rfl) (by simp) ?_
 refine AllReadyH.cons (o := ⟨some 15, .call ⟨.value (.func 51), #[.tmp 14], #[27]⟩, 4, "l14_route.go:16", #[⟨4, .data⟩], none⟩) rfl (fun K hK => ?_) AllReadyH.nil
 go_simp
 refine (sValN false HV.out (H_m.out.on BB.out) (Nat.le_trans HMB.out (by decide))).mono ?_
 rintro e wn1 ⟨rfl, hb⟩
 replace BB := Lib.hid (BB.out.trans (hb.mono BB.out.size))
 clear hb
 (try go_wp2_with fail)
 clear hHeld
 refine hK.out _ _ ?_ (fun hHeld => ?_)
 ·
  (try dsimp only); exact kc K0.out BB.out
 clear hK K
 (try simp only [Act.put, Row.pB0, Row.pB1, Row.pB2])
 refine wpAnyH_take (i := 6) (oi := ⟨some 16, .unOp UnOp.not 4 (.tmp 15), 4, "l14_route.go:16", #[⟨5, .data⟩], none⟩) (v := ?_) rfl (by kernel_rfl) (by kernel_rfl) (by kernel_rfl) (fun _ _ _ h => h) (Or.inl ⟨by rfl, ?_⟩) (by assumption) ?_
 rotate_left
 ·
  intro w' hSw; (try dsimp only at hSw); first | (go_simp; done) | (go_simp; with_reducible rfl)
 (try simp only [Act.put, Row.pB0, Row.pB1, Row.pB2])
 refine wpAnyH_take (i := 7) (oi := ⟨some 17, .move (.tmp 16), 4, "l14_route.go:16", #[⟨6, .data⟩, ⟨5, .chain⟩], none⟩) (v := ?_) rfl (by kernel_rfl) (by kernel_rfl) (by kernel_rfl) (fun _ _ _ h => h) (Or.inl ⟨by rfl, ?_⟩) (by assumption) ?_
 rotate_left
 ·
  intro w' hSw; (try dsimp only at hSw); first | (go_simp; done) | (go_simp; with_reducible rfl)
 (try simp only [Act.put, Row.pB0, Row.pB1, Row.pB2])
 refine wpAnyH_take (i := 8) (oi := ⟨some 18, .move (.tmp 0), 42, "l14_route.go:16", #[⟨7, .guard⟩], some (7, false)⟩) (v := undef) rfl (by kernel_rfl) (by kernel_rfl) (by kernel_rfl) (fun _ _ _ h => h) (Or.inr ⟨by rfl, rfl⟩) (by assumption) ?_
 (try simp only [Act.put, Row.pB0, Row.pB1, Row.pB2])
 refine wpAnyH_take (i := 9) (oi := ⟨some 19, .move (.tmp 3), 3, "l14_route.go:16", #[⟨7, .guard⟩], some (7, false)⟩) (v := undef) rfl (by kernel_rfl) (by kernel_rfl) (by kernel_rfl) (fun _ _ _ h => h) (Or.inr ⟨by rfl, rfl⟩) (by assumption) ?_
 (try simp only [Act.put, Row.pB0, Row.pB1, Row.pB2])
 refine wpAnyH_take (i := 10) (oi := ⟨some 20, .indexAddr 42 (.tmp 18) (.tmp 19), 0, "l14_route.go:16", #[⟨8, .data⟩, ⟨9, .data⟩, ⟨7, .guard⟩], some (7, false)⟩) (v := undef) rfl (by kernel_rfl) (by kernel_rfl) (by kernel_rfl) (fun _ _ _ h => h) (Or.inr ⟨by rfl, rfl⟩) (by assumption) ?_
 (try simp only [Act.put, Row.pB0, Row.pB1, Row.pB2])
 refine wpAnyH_take (i := 11) (oi := ⟨some 21, .fieldAddr 53 (.tmp 20) 1, 0, "l14_route.go:16", #[⟨10, .data⟩, ⟨7, .guard⟩], some (7, false)⟩) (v := undef) rfl (by kernel_rfl) (by kernel_rfl) (by kernel_rfl) (fun _ _ _ h => h) (Or.inr ⟨by rfl, rfl⟩) (by assumption) ?_
 (try simp only [Act.put, Row.pB0, Row.pB1, Row.pB2])
 refine wpAnyH_take (i := 12) (oi := ⟨some 22, .load 3 (.tmp 21), 3, "l14_route.go:16", #[⟨11, .data⟩, ⟨7, .guard⟩], some (7, false)⟩) (v := undef) rfl (by kernel_rfl) (by kernel_rfl) (by kernel_rfl) (fun _ _ _ h => h) (Or.inr ⟨by rfl, rfl⟩) (by assumption) ?_
 (try simp only [Act.put, Row.pB0, Row.pB1, Row.pB2])
 refine wpAnyH_take (i := 13) (oi := ⟨some 23, .call ⟨.value (.func 52), #[.tmp 22, .const (Value.int IntKind.i64 1), .const (Value.int IntKind.i64 6)], #[3, 3, 3]⟩, 4, "l14_route.go:16", #[⟨12, .data⟩, ⟨7, .chain⟩, ⟨7, .guard⟩], some (7, false)⟩) (v := undef) rfl (by kernel_rfl) (by kernel_rfl) (by kernel_rfl) (fun _ _ _ h => h) (Or.inr ⟨by rfl, rfl⟩) (by assumption) ?_
 (try simp only [Act.put, Row.pB0, Row.pB1, Row.pB2])
 refine wpAnyH_take (i := 14) (oi := ⟨some 24, .unOp UnOp.not 4 (.tmp 23), 4, "l14_route.go:16", #[⟨13, .data⟩, ⟨7, .guard⟩], some (7, false)⟩) (v := undef) rfl (by kernel_rfl) (by kernel_rfl) (by kernel_rfl) (fun _ _ _ h => h) (Or.inr ⟨by rfl, rfl⟩) (by assumption) ?_
 (try simp only [Act.put, Row.pB0, Row.pB1, Row.pB2])
 refine wpAnyH_take (i := 15) (oi := ⟨some 25, .pick (.tmp 17) (.const (Value.bool true)) (.tmp 24), 4, "l14_route.go:16", #[⟨7, .data⟩, ⟨14, .data⟩], none⟩) (v := ?_) rfl (by kernel_rfl) (by kernel_rfl) (by kernel_rfl) (fun _ _ _ h => h) (Or.inl ⟨by rfl, ?_⟩) (by assumption) ?_
 rotate_left
 ·
  intro w' hSw; (try dsimp only at hSw); first | (go_simp; done) | (go_simp; with_reducible rfl)
 (try simp only [Act.put, Row.pB0, Row.pB1, Row.pB2])
 refine wpAnyH_take (i := 16) (oi := ⟨some 26, .move (.tmp 25), 4, "l14_route.go:16", #[⟨15, .data⟩, ⟨13, .chain⟩], none⟩) (v := ?_) rfl (by kernel_rfl) (by kernel_rfl) (by kernel_rfl) (fun _ _ _ h => h) (Or.inl ⟨by rfl, ?_⟩) (by assumption) ?_
 rotate_left
 ·
  intro w' hSw; (try dsimp only at hSw); first | (go_simp; done) | (go_simp; with_reducible rfl)
 (try simp only [Act.put, Row.pB0, Row.pB1, Row.pB2])
 refine wpAnyH_take (i := 17) (oi := ⟨some 27, .move (.tmp 0), 42, "l14_route.go:16", #[⟨16, .guard⟩], some (16, false)⟩) (v := undef) rfl (by kernel_rfl) (by kernel_rfl) (by kernel_rfl) (fun _ _ _ h => h) (Or.inr ⟨by rfl, rfl⟩) (by assumption) ?_
 (try simp only [Act.put, Row.pB0, Row.pB1, Row.pB2])
 refine wpAnyH_take (i := 18) (oi := ⟨some 28, .move (.tmp 3), 3, "l14_route.go:16", #[⟨16, .guard⟩], some (16, false)⟩) (v := undef) rfl (by kernel_rfl) (by kernel_rfl) (by kernel_rfl) (fun _ _ _ h => h) (Or.inr ⟨by rfl, rfl⟩) (by assumption) ?_
 (try simp only [Act.put, Row.pB0, Row.pB1, Row.pB2])
 refine wpAnyH_take (i := 19) (oi := ⟨some 29, .indexAddr 42 (.tmp 27) (.tmp 28), 0, "l14_route.go:16", #[⟨17, .data⟩, ⟨18, .data⟩, ⟨16, .guard⟩], some (16, false)⟩) (v := undef) rfl (by kernel_rfl) (by kernel_rfl) (by kernel_rfl) (fun _ _ _ h => h) (Or.inr ⟨by rfl, rfl⟩) (by assumption) ?_
 (try simp only [Act.put, Row.pB0, Row.pB1, Row.pB2])
 refine wpAnyH_take (i := 20) (oi := ⟨some 30, .fieldAddr 53 (.tmp 29) 2, 0, "l14_route.go:16", #[⟨19, .data⟩, ⟨16, .guard⟩], some (16, false)⟩) (v := undef) rfl (by kernel_rfl) (by kernel_rfl) (by kernel_rfl) (fun _ _ _ h => h) (Or.inr ⟨by rfl, rfl⟩) (by assumption) ?_
 (try simp only [Act.put, Row.pB0, Row.pB1, Row.pB2])
 refine wpAnyH_take (i := 21) (oi := ⟨some 31, .load 3 (.tmp 30), 3, "l14_route.go:16", #[⟨20, .data⟩, ⟨16, .guard⟩], some (16, false)⟩) (v := undef) rfl (by kernel_rfl) (by kernel_rfl) (by kernel_rfl) (fun _ _ _ h => h) (Or.inr ⟨by rfl, rfl⟩) (by assumption) ?_
 (try simp only [Act.put, Row.pB0, Row.pB1, Row.pB2])
 refine wpAnyH_take (i := 22) (oi := ⟨some 32, .call ⟨.value (.func 52), #[.tmp 31, .const (Value.int IntKind.i64 0), .const (Value.int IntKind.i64 1000)], #[3, 3, 3]⟩, 4, "l14_route.go:16", #[⟨21, .data⟩, ⟨16, .chain⟩, ⟨16, .guard⟩], some (16, false)⟩) (v := undef) rfl (by kernel_rfl) (by kernel_rfl) (by kernel_rfl) (fun _ _ _ h => h) (Or.inr ⟨by rfl, rfl⟩) (by assumption) ?_
 (try simp only [Act.put, Row.pB0, Row.pB1, Row.pB2])
 refine wpAnyH_take (i := 23) (oi := ⟨some 33, .unOp UnOp.not 4 (.tmp 32), 4, "l14_route.go:16", #[⟨22, .data⟩, ⟨16, .guard⟩], some (16, false)⟩) (v := undef) rfl (by kernel_rfl) (by kernel_rfl) (by kernel_rfl) (fun _ _ _ h => h) (Or.inr ⟨by rfl, rfl⟩) (by assumption) ?_
 (try simp only [Act.put, Row.pB0, Row.pB1, Row.pB2])
 refine wpAnyH_take (i := 24) (oi := ⟨some 34, .pick (.tmp 26) (.const (Value.bool true)) (.tmp 33), 4, "l14_route.go:16", #[⟨16, .data⟩, ⟨23, .data⟩], none⟩) (v := ?_) rfl (by kernel_rfl) (by kernel_rfl) (by kernel_rfl) (fun _ _ _ h => h) (Or.inl ⟨by rfl, ?_⟩) (by assumption) ?_
 rotate_left
 ·
  intro w' hSw; (try dsimp only at hSw); first | (go_simp; done) | (go_simp; with_reducible rfl)
 (try simp only [Act.put, Row.pB0, Row.pB1, Row.pB2])
 refine wpAnyH_take (i := 25) (oi := ⟨some 35, .move (.tmp 34), 4, "l14_route.go:16", #[⟨24, .data⟩, ⟨22, .chain⟩], none⟩) (v := ?_) rfl (by kernel_rfl) (by kernel_rfl) (by kernel_rfl) (fun _ _ _ h => h) (Or.inl ⟨by rfl, ?_⟩) (by assumption) ?_
 rotate_left
 ·
  intro w' hSw; (try dsimp only at hSw); first | (go_simp; done) | (go_simp; with_reducible rfl)
 (try simp only [Act.put, Row.pB0, Row.pB1, Row.pB2])
 refine wpAnyH_take (i := 26) (oi := ⟨some 36, .move (.tmp 0), 42, "l14_route.go:16", #[⟨25, .guard⟩], some (25, false)⟩) (v := undef) rfl (by kernel_rfl) (by kernel_rfl) (by kernel_rfl) (fun _ _ _ h => h) (Or.inr ⟨by rfl, rfl⟩) (by assumption) ?_
 (try simp only [Act.put, Row.pB0, Row.pB1, Row.pB2])
 refine wpAnyH_take (i := 27) (oi := ⟨some 37, .move (.tmp 3), 3, "l14_route.go:16", #[⟨25, .guard⟩], some (25, false)⟩) (v := undef) rfl (by kernel_rfl) (by kernel_rfl) (by kernel_rfl) (fun _ _ _ h => h) (Or.inr ⟨by rfl, rfl⟩) (by assumption) ?_
 (try simp only [Act.put, Row.pB0, Row.pB1, Row.pB2])
 refine wpAnyH_take (i := 28) (oi := ⟨some 38, .slice 42 (.tmp 36) none (some (.tmp 37)) none, 42, "l14_route.go:16", #[⟨26, .data⟩, ⟨27, .data⟩, ⟨25, .guard⟩], some (25, false)⟩) (v := undef) rfl (by kernel_rfl) (by kernel_rfl) (by kernel_rfl) (fun _ _ _ h => h) (Or.inr ⟨by rfl, rfl⟩) (by assumption) ?_
 (try simp only [Act.put, Row.pB0, Row.pB1, Row.pB2])
 refine wpAnyH_take (i := 29) (oi := ⟨some 39, .move (.tmp 0), 42, "l14_route.go:16", #[⟨25, .guard⟩], some (25, false)⟩) (v := undef) rfl (by kernel_rfl) (by kernel_rfl) (by kernel_rfl) (fun _ _ _ h => h) (Or.inr ⟨by rfl, rfl⟩) (by assumption) ?_
 (try simp only [Act.put, Row.pB0, Row.pB1, Row.pB2])
 refine wpAnyH_take (i := 30) (oi := ⟨some 40, .move (.tmp 3), 3, "l14_route.go:16", #[⟨25, .guard⟩], some (25, false)⟩) (v := undef) rfl (by kernel_rfl) (by kernel_rfl) (by kernel_rfl) (fun _ _ _ h => h) (Or.inr ⟨by rfl, rfl⟩) (by assumption) ?_
 (try simp only [Act.put, Row.pB0, Row.pB1, Row.pB2])
 refine wpAnyH_take (i := 31) (oi := ⟨some 41, .indexAddr 42 (.tmp 39) (.tmp 40), 0, "l14_route.go:16", #[⟨29, .data⟩, ⟨30, .data⟩, ⟨25, .guard⟩], some (25, false)⟩) (v := undef) rfl (by kernel_rfl) (by kernel_rfl) (by kernel_rfl) (fun _ _ _ h => h) (Or.inr ⟨by rfl, rfl⟩) (by assumption) ?_
 (try simp only [Act.put, Row.pB0, Row.pB1, Row.pB2])
 refine wpAnyH_take (i := 32) (oi := ⟨some 42, .fieldAddr 53 (.tmp 41) 0, 0, "l14_route.go:16", #[⟨31, .data⟩, ⟨25, .guard⟩], some (25, false)⟩) (v := undef) rfl (by kernel_rfl) (by kernel_rfl) (by kernel_rfl) (fun _ _ _ h => h) (Or.inr ⟨by rfl, rfl⟩) (by assumption) ?_
 (try simp only [Act.put, Row.pB0, Row.pB1, Row.pB2])
 refine wpAnyH_take (i := 33) (oi := ⟨some 43, .load 27 (.tmp 42), 27, "l14_route.go:16", #[⟨32, .data⟩, ⟨25, .guard⟩], some (25, false)⟩) (v := undef) rfl (by kernel_rfl) (by kernel_rfl) (by kernel_rfl) (fun _ _ _ h => h) (Or.inr ⟨by rfl, rfl⟩) (by assumption) ?_
 (try simp only [Act.put, Row.pB0, Row.pB1, Row.pB2])
 refine wpAnyH_take (i := 34) (oi := ⟨some 44, .move (.tmp 0), 42, "l14_route.go:16", #[⟨25, .guard⟩], some (25, false)⟩) (v := undef) rfl (by kernel_rfl) (by kernel_rfl) (by kernel_rfl) (fun _ _ _ h => h) (Or.inr ⟨by rfl, rfl⟩) (by assumption) ?_
 (try simp only [Act.put, Row.pB0, Row.pB1, Row.pB2])
 refine wpAnyH_take (i := 35) (oi := ⟨some 45, .move (.tmp 3), 3, "l14_route.go:16", #[⟨25, .guard⟩], some (25, false)⟩) (v := undef) rfl (by kernel_rfl) (by kernel_rfl) (by kernel_rfl) (fun _ _ _ h => h) (Or.inr ⟨by rfl, rfl⟩) (by assumption) ?_
 (try simp only [Act.put, Row.pB0, Row.pB1, Row.pB2])
 refine wpAnyH_take (i := 36) (oi := ⟨some 46, .indexAddr 42 (.tmp 44) (.tmp 45), 0, "l14_route.go:16", #[⟨34, .data⟩, ⟨35, .data⟩, ⟨25, .guard⟩], some (25, false)⟩) (v := undef) rfl (by kernel_rfl) (by kernel_rfl) (by kernel_rfl) (fun _ _ _ h => h) (Or.inr ⟨by rfl, rfl⟩) (by assumption) ?_
 (try simp only [Act.put, Row.pB0, Row.pB1, Row.pB2])
 refine wpAnyH_take (i := 37) (oi := ⟨some 47, .fieldAddr 53 (.tmp 46) 1, 0, "l14_route.go:16", #[⟨36, .data⟩, ⟨25, .guard⟩], some (25, false)⟩) (v := undef) rfl (by kernel_rfl) (by kernel_rfl) (by kernel_rfl) (fun _ _ _ h => h) (Or.inr ⟨by rfl, rfl⟩) (by assumption) ?_
 (try simp only [Act.put, Row.pB0, Row.pB1, Row.pB2])
 refine wpAnyH_take (i := 38) (oi := ⟨some 48, .load 3 (.tmp 47), 3, "l14_route.go:16", #[⟨37, .data⟩, ⟨25, .guard⟩], some (25, false)⟩) (v := undef) rfl (by kernel_rfl) (by kernel_rfl) (by kernel_rfl) (fun _ _ _ h => h) (Or.inr ⟨by rfl, rfl⟩) (by assumption) ?_
 (try simp only [Act.put, Row.pB0, Row.pB1, Row.pB2])
 refine wpAnyH_take (i := 39) (oi := ⟨some 49, .call ⟨.value (.func 53), #[.tmp 38, .tmp 43, .tmp 48], #[42, 27, 3]⟩, 3, "l14_route.go:16", #[⟨28, .data⟩, ⟨33, .data⟩, ⟨38, .data⟩, ⟨25, .chain⟩, ⟨25, .guard⟩], some (25, false)⟩) (v := undef) rfl (by kernel_rfl) (by kernel_rfl) (by kernel_rfl) (fun _ _ _ h => h) (Or.inr ⟨by rfl, rfl⟩) (by assumption) ?_
 (try simp only [Act.put, Row.pB0, Row.pB1, Row.pB2])
 refine wpAnyH_take (i := 40) (oi := ⟨some 50, .binOp BinOp.geq 3 (.tmp 49) (.const (Value.int IntKind.i64 0)) 3, 4, "l14_route.go:16", #[⟨39, .data⟩, ⟨25, .guard⟩], some (25, false)⟩) (v := undef) rfl (by kernel_rfl) (by kernel_rfl) (by kernel_rfl) (fun _ _ _ h => h) (Or.inr ⟨by rfl, rfl⟩) (by assumption) ?_
 (try simp only [Act.put, Row.pB0, Row.pB1, Row.pB2])
 refine wpAnyH_take (i := 41) (oi := ⟨some 51, .pick (.tmp 35) (.const (Value.bool true)) (.tmp 50), 4, "l14_route.go:16", #[⟨25, .data⟩, ⟨40, .data⟩], none⟩) (v := ?_) rfl (by kernel_rfl) (by kernel_rfl) (by kernel_rfl) (fun _ _ _ h => h) (Or.inl ⟨by rfl, ?_⟩) (by assumption) ?_
 rotate_left
 ·
  intro w' hSw; (try dsimp only at hSw); first | (go_simp; done) | (go_simp; with_reducible rfl)
 (try simp only [Act.put, Row.pB0, Row.pB1, Row.pB2])
 refine wpAnyH_done (by kernel_rfl) ?_ _
 exact NoPanic.normal (HQ.out _ _ _ _ _ _ _ _ _ _ _ _ _ _ _ _ _ _ _ _ _ _ _ _ _ _ _ _ _ _ _ _ _ _ _ _ _ _ _ _ _  _  BB.out)
set_option maxRecDepth 100000 in
set_option maxHeartbeats 4000000 in
theorem rvt1 {Q : Exit → Act → World → Prop} {v1 v2 v4 v5 v6 v7 v8 v9 v10 v11 v12 v13 v14 v15 v16 v17 v18 v19 v20 v21 v22 v23 v24 v25 v26 v27 v28 v29 v30 v31 v32 v33 v34 v35 v36 v37 v38 v39 v40 v41 v42 v43 v44 v45 v46 v47 v48 v49 v50 v51 v52 v53 v54 : Value} {w : World} {b off n c k n0 c0 : Nat} {x0 : Option Addr} {rf : Int} {m : List ByteArray}   (hk : k < n) (hkc : k ≤ c) (hn : n ≤ 9000000) (HV : Hid (validN m = true)) (H_m : Hid (kN.At w (.agg #[.slice x0 n0 c0]) m)) (HMB : Hid (bulk m ≤ 1200000)) (HF : Hid (Num.inB rf 1 6 = false)) (K0 : Hid (w.cell? ⟨b, off + k * 3, none⟩ = some (.slice x0 n0 c0))) (K1 : Hid (w.cell? ⟨b, off + k * 3 + 1, none⟩ = some (.int .i64 rf)))
  (hQ : ∀ (u10 u11 u12 u13 u14 u15 u16 u17 u18 u19 u20 u21 u22 u23 u24 u25 u26 u27 u28 u29 u30 u31 u32 u33 u34 u35 u36 u37 u38 u39 u40 u41 u42 u43 u44 u45 u46 u47 u48 u49 u50 : Value)  (wx : World), Below w.heap.size w wx → Q .normal ⟨#[.slice (some ⟨b, off, none⟩) n c, v1, v2, .int .i64 k, v4, v5, v6, v7, v8, v9, u10, u11, u12, u13, u14, u15, u16, u17, u18, u19, u20, u21, u22, u23, u24, u25, u26, u27, u28, u29, u30, u31, u32, u33, u34, u35, u36, u37, u38, u39, u40, u41, u42, u43, u44, u45, u46, u47, u48, u49, u50, .bool true, v52, v53, v54], []⟩ wx) :
  (Code.region 4 #[⟨some 10, .move (.tmp 0), 42, "l14_route.go:16", #[], none⟩,
   ⟨some 11, .move (.tmp 3), 3, "l14_route.go:16", #[], none⟩,
   ⟨some 12, .indexAddr 42 (.tmp 10) (.tmp 11), 0, "l14_route.go:16", #[⟨0, .data⟩, ⟨1, .data⟩], none⟩,
   ⟨some 13, .fieldAddr 53 (.tmp 12) 0, 0, "l14_route.go:16", #[⟨2, .data⟩], none⟩,
   ⟨some 14, .load 27 (.tmp 13), 27, "l14_route.go:16", #[⟨3, .data⟩], none⟩,
   ⟨some 15, .call ⟨.value (.func 51), #[.tmp 14], #[27]⟩, 4, "l14_route.go:16", #[⟨4, .data⟩], none⟩,
   ⟨some 16, .unOp UnOp.not 4 (.tmp 15), 4, "l14_route.go:16", #[⟨5, .data⟩], none⟩,
   ⟨some 17, .move (.tmp 16), 4, "l14_route.go:16", #[⟨6, .data⟩, ⟨5, .chain⟩], none⟩,
   ⟨some 18, .move (.tmp 0), 42, "l14_route.go:16", #[⟨7, .guard⟩], some (7, false)⟩,
   ⟨some 19, .move (.tmp 3), 3, "l14_route.go:16", #[⟨7, .guard⟩], some (7, false)⟩,
   ⟨some 20, .indexAddr 42 (.tmp 18) (.tmp 19), 0, "l14_route.go:16", #[⟨8, .data⟩, ⟨9, .data⟩, ⟨7, .guard⟩], some (7, false)⟩,
   ⟨some 21, .fieldAddr 53 (.tmp 20) 1, 0, "l14_route.go:16", #[⟨10, .data⟩, ⟨7, .guard⟩], some (7, false)⟩,
   ⟨some 22, .load 3 (.tmp 21), 3, "l14_route.go:16", #[⟨11, .data⟩, ⟨7, .guard⟩], some (7, false)⟩,
   ⟨some 23, .call ⟨.value (.func 52), #[.tmp 22, .const (Value.int IntKind.i64 1), .const (Value.int IntKind.i64 6)], #[3, 3, 3]⟩, 4, "l14_route.go:16", #[⟨12, .data⟩, ⟨7, .chain⟩, ⟨7, .guard⟩], some (7, false)⟩,
   ⟨some 24, .unOp UnOp.not 4 (.tmp 23), 4, "l14_route.go:16", #[⟨13, .data⟩, ⟨7, .guard⟩], some (7, false)⟩,
   ⟨some 25, .pick (.tmp 17) (.const (Value.bool true)) (.tmp 24), 4, "l14_route.go:16", #[⟨7, .data⟩, ⟨14, .data⟩], none⟩,
   ⟨some 26, .move (.tmp 25), 4, "l14_route.go:16", #[⟨15, .data⟩, ⟨13, .chain⟩], none⟩,
   ⟨some 27, .move (.tmp 0), 42, "l14_route.go:16", #[⟨16, .guard⟩], some (16, false)⟩,
   ⟨some 28, .move (.tmp 3), 3, "l14_route.go:16", #[⟨16, .guard⟩], some (16, false)⟩,
   ⟨some 29, .indexAddr 42 (.tmp 27) (.tmp 28), 0, "l14_route.go:16", #[⟨17, .data⟩, ⟨18, .data⟩, ⟨16, .guard⟩], some (16, false)⟩,
   ⟨some 30, .fieldAddr 53 (.tmp 29) 2, 0, "l14_route.go:16", #[⟨19, .data⟩, ⟨16, .guard⟩], some (16, false)⟩,
   ⟨some 31, .load 3 (.tmp 30), 3, "l14_route.go:16", #[⟨20, .data⟩, ⟨16, .guard⟩], some (16, false)⟩,
   ⟨some 32, .call ⟨.value (.func 52), #[.tmp 31, .const (Value.int IntKind.i64 0), .const (Value.int IntKind.i64 1000)], #[3, 3, 3]⟩, 4, "l14_route.go:16", #[⟨21, .data⟩, ⟨16, .chain⟩, ⟨16, .guard⟩], some (16, false)⟩,
   ⟨some 33, .unOp UnOp.not 4 (.tmp 32), 4, "l14_route.go:16", #[⟨22, .data⟩, ⟨16, .guard⟩], some (16, false)⟩,
   ⟨some 34, .pick (.tmp 26) (.const (Value.bool true)) (.tmp 33), 4, "l14_route.go:16", #[⟨16, .data⟩, ⟨23, .data⟩], none⟩,
   ⟨some 35, .move (.tmp 34), 4, "l14_route.go:16", #[⟨24, .data⟩, ⟨22, .chain⟩], none⟩,
   ⟨some 36, .move (.tmp 0), 42, "l14_route.go:16", #[⟨25, .guard⟩], some (25, false)⟩,
   ⟨some 37, .move (.tmp 3), 3, "l14_route.go:16", #[⟨25, .guard⟩], some (25, false)⟩,
   ⟨some 38, .slice 42 (.tmp 36) none (some (.tmp 37)) none, 42, "l14_route.go:16", #[⟨26, .data⟩, ⟨27, .data⟩, ⟨25, .guard⟩], some (25, false)⟩,
   ⟨some 39, .move (.tmp 0), 42, "l14_route.go:16", #[⟨25, .guard⟩], some (25, false)⟩,
   ⟨some 40, .move (.tmp 3), 3, "l14_route.go:16", #[⟨25, .guard⟩], some (25, false)⟩,
   ⟨some 41, .indexAddr 42 (.tmp 39) (.tmp 40), 0, "l14_route.go:16", #[⟨29, .data⟩, ⟨30, .data⟩, ⟨25, .guard⟩], some (25, false)⟩,
   ⟨some 42, .fieldAddr 53 (.tmp 41) 0, 0, "l14_route.go:16", #[⟨31, .data⟩, ⟨25, .guard⟩], some (25, false)⟩,
   ⟨some 43, .load 27 (.tmp 42), 27, "l14_route.go:16", #[⟨32, .data⟩, ⟨25, .guard⟩], some (25, false)⟩,
   ⟨some 44, .move (.tmp 0), 42, "l14_route.go:16", #[⟨25, .guard⟩], some (25, false)⟩,
   ⟨some 45, .move (.tmp 3), 3, "l14_route.go:16", #[⟨25, .guard⟩], some (25, false)⟩,
   ⟨some 46, .indexAddr 42 (.tmp 44) (.tmp 45), 0, "l14_route.go:16", #[⟨34, .data⟩, ⟨35, .data⟩, ⟨25, .guard⟩], some (25, false)⟩,
   ⟨some 47, .fieldAddr 53 (.tmp 46) 1, 0, "l14_route.go:16", #[⟨36, .data⟩, ⟨25, .guard⟩], some (25, false)⟩,
   ⟨some 48, .load 3 (.tmp 47), 3, "l14_route.go:16", #[⟨37, .data⟩, ⟨25, .guard⟩], some (25, false)⟩,
   ⟨some 49, .call ⟨.value (.func 53), #[.tmp 38, .tmp 43, .tmp 48], #[42, 27, 3]⟩, 3, "l14_route.go:16", #[⟨28, .data⟩, ⟨33, .data⟩, ⟨38, .data⟩, ⟨25, .chain⟩, ⟨25, .guard⟩], some (25, false)⟩,
   ⟨some 50, .binOp BinOp.geq 3 (.tmp 49) (.const (Value.int IntKind.i64 0)) 3, 4, "l14_route.go:16", #[⟨39, .data⟩, ⟨25, .guard⟩], some (25, false)⟩,
   ⟨some 51, .pick (.tmp 35) (.const (Value.bool true)) (.tmp 50), 4, "l14_route.go:16", #[⟨25, .data⟩, ⟨40, .data⟩], none⟩] true).wp Try.prog Q ⟨#[.slice (some ⟨b, off, none⟩) n c, v1, v2, .int .i64 k, v4, v5, v6, v7, v8, v9, v10, v11, v12, v13, v14, v15, v16, v17, v18, v19, v20, v21, v22, v23, v24, v25, v26, v27, v28, v29, v30, v31, v32, v33, v34, v35, v36, v37, v38, v39, v40, v41, v42, v43, v44, v45, v46, v47, v48, v49, v50, v51, v52, v53, v54], []⟩ w := by
 have HQ := Lib.hid hQ; clear hQ
 have hdr : Below w.heap.size w w.drew := (Below.refl _ _).drew
 have BB := Lib.hid hdr
 refine wp_region_noPanic ?_
 refine wp_region_held_drew (S := (fun w' => w'.cell? ⟨b, off + k * 3, none⟩ = some (.slice x0 n0 c0) ∧ w'.cell? ⟨b, off + k * 3 + 1, none⟩ = some (.int .i64 rf))) (by kernel_rfl) ?_ (fun hHeld => ?_)
 ·
  exact ⟨kc K0.out BB.out, kc K1.out BB.out⟩
 clear hdr
 generalize w.drew = wd at *
 refine wpAnyH_take (i := 0) (oi := ⟨some 10, .move (.tmp 0), 42, "l14_route.go:16", #[], none⟩) (v := ?_) rfl (by kernel_rfl) (by kernel_rfl) (by kernel_rfl) (fun _ _ _ h => h) (Or.inl ⟨by rfl, ?_⟩) (by assumption) ?_
 rotate_left
 ·
  intro w' hSw; (try dsimp only at hSw); first | (go_simp; done) | (go_simp; with_reducible rfl)
 (try simp only [Act.put, Row.pB0, Row.pB1, Row.pB2])
 refine wpAnyH_take (i := 1) (oi := ⟨some 11, .move (.tmp 3), 3, "l14_route.go:16", #[], none⟩) (v := ?_) rfl (by kernel_rfl) (by kernel_rfl) (by kernel_rfl) (fun _ _ _ h => h) (Or.inl ⟨by rfl, ?_⟩) (by assumption) ?_
 rotate_left
 ·
  intro w' hSw; (try dsimp only at hSw); first | (go_simp; done) | (go_simp; with_reducible rfl)
 (try simp only [Act.put, Row.pB0, Row.pB1, Row.pB2])
 refine wpAnyH_take (i := 2) (oi := ⟨some 12, .indexAddr 42 (.tmp 10) (.tmp 11), 0, "l14_route.go:16", #[⟨0, .data⟩, ⟨1, .data⟩], none⟩) (v := ?_) rfl (by kernel_rfl) (by kernel_rfl) (by kernel_rfl) (fun _ _ _ h => h) (Or.inl ⟨by rfl, ?_⟩) (by assumption) ?_
 rotate_left
 ·
  intro w' hSw; (try dsimp only at hSw); first | (go_simp; done) | (go_simp; with_reducible rfl)
 (try simp only [Act.put, Row.pB0, Row.pB1, Row.pB2])
 refine wpAnyH_take (i := 3) (oi := ⟨some 13, .fieldAddr 53 (.tmp 12) 0, 0, "l14_route.go:16", #[⟨2, .data⟩], none⟩) (v := ?_) rfl (by kernel_rfl) (by kernel_rfl) (by kernel_rfl) (fun _ _ _ h => h) (Or.inl ⟨by rfl, ?_⟩) (by assumption) ?_
 rotate_left
 ·
  intro w' hSw; (try dsimp only at hSw); first | (go_simp; done) | (go_simp; with_reducible rfl)
 (try simp only [Act.put, Row.pB0, Row.pB1, Row.pB2])
 refine wpAnyH_take (i := 4) (oi := ⟨some 14, .load 27 (.tmp 13), 27, "l14_route.go:16", #[⟨3, .data⟩], none⟩) (v := ?_) rfl (by kernel_rfl) (by kernel_rfl) (by kernel_rfl) (fun _ _ _ h => h) (Or.inl ⟨by rfl, ?_⟩) (by assumption) ?_
 rotate_left
 ·
  intro w' hSw; (try dsimp only at hSw); first | (go_simp; done) | (go_simp; with_reducible rfl)
 (try simp only [Act.put, Row.pB0, Row.pB1, Row.pB2])
 refine wpAnyH_ready (rs := [5]) (by kernel_rfl) (by simp) ?_
 refine AllReadyH.cons (o := ⟨some 15, .call ⟨.value (.func 51), #[.tmp 14], #[27]⟩, 4, "l14_route.go:16", #[⟨4, .data⟩], none⟩) rfl (fun K hK => ?_) AllReadyH.nil
 go_simp
 refine (sValN true HV.out (H_m.out.on BB.out) (Nat.le_trans HMB.out (by decide))).mono ?_
 rintro e wn1 ⟨rfl, hb⟩
 replace BB := Lib.hid (BB.out.trans (hb.mono BB.out.size))
 clear hb
 (try go_wp2_with fail)
 clear hHeld
 refine hK.out _ _ ?_ (fun hHeld => ?_)
 ·
  (try dsimp only); exact ⟨kc K0.out BB.out, kc K1.out BB.out⟩
 clear hK K
 (try simp only [Act.put, Row.pB0, Row.pB1, Row.pB2])
 refine wpAnyH_take (i := 6) (oi := ⟨some 16, .unOp UnOp.not 4 (.tmp 15), 4, "l14_route.go:16", #[⟨5, .data⟩], none⟩) (v := ?_) rfl (by kernel_rfl) (by kernel_rfl) (by kernel_rfl) (fun _ _ _ h => h) (Or.inl ⟨by rfl, ?_⟩) (by assumption) ?_
 rotate_left
 ·
  intro w' hSw; (try dsimp only at hSw); first | (go_simp; done) | (go_simp; with_reducible rfl)
 (try simp only [Act.put, Row.pB0, Row.pB1, Row.pB2])
 refine wpAnyH_take (i := 7) (oi := ⟨some 17, .move (.tmp 16), 4, "l14_route.go:16", #[⟨6, .data⟩, ⟨5, .chain⟩], none⟩) (v := ?_) rfl (by kernel_rfl) (by kernel_rfl) (by kernel_rfl) (fun _ _ _ h => h) (Or.inl ⟨by rfl, ?_⟩) (by assumption) ?_
 rotate_left
 ·
  intro w' hSw; (try dsimp only at hSw); first | (go_simp; done) | (go_simp; with_reducible rfl)
 (try simp only [Act.put, Row.pB0, Row.pB1, Row.pB2])
 refine wpAnyH_take (i := 8) (oi := ⟨some 18, .move (.tmp 0), 42, "l14_route.go:16", #[⟨7, .guard⟩], some (7, false)⟩) (v := ?_) rfl (by kernel_rfl) (by kernel_rfl) (by kernel_rfl) (fun _ _ _ h => h) (Or.inl ⟨by rfl, ?_⟩) (by assumption) ?_
 rotate_left
 ·
  intro w' hSw; (try dsimp only at hSw); first | (go_simp; done) | (go_simp; with_reducible rfl)
 (try simp only [Act.put, Row.pB0, Row.pB1, Row.pB2])
 refine wpAnyH_take (i := 9) (oi := ⟨some 19, .move (.tmp 3), 3, "l14_route.go:16", #[⟨7, .guard⟩], some (7, false)⟩) (v := ?_) rfl (by kernel_rfl) (by kernel_rfl) (by kernel_rfl) (fun _ _ _ h => h) (Or.inl ⟨by rfl, ?_⟩) (by assumption) ?_
 rotate_left
 ·
  intro w' hSw; (try dsimp only at hSw); first | (go_simp; done) | (go_simp; with_reducible rfl)
 (try simp only [Act.put, Row.pB0, Row.pB1, Row.pB2])
 refine wpAnyH_take (i := 10) (oi := ⟨some 20, .indexAddr 42 (.tmp 18) (.tmp 19), 0, "l14_route.go:16", #[⟨8, .data⟩, ⟨9, .data⟩, ⟨7, .guard⟩], some (7, false)⟩) (v := ?_) rfl (by kernel_rfl) (by kernel_rfl) (by kernel_rfl) (fun _ _ _ h => h) (Or.inl ⟨by rfl, ?_⟩) (by assumption) ?_
 rotate_left
 ·
  intro w' hSw; (try dsimp only at hSw); first | (go_simp; done) | (go_simp; with_reducible rfl)
 (try simp only [Act.put, Row.pB0, Row.pB1, Row.pB2])
 refine wpAnyH_take (i := 11) (oi := ⟨some 21, .fieldAddr 53 (.tmp 20) 1, 0, "l14_route.go:16", #[⟨10, .data⟩, ⟨7, .guard⟩], some (7, false)⟩) (v := ?_) rfl (by kernel_rfl) (by kernel_rfl) (by kernel_rfl) (fun _ _ _ h => h) (Or.inl ⟨by rfl, ?_⟩) (by assumption) ?_
 rotate_left
 ·
  intro w' hSw; (try dsimp only at hSw); first | (go_simp; done) | (go_simp; with_reducible rfl)
 (try simp only [Act.put, Row.pB0, Row.pB1, Row.pB2])
 refine wpAnyH_take (i := 12) (oi := ⟨some 22, .load 3 (.tmp 21), 3, "l14_route.go:16", #[⟨11, .data⟩, ⟨7, .guard⟩], some (7, false)⟩) (v := ?_) rfl (by kernel_rfl) (by kernel_rfl) (by kernel_rfl) (fun _ _ _ h => h) (Or.inl ⟨by rfl, ?_⟩) (by assumption) ?_
 rotate_left
 ·
  intro w' hSw; (try dsimp only at hSw); first | (go_simp; done) | (go_simp; with_reducible rfl)
 (try simp only [Act.put, Row.pB0, Row.pB1, Row.pB2])
 refine wpAnyH_ready (rs := [13]) (by kernel_rfl) (by simp) ?_
 refine AllReadyH.cons (o := ⟨some 23, .call ⟨.value (.func 52), #[.tmp 22, .const (Value.int IntKind.i64 1), .const (Value.int IntKind.i64 6)], #[3, 3, 3]⟩, 4, "l14_route.go:16", #[⟨12, .data⟩, ⟨7, .chain⟩, ⟨7, .guard⟩], some (7, false)⟩) rfl (fun K hK => ?_) AllReadyH.nil
 go_simp
 refine (sInR false HF.out).mono ?_
 rintro e wn2 ⟨rfl, hb⟩
 replace BB := Lib.hid (BB.out.trans (hb.mono BB.out.size))
 clear hb
 (try go_wp2_with fail)
 clear hHeld
 refine hK.out _ _ ?_ (fun hHeld => ?_)
 ·
  (try dsimp only); exact ⟨kc K0.out BB.out, kc K1.out BB.out⟩
 clear hK K
 (try simp only [Act.put, Row.pB0, Row.pB1, Row.pB2])
 refine wpAnyH_take (i := 14) (oi := ⟨some 24, .unOp UnOp.not 4 (.tmp 23), 4, "l14_route.go:16", #[⟨13, .data⟩, ⟨7, .guard⟩], some (7, false)⟩) (v := ?_) rfl (by kernel_rfl) (by kernel_rfl) (by kernel_rfl) (fun _ _ _ h => h) (Or.inl ⟨by rfl, ?_⟩) (by assumption) ?_
 rotate_left
 ·
  intro w' hSw; (try dsimp only at hSw); first | (go_simp; done) | (go_simp; with_reducible rfl)
 (try simp only [Act.put, Row.pB0, Row.pB1, Row.pB2])
 refine wpAnyH_take (i := 15) (oi := ⟨some 25, .pick (.tmp 17) (.const (Value.bool true)) (.tmp 24), 4, "l14_route.go:16", #[⟨7, .data⟩, ⟨14, .data⟩], none⟩) (v := ?_) rfl (by kernel_rfl) (by kernel_rfl) (by kernel_rfl) (fun _ _ _ h => h) (Or.inl ⟨by rfl, ?_⟩) (by assumption) ?_
 rotate_left
 ·
  intro w' hSw; (try dsimp only at hSw); first | (go_simp; done) | (go_simp; with_reducible rfl)
 (try simp only [Act.put, Row.pB0, Row.pB1, Row.pB2])
 refine wpAnyH_take (i := 16) (oi := ⟨some 26, .move (.tmp 25), 4, "l14_route.go:16", #[⟨15, .data⟩, ⟨13, .chain⟩], none⟩) (v := ?_) rfl (by kernel_rfl) (by kernel_rfl) (by kernel_rfl) (fun _ _ _ h => h) (Or.inl ⟨by rfl, ?_⟩) (by assumption) ?_
 rotate_left
 ·
  intro w' hSw; (try dsimp only at hSw); first | (go_simp; done) | (go_simp; with_reducible rfl)
 (try simp only [Act.put, Row.pB0, Row.pB1, Row.pB2])
 refine wpAnyH_take (i := 17) (oi := ⟨some 27, .move (.tmp 0), 42, "l14_route.go:16", #[⟨16, .guard⟩], some (16, false)⟩) (v := undef) rfl (by kernel_rfl) (by kernel_rfl) (by kernel_rfl) (fun _ _ _ h => h) (Or.inr ⟨by rfl, rfl⟩) (by assumption) ?_
 (try simp only [Act.put, Row.pB0, Row.pB1, Row.pB2])
 refine wpAnyH_take (i := 18) (oi := ⟨some 28, .move (.tmp 3), 3, "l14_route.go:16", #[⟨16, .guard⟩], some (16, false)⟩) (v := undef) rfl (by kernel_rfl) (by kernel_rfl) (by kernel_rfl) (fun _ _ _ h => h) (Or.inr ⟨by rfl, rfl⟩) (by assumption) ?_
 (try simp only [Act.put, Row.pB0, Row.pB1, Row.pB2])
 refine wpAnyH_take (i := 19) (oi := ⟨some 29, .indexAddr 42 (.tmp 27) (.tmp 28), 0, "l14_route.go:16", #[⟨17, .data⟩, ⟨18, .data⟩, ⟨16, .guard⟩], some (16, false)⟩) (v := undef) rfl (by kernel_rfl) (by kernel_rfl) (by kernel_rfl) (fun _ _ _ h => h) (Or.inr ⟨by rfl, rfl⟩) (by assumption) ?_
 (try simp only [Act.put, Row.pB0, Row.pB1, Row.pB2])
 refine wpAnyH_take (i := 20) (oi := ⟨some 30, .fieldAddr 53 (.tmp 29) 2, 0, "l14_route.go:16", #[⟨19, .data⟩, ⟨16, .guard⟩], some (16, false)⟩) (v := undef) rfl (by kernel_rfl) (by kernel_rfl) (by kernel_rfl) (fun _ _ _ h => h) (Or.inr ⟨by rfl, rfl⟩) (by assumption) ?_
 (try simp only [Act.put, Row.pB0, Row.pB1, Row.pB2])
 refine wpAnyH_take (i := 21) (oi := ⟨some 31, .load 3 (.tmp 30), 3, "l14_route.go:16", #[⟨20, .data⟩, ⟨16, .guard⟩], some (16, false)⟩) (v := undef) rfl (by kernel_rfl) (by kernel_rfl) (by kernel_rfl) (fun _ _ _ h => h) (Or.inr ⟨by rfl, rfl⟩) (by assumption) ?_
 (try simp only [Act.put, Row.pB0, Row.pB1, Row.pB2])
 refine wpAnyH_take (i := 22) (oi := ⟨some 32, .call ⟨.value (.func 52), #[.tmp 31, .const (Value.int IntKind.i64 0), .const (Value.int IntKind.i64 1000)], #[3, 3, 3]⟩, 4, "l14_route.go:16", #[⟨21, .data⟩, ⟨16, .chain⟩, ⟨16, .guard⟩], some (16, false)⟩) (v := undef) rfl (by kernel_rfl) (by kernel_rfl) (by kernel_rfl) (fun _ _ _ h => h) (Or.inr ⟨by rfl, rfl⟩) (by assumption) ?_
 (try simp only [Act.put, Row.pB0, Row.pB1, Row.pB2])
 refine wpAnyH_take (i := 23) (oi := ⟨some 33, .unOp UnOp.not 4 (.tmp 32), 4, "l14_route.go:16", #[⟨22, .data⟩, ⟨16, .guard⟩], some (16, false)⟩) (v := undef) rfl (by kernel_rfl) (by kernel_rfl) (by kernel_rfl) (fun _ _ _ h => h) (Or.inr ⟨by rfl, rfl⟩) (by assumption) ?_
 (try simp only [Act.put, Row.pB0, Row.pB1, Row.pB2])
 refine wpAnyH_take (i := 24) (oi := ⟨some 34, .pick (.tmp 26) (.const (Value.bool true)) (.tmp 33), 4, "l14_route.go:16", #[⟨16, .data⟩, ⟨23, .data⟩], none⟩) (v := ?_) rfl (by kernel_rfl) (by kernel_rfl) (by kernel_rfl) (fun _ _ _ h => h) (Or.inl ⟨by rfl, ?_⟩) (by assumption) ?_
 rotate_left
 ·
  intro w' hSw; (try dsimp only at hSw); first | (go_simp; done) | (go_simp; with_reducible rfl)
 (try simp only [Act.put, Row.pB0, Row.pB1, Row.pB2])
 refine wpAnyH_take (i := 25) (oi := ⟨some 35, .move (.tmp 34), 4, "l14_route.go:16", #[⟨24, .data⟩, ⟨22, .chain⟩], none⟩) (v := ?_) rfl (by kernel_rfl) (by kernel_rfl) (by kernel_rfl) (fun _ _ _ h => h) (Or.inl ⟨by rfl, ?_⟩) (by assumption) ?_
 rotate_left
 ·
  intro w' hSw; (try dsimp only at hSw); first | (go_simp; done) | (go_simp; with_reducible rfl)
 (try simp only [Act.put, Row.pB0, Row.pB1, Row.pB2])
 refine wpAnyH_take (i := 26) (oi := ⟨some 36, .move (.tmp 0), 42, "l14_route.go:16", #[⟨25, .guard⟩], some (25, false)⟩) (v := undef) rfl (by kernel_rfl) (by kernel_rfl) (by kernel_rfl) (fun _ _ _ h => h) (Or.inr ⟨by rfl, rfl⟩) (by assumption) ?_
 (try simp only [Act.put, Row.pB0, Row.pB1, Row.pB2])
 refine wpAnyH_take (i := 27) (oi := ⟨some 37, .move (.tmp 3), 3, "l14_route.go:16", #[⟨25, .guard⟩], some (25, false)⟩) (v := undef) rfl (by kernel_rfl) (by kernel_rfl) (by kernel_rfl) (fun _ _ _ h => h) (Or.inr ⟨by rfl, rfl⟩) (by assumption) ?_
 (try simp only [Act.put, Row.pB0, Row.pB1, Row.pB2])
 refine wpAnyH_take (i := 28) (oi := ⟨some 38, .slice 42 (.tmp 36) none (some (.tmp 37)) none, 42, "l14_route.go:16", #[⟨26, .data⟩, ⟨27, .data⟩, ⟨25, .guard⟩], some (25, false)⟩) (v := undef) rfl (by kernel_rfl) (by kernel_rfl) (by kernel_rfl) (fun _ _ _ h => h) (Or.inr ⟨by rfl, rfl⟩) (by assumption) ?_
 (try simp only [Act.put, Row.pB0, Row.pB1, Row.pB2])
 refine wpAnyH_take (i := 29) (oi := ⟨some 39, .move (.tmp 0), 42, "l14_route.go:16", #[⟨25, .guard⟩], some (25, false)⟩) (v := undef) rfl (by kernel_rfl) (by kernel_rfl) (by kernel_rfl) (fun _ _ _ h => h) (Or.inr ⟨by rfl, rfl⟩) (by assumption) ?_
 (try simp only [Act.put, Row.pB0, Row.pB1, Row.pB2])
 refine wpAnyH_take (i := 30) (oi := ⟨some 40, .move (.tmp 3), 3, "l14_route.go:16", #[⟨25, .guard⟩], some (25, false)⟩) (v := undef) rfl (by kernel_rfl) (by kernel_rfl) (by kernel_rfl) (fun _ _ _ h => h) (Or.inr ⟨by rfl, rfl⟩) (by assumption) ?_
 (try simp only [Act.put, Row.pB0, Row.pB1, Row.pB2])
 refine wpAnyH_take (i := 31) (oi := ⟨some 41, .indexAddr 42 (.tmp 39) (.tmp 40), 0, "l14_route.go:16", #[⟨29, .data⟩, ⟨30, .data⟩, ⟨25, .guard⟩], some (25, false)⟩) (v := undef) rfl (by kernel_rfl) (by kernel_rfl) (by kernel_rfl) (fun _ _ _ h => h) (Or.inr ⟨by rfl, rfl⟩) (by assumption) ?_
 (try simp only [Act.put, Row.pB0, Row.pB1, Row.pB2])
 refine wpAnyH_take (i := 32) (oi := ⟨some 42, .fieldAddr 53 (.tmp 41) 0, 0, "l14_route.go:16", #[⟨31, .data⟩, ⟨25, .guard⟩], some (25, false)⟩) (v := undef) rfl (by kernel_rfl) (by kernel_rfl) (by kernel_rfl) (fun _ _ _ h => h) (Or.inr ⟨by rfl, rfl⟩) (by assumption) ?_
 (try simp only [Act.put, Row.pB0, Row.pB1, Row.pB2])
 refine wpAnyH_take (i := 33) (oi := ⟨some 43, .load 27 (.tmp 42), 27, "l14_route.go:16", #[⟨32, .data⟩, ⟨25, .guard⟩], some (25, false)⟩) (v := undef) rfl (by kernel_rfl) (by kernel_rfl) (by kernel_rfl) (fun _ _ _ h => h) (Or.inr ⟨by rfl, rfl⟩) (by assumption) ?_
 (try simp only [Act.put, Row.pB0, Row.pB1, Row.pB2])
 refine wpAnyH_take (i := 34) (oi := ⟨some 44, .move (.tmp 0), 42, "l14_route.go:16", #[⟨25, .guard⟩], some (25, false)⟩) (v := undef) rfl (by kernel_rfl) (by kernel_rfl) (by kernel_rfl) (fun _ _ _ h => h) (Or.inr ⟨by rfl, rfl⟩) (by assumption) ?_
 (try simp only [Act.put, Row.pB0, Row.pB1, Row.pB2])
 refine wpAnyH_take (i := 35) (oi := ⟨some 45, .move (.tmp 3), 3, "l14_route.go:16", #[⟨25, .guard⟩], some (25, false)⟩) (v := undef) rfl (by kernel_rfl) (by kernel_rfl) (by kernel_rfl) (fun _ _ _ h => h) (Or.inr ⟨by rfl, rfl⟩) (by assumption) ?_
 (try simp only [Act.put, Row.pB0, Row.pB1, Row.pB2])
 refine wpAnyH_take (i := 36) (oi := ⟨some 46, .indexAddr 42 (.tmp 44) (.tmp 45), 0, "l14_route.go:16", #[⟨34, .data⟩, ⟨35, .data⟩, ⟨25, .guard⟩], some (25, false)⟩) (v := undef) rfl (by kernel_rfl) (by kernel_rfl) (by kernel_rfl) (fun _ _ _ h => h) (Or.inr ⟨by rfl, rfl⟩) (by assumption) ?_
 (try simp only [Act.put, Row.pB0, Row.pB1, Row.pB2])
 refine wpAnyH_take (i := 37) (oi := ⟨some 47, .fieldAddr 53 (.tmp 46) 1, 0, "l14_route.go:16", #[⟨36, .data⟩, ⟨25, .guard⟩], some (25, false)⟩) (v := undef) rfl (by kernel_rfl) (by kernel_rfl) (by kernel_rfl) (fun _ _ _ h => h) (Or.inr ⟨by rfl, rfl⟩) (by assumption) ?_
 (try simp only [Act.put, Row.pB0, Row.pB1, Row.pB2])
 refine wpAnyH_take (i := 38) (oi := ⟨some 48, .load 3 (.tmp 47), 3, "l14_route.go:16", #[⟨37, .data⟩, ⟨25, .guard⟩], some (25, false)⟩) (v := undef) rfl (by kernel_rfl) (by kernel_rfl) (by kernel_rfl) (fun _ _ _ h => h) (Or.inr ⟨by rfl, rfl⟩) (by assumption) ?_
 (try simp only [Act.put, Row.pB0, Row.pB1, Row.pB2])
 refine wpAnyH_take (i := 39) (oi := ⟨some 49, .call ⟨.value (.func 53), #[.tmp 38, .tmp 43, .tmp 48], #[42, 27, 3]⟩, 3, "l14_route.go:16", #[⟨28, .data⟩, ⟨33, .data⟩, ⟨38, .data⟩, ⟨25, .chain⟩, ⟨25, .guard⟩], some (25, false)⟩) (v := undef) rfl (by kernel_rfl) (by kernel_rfl) (by kernel_rfl) (fun _ _ _ h => h) (Or.inr ⟨by rfl, rfl⟩) (by assumption) ?_
 (try simp only [Act.put, Row.pB0, Row.pB1, Row.pB2])
 refine wpAnyH_take (i := 40) (oi := ⟨some 50, .binOp BinOp.geq 3 (.tmp 49) (.const (Value.int IntKind.i64 0)) 3, 4, "l14_route.go:16", #[⟨39, .data⟩, ⟨25, .guard⟩], some (25, false)⟩) (v := undef) rfl (by kernel_rfl) (by kernel_rfl) (by kernel_rfl) (fun _ _ _ h => h) (Or.inr ⟨by rfl, rfl⟩) (by assumption) ?_
 (try simp only [Act.put, Row.pB0, Row.pB1, Row.pB2])
 refine wpAnyH_take (i := 41) (oi := ⟨some 51, .pick (.tmp 35) (.const (Value.bool true)) (.tmp 50), 4, "l14_route.go:16", #[⟨25, .data⟩, ⟨40, .data⟩], none⟩) (v := ?_) rfl (by kernel_rfl) (by kernel_rfl) (by kernel_rfl) (fun _ _ _ h => h) (Or.inl ⟨by rfl, ?_⟩) (by assumption) ?_
 rotate_left
 ·
  intro w' hSw; (try dsimp only at hSw); first | (go_simp; done) | (go_simp; with_reducible rfl)
 (try simp only [Act.put, Row.pB0, Row.pB1, Row.pB2])
 refine wpAnyH_done (by kernel_rfl) ?_ _
 exact NoPanic.normal (HQ.out _ _ _ _ _ _ _ _ _ _ _ _ _ _ _ _ _ _ _ _ _ _ _ _ _ _ _ _ _ _ _ _ _ _ _ _ _ _ _ _ _  _  BB.out)
set_option maxRecDepth 100000 in
set_option maxHeartbeats 4000000 in
theorem rvt2 {Q : Exit → Act → World → Prop} {v1 v2 v4 v5 v6 v7 v8 v9 v10 v11 v12 v13 v14 v15 v16 v17 v18 v19 v20 v21 v22 v23 v24 v25 v26 v27 v28 v29 v30 v31 v32 v33 v34 v35 v36 v37 v38 v39 v40 v41 v42 v43 v44 v45 v46 v47 v48 v49 v50 v51 v52 v53 v54 : Value} {w : World} {b off n c k n0 c0 : Nat} {x0 : Option Addr} {rf rc : Int} {m : List ByteArray}   (hk : k < n) (hkc : k ≤ c) (hn : n ≤ 9000000) (HV : Hid (validN m = true)) (H_m : Hid (kN.At w (.agg #[.slice x0 n0 c0]) m)) (HMB : Hid (bulk m ≤ 1200000)) (HF : Hid (Num.inB rf 1 6 = true)) (HI : Hid (Num.inB rc 0 1000 = false)) (K0 : Hid (w.cell? ⟨b, off + k * 3, none⟩ = some (.slice x0 n0 c0))) (K1 : Hid (w.cell? ⟨b, off + k * 3 + 1, none⟩ = some (.int .i64 rf))) (K2 : Hid (w.cell? ⟨b, off + k * 3 + 2, none⟩ = some (.int .i64 rc)))
  (hQ : ∀ (u10 u11 u12 u13 u14 u15 u16 u17 u18 u19 u20 u21 u22 u23 u24 u25 u26 u27 u28 u29 u30 u31 u32 u33 u34 u35 u36 u37 u38 u39 u40 u41 u42 u43 u44 u45 u46 u47 u48 u49 u50 : Value)  (wx : World), Below w.heap.size w wx → Q .normal ⟨#[.slice (some ⟨b, off, none⟩) n c, v1, v2, .int .i64 k, v4, v5, v6, v7, v8, v9, u10, u11, u12, u13, u14, u15, u16, u17, u18, u19, u20, u21, u22, u23, u24, u25, u26, u27, u28, u29, u30, u31, u32, u33, u34, u35, u36, u37, u38, u39, u40, u41, u42, u43, u44, u45, u46, u47, u48, u49, u50, .bool true, v52, v53, v54], []⟩ wx) :
  (Code.region 4 #[⟨some 10, .move (.tmp 0), 42, "l14_route.go:16", #[], none⟩,
   ⟨some 11, .move (.tmp 3), 3, "l14_route.go:16", #[], none⟩,
   ⟨some 12, .indexAddr 42 (.tmp 10) (.tmp 11), 0, "l14_route.go:16", #[⟨0, .data⟩, ⟨1, .data⟩], none⟩,
   ⟨some 13, .fieldAddr 53 (.tmp 12) 0, 0, "l14_route.go:16", #[⟨2, .data⟩], none⟩,
   ⟨some 14, .load 27 (.tmp 13), 27, "l14_route.go:16", #[⟨3, .data⟩], none⟩,
   ⟨some 15, .call ⟨.value (.func 51), #[.tmp 14], #[27]⟩, 4, "l14_route.go:16", #[⟨4, .data⟩], none⟩,
   ⟨some 16, .unOp UnOp.not 4 (.tmp 15), 4, "l14_route.go:16", #[⟨5, .data⟩], none⟩,
   ⟨some 17, .move (.tmp 16), 4, "l14_route.go:16", #[⟨6, .data⟩, ⟨5, .chain⟩], none⟩,
   ⟨some 18, .move (.tmp 0), 42, "l14_route.go:16", #[⟨7, .guard⟩], some (7, false)⟩,
   ⟨some 19, .move (.tmp 3), 3, "l14_route.go:16", #[⟨7, .guard⟩], some (7, false)⟩,
   ⟨some 20, .indexAddr 42 (.tmp 18) (.tmp 19), 0, "l14_route.go:16", #[⟨8, .data⟩, ⟨9, .data⟩, ⟨7, .guard⟩], some (7, false)⟩,
   ⟨some 21, .fieldAddr 53 (.tmp 20) 1, 0, "l14_route.go:16", #[⟨10, .data⟩, ⟨7, .guard⟩], some (7, false)⟩,
   ⟨some 22, .load 3 (.tmp 21), 3, "l14_route.go:16", #[⟨11, .data⟩, ⟨7, .guard⟩], some (7, false)⟩,
   ⟨some 23, .call ⟨.value (.func 52), #[.tmp 22, .const (Value.int IntKind.i64 1), .const (Value.int IntKind.i64 6)], #[3, 3, 3]⟩, 4, "l14_route.go:16", #[⟨12, .data⟩, ⟨7, .chain⟩, ⟨7, .guard⟩], some (7, false)⟩,
   ⟨some 24, .unOp UnOp.not 4 (.tmp 23), 4, "l14_route.go:16", #[⟨13, .data⟩, ⟨7, .guard⟩], some (7, false)⟩,
   ⟨some 25, .pick (.tmp 17) (.const (Value.bool true)) (.tmp 24), 4, "l14_route.go:16", #[⟨7, .data⟩, ⟨14, .data⟩], none⟩,
   ⟨some 26, .move (.tmp 25), 4, "l14_route.go:16", #[⟨15, .data⟩, ⟨13, .chain⟩], none⟩,
   ⟨some 27, .move (.tmp 0), 42, "l14_route.go:16", #[⟨16, .guard⟩], some (16, false)⟩,
   ⟨some 28, .move (.tmp 3), 3, "l14_route.go:16", #[⟨16, .guard⟩], some (16, false)⟩,
   ⟨some 29, .indexAddr 42 (.tmp 27) (.tmp 28), 0, "l14_route.go:16", #[⟨17, .data⟩, ⟨18, .data⟩, ⟨16, .guard⟩], some (16, false)⟩,
   ⟨some 30, .fieldAddr 53 (.tmp 29) 2, 0, "l14_route.go:16", #[⟨19, .data⟩, ⟨16, .guard⟩], some (16, false)⟩,
   ⟨some 31, .load 3 (.tmp 30), 3, "l14_route.go:16", #[⟨20, .data⟩, ⟨16, .guard⟩], some (16, false)⟩,
   ⟨some 32, .call ⟨.value (.func 52), #[.tmp 31, .const (Value.int IntKind.i64 0), .const (Value.int IntKind.i64 1000)], #[3, 3, 3]⟩, 4, "l14_route.go:16", #[⟨21, .data⟩, ⟨16, .chain⟩, ⟨16, .guard⟩], some (16, false)⟩,
   ⟨some 33, .unOp UnOp.not 4 (.tmp 32), 4, "l14_route.go:16", #[⟨22, .data⟩, ⟨16, .guard⟩], some (16, false)⟩,
   ⟨some 34, .pick (.tmp 26) (.const (Value.bool true)) (.tmp 33), 4, "l14_route.go:16", #[⟨16, .data⟩, ⟨23, .data⟩], none⟩,
   ⟨some 35, .move (.tmp 34), 4, "l14_route.go:16", #[⟨24, .data⟩, ⟨22, .chain⟩], none⟩,
   ⟨some 36, .move (.tmp 0), 42, "l14_route.go:16", #[⟨25, .guard⟩], some (25, false)⟩,
   ⟨some 37, .move (.tmp 3), 3, "l14_route.go:16", #[⟨25, .guard⟩], some (25, false)⟩,
   ⟨some 38, .slice 42 (.tmp 36) none (some (.tmp 37)) none, 42, "l14_route.go:16", #[⟨26, .data⟩, ⟨27, .data⟩, ⟨25, .guard⟩], some (25, false)⟩,
   ⟨some 39, .move (.tmp 0), 42, "l14_route.go:16", #[⟨25, .guard⟩], some (25, false)⟩,
   ⟨some 40, .move (.tmp 3), 3, "l14_route.go:16", #[⟨25, .guard⟩], some (25, false)⟩,
   ⟨some 41, .indexAddr 42 (.tmp 39) (.tmp 40), 0, "l14_route.go:16", #[⟨29, .data⟩, ⟨30, .data⟩, ⟨25, .guard⟩], some (25, false)⟩,
   ⟨some 42, .fieldAddr 53 (.tmp 41) 0, 0, "l14_route.go:16", #[⟨31, .data⟩, ⟨25, .guard⟩], some (25, false)⟩,
   ⟨some 43, .load 27 (.tmp 42), 27, "l14_route.go:16", #[⟨32, .data⟩, ⟨25, .guard⟩], some (25, false)⟩,
   ⟨some 44, .move (.tmp 0), 42, "l14_route.go:16", #[⟨25, .guard⟩], some (25, false)⟩,
   ⟨some 45, .move (.tmp 3), 3, "l14_route.go:16", #[⟨25, .guard⟩], some (25, false)⟩,
   ⟨some 46, .indexAddr 42 (.tmp 44) (.tmp 45), 0, "l14_route.go:16", #[⟨34, .data⟩, ⟨35, .data⟩, ⟨25, .guard⟩], some (25, false)⟩,
   ⟨some 47, .fieldAddr 53 (.tmp 46) 1, 0, "l14_route.go:16", #[⟨36, .data⟩, ⟨25, .guard⟩], some (25, false)⟩,
   ⟨some 48, .load 3 (.tmp 47), 3, "l14_route.go:16", #[⟨37, .data⟩, ⟨25, .guard⟩], some (25, false)⟩,
   ⟨some 49, .call ⟨.value (.func 53), #[.tmp 38, .tmp 43, .tmp 48], #[42, 27, 3]⟩, 3, "l14_route.go:16", #[⟨28, .data⟩, ⟨33, .data⟩, ⟨38, .data⟩, ⟨25, .chain⟩, ⟨25, .guard⟩], some (25, false)⟩,
   ⟨some 50, .binOp BinOp.geq 3 (.tmp 49) (.const (Value.int IntKind.i64 0)) 3, 4, "l14_route.go:16", #[⟨39, .data⟩, ⟨25, .guard⟩], some (25, false)⟩,
   ⟨some 51, .pick (.tmp 35) (.const (Value.bool true)) (.tmp 50), 4, "l14_route.go:16", #[⟨25, .data⟩, ⟨40, .data⟩], none⟩] true).wp Try.prog Q ⟨#[.slice (some ⟨b, off, none⟩) n c, v1, v2, .int .i64 k, v4, v5, v6, v7, v8, v9, v10, v11, v12, v13, v14, v15, v16, v17, v18, v19, v20, v21, v22, v23, v24, v25, v26, v27, v28, v29, v30, v31, v32, v33, v34, v35, v36, v37, v38, v39, v40, v41, v42, v43, v44, v45, v46, v47, v48, v49, v50, v51, v52, v53, v54], []⟩ w := by
 have HQ := Lib.hid hQ; clear hQ
 have hdr : Below w.heap.size w w.drew := (Below.refl _ _).drew
 have BB := Lib.hid hdr
 refine wp_region_noPanic ?_
 refine wp_region_held_drew (S := (fun w' => w'.cell? ⟨b, off + k * 3, none⟩ = some (.slice x0 n0 c0) ∧ w'.cell? ⟨b, off + k * 3 + 1, none⟩ = some (.int .i64 rf) ∧ w'.cell? ⟨b, off + k * 3 + 2, none⟩ = some (.int .i64 rc))) (by kernel_rfl) ?_ (fun hHeld => ?_)
 ·
  exact ⟨kc K0.out BB.out, kc K1.out BB.out, kc K2.out BB.out⟩
 clear hdr
 generalize w.drew = wd at *
 refine wpAnyH_take (i := 0) (oi := ⟨some 10, .move (.tmp 0), 42, "l14_route.go:16", #[], none⟩) (v := ?_) rfl (by kernel_rfl) (by kernel_rfl) (by kernel_rfl) (fun _ _ _ h => h) (Or.inl ⟨by rfl, ?_⟩) (by assumption) ?_
 rotate_left
 ·
  intro w' hSw; (try dsimp only at hSw); first | (go_simp; done) | (go_simp; with_reducible rfl)
 (try simp only [Act.put, Row.pB0, Row.pB1, Row.pB2])
 refine wpAnyH_take (i := 1) (oi := ⟨some 11, .move (.tmp 3), 3, "l14_route.go:16", #[], none⟩) (v := ?_) rfl (by kernel_rfl) (by kernel_rfl) (by kernel_rfl) (fun _ _ _ h => h) (Or.inl ⟨by rfl, ?_⟩) (by assumption) ?_
 rotate_left
 ·
  intro w' hSw; (try dsimp only at hSw); first | (go_simp; done) | (go_simp; with_reducible rfl)
 (try simp only [Act.put, Row.pB0, Row.pB1, Row.pB2])
 refine wpAnyH_take (i := 2) (oi := ⟨some 12, .indexAddr 42 (.tmp 10) (.tmp 11), 0, "l14_route.go:16", #[⟨0, .data⟩, ⟨1, .data⟩], none⟩) (v := ?_) rfl (by kernel_rfl) (by kernel_rfl) (by kernel_rfl) (fun _ _ _ h => h) (Or.inl ⟨by rfl, ?_⟩) (by assumption) ?_
 rotate_left
 ·
  intro w' hSw; (try dsimp only at hSw); first | (go_simp; done) | (go_simp; with_reducible rfl)
 (try simp only [Act.put, Row.pB0, Row.pB1, Row.pB2])
 refine wpAnyH_take (i := 3) (oi := ⟨some 13, .fieldAddr 53 (.tmp 12) 0, 0, "l14_route.go:16", #[⟨2, .data⟩], none⟩) (v := ?_) rfl (by kernel_rfl) (by kernel_rfl) (by kernel_rfl) (fun _ _ _ h => h) (Or.inl ⟨by rfl, ?_⟩) (by assumption) ?_
 rotate_left
 ·
  intro w' hSw; (try dsimp only at hSw); first | (go_simp; done) | (go_simp; with_reducible rfl)
 (try simp only [Act.put, Row.pB0, Row.pB1, Row.pB2])
 refine wpAnyH_take (i := 4) (oi := ⟨some 14, .load 27 (.tmp 13), 27, "l14_route.go:16", #[⟨3, .data⟩], none⟩) (v := ?_) rfl (by kernel_rfl) (by kernel_rfl) (by kernel_rfl) (fun _ _ _ h => h) (Or.inl ⟨by rfl, ?_⟩) (by assumption) ?_
 rotate_left
 ·
  intro w' hSw; (try dsimp only at hSw); first | (go_simp; done) | (go_simp; with_reducible rfl)
 (try simp only [Act.put, Row.pB0, Row.pB1, Row.pB2])
 refine wpAnyH_ready (rs := [5]) (by kernel_rfl) (by simp) ?_
 refine AllReadyH.cons (o := ⟨some 15, .call ⟨.value (.func 51), #[.tmp 14], #[27]⟩, 4, "l14_route.go:16", #[⟨4, .data⟩], none⟩) rfl (fun K hK => ?_) AllReadyH.nil
 go_simp
 refine (sValN true HV.out (H_m.out.on BB.out) (Nat.le_trans HMB.out (by decide))).mono ?_
 rintro e wn1 ⟨rfl, hb⟩
 replace BB := Lib.hid (BB.out.trans (hb.mono BB.out.size))
 clear hb
 (try go_wp2_with fail)
 clear hHeld
 refine hK.out _ _ ?_ (fun hHeld => ?_)
 ·
  (try dsimp only); exact ⟨kc K0.out BB.out, kc K1.out BB.out, kc K2.out BB.out⟩
 clear hK K
 (try simp only [Act.put, Row.pB0, Row.pB1, Row.pB2])
 refine wpAnyH_take (i := 6) (oi := ⟨some 16, .unOp UnOp.not 4 (.tmp 15), 4, "l14_route.go:16", #[⟨5, .data⟩], none⟩) (v := ?_) rfl (by kernel_rfl) (by kernel_rfl) (by kernel_rfl) (fun _ _ _ h => h) (Or.inl ⟨by rfl, ?_⟩) (by assumption) ?_
 rotate_left
 ·
  intro w' hSw; (try dsimp only at hSw); first | (go_simp; done) | (go_simp; with_reducible rfl)
 (try simp only [Act.put, Row.pB0, Row.pB1, Row.pB2])
 refine wpAnyH_take (i := 7) (oi := ⟨some 17, .move (.tmp 16), 4, "l14_route.go:16", #[⟨6, .data⟩, ⟨5, .chain⟩], none⟩) (v := ?_) rfl (by kernel_rfl) (by kernel_rfl) (by kernel_rfl) (fun _ _ _ h => h) (Or.inl ⟨by rfl, ?_⟩) (by assumption) ?_
 rotate_left
 ·
  intro w' hSw; (try dsimp only at hSw); first | (go_simp; done) | (go_simp; with_reducible rfl)
 (try simp only [Act.put, Row.pB0, Row.pB1, Row.pB2])
 refine wpAnyH_take (i := 8) (oi := ⟨some 18, .move (.tmp 0), 42, "l14_route.go:16", #[⟨7, .guard⟩], some (7, false)⟩) (v := ?_) rfl (by kernel_rfl) (by kernel_rfl) (by kernel_rfl) (fun _ _ _ h => h) (Or.inl ⟨by rfl, ?_⟩) (by assumption) ?_
 rotate_left
 ·
  intro w' hSw; (try dsimp only at hSw); first | (go_simp; done) | (go_simp; with_reducible rfl)
 (try simp only [Act.put, Row.pB0, Row.pB1, Row.pB2])
 refine wpAnyH_take (i := 9) (oi := ⟨some 19, .move (.tmp 3), 3, "l14_route.go:16", #[⟨7, .guard⟩], some (7, false)⟩) (v := ?_) rfl (by kernel_rfl) (by kernel_rfl) (by kernel_rfl) (fun _ _ _ h => h) (Or.inl ⟨by rfl, ?_⟩) (by assumption) ?_
 rotate_left
 ·
  intro w' hSw; (try dsimp only at hSw); first | (go_simp; done) | (go_simp; with_reducible rfl)
 (try simp only [Act.put, Row.pB0, Row.pB1, Row.pB2])
 refine wpAnyH_take (i := 10) (oi := ⟨some 20, .indexAddr 42 (.tmp 18) (.tmp 19), 0, "l14_route.go:16", #[⟨8, .data⟩, ⟨9, .data⟩, ⟨7, .guard⟩], some (7, false)⟩) (v := ?_) rfl (by kernel_rfl) (by kernel_rfl) (by kernel_rfl) (fun _ _ _ h => h) (Or.inl ⟨by rfl, ?_⟩) (by assumption) ?_
 rotate_left
 ·
  intro w' hSw; (try dsimp only at hSw); first | (go_simp; done) | (go_simp; with_reducible rfl)
 (try simp only [Act.put, Row.pB0, Row.pB1, Row.pB2])
 refine wpAnyH_take (i := 11) (oi := ⟨some 21, .fieldAddr 53 (.tmp 20) 1, 0, "l14_route.go:16", #[⟨10, .data⟩, ⟨7, .guard⟩], some (7, false)⟩) (v := ?_) rfl (by kernel_rfl) (by kernel_rfl) (by kernel_rfl) (fun _ _ _ h => h) (Or.inl ⟨by rfl, ?_⟩) (by assumption) ?_
 rotate_left
 ·
  intro w' hSw; (try dsimp only at hSw); first | (go_simp; done) | (go_simp; with_reducible rfl)
 (try simp only [Act.put, Row.pB0, Row.pB1, Row.pB2])
 refine wpAnyH_take (i := 12) (oi := ⟨some 22, .load 3 (.tmp 21), 3, "l14_route.go:16", #[⟨11, .data⟩, ⟨7, .guard⟩], some (7, false)⟩) (v := ?_) rfl (by kernel_rfl) (by kernel_rfl) (by kernel_rfl) (fun _ _ _ h => h) (Or.inl ⟨by rfl, ?_⟩) (by assumption) ?_
 rotate_left
 ·
  intro w' hSw; (try dsimp only at hSw); first | (go_simp; done) | (go_simp; with_reducible rfl)
 (try simp only [Act.put, Row.pB0, Row.pB1, Row.pB2])
 refine wpAnyH_ready (rs := [13]) (by kernel_rfl) (by simp) ?_
 refine AllReadyH.cons (o := ⟨some 23, .call ⟨.value (.func 52), #[.tmp 22, .const (Value.int IntKind.i64 1), .const (Value.int IntKind.i64 6)], #[3, 3, 3]⟩, 4, "l14_route.go:16", #[⟨12, .data⟩, ⟨7, .chain⟩, ⟨7, .guard⟩], some (7, false)⟩) rfl (fun K hK => ?_) AllReadyH.nil
 go_simp
 refine (sInR true HF.out).mono ?_
 rintro e wn2 ⟨rfl, hb⟩
 replace BB := Lib.hid (BB.out.trans (hb.mono BB.out.size))
 clear hb
 (try go_wp2_with fail)
 clear hHeld
 refine hK.out _ _ ?_ (fun hHeld => ?_)
 ·
  (try dsimp only); exact ⟨kc K0.out BB.out, kc K1.out BB.out, kc K2.out BB.out⟩
 clear hK K
 (try simp only [Act.put, Row.pB0, Row.pB1, Row.pB2])
 refine wpAnyH_take (i := 14) (oi := ⟨some 24, .unOp UnOp.not 4 (.tmp 23), 4, "l14_route.go:16", #[⟨13, .data⟩, ⟨7, .guard⟩], some (7, false)⟩) (v := ?_) rfl (by kernel_rfl) (by kernel_rfl) (by kernel_rfl) (fun _ _ _ h => h) (Or.inl ⟨by rfl, ?_⟩) (by assumption) ?_
 rotate_left
 ·
  intro w' hSw; (try dsimp only at hSw); first | (go_simp; done) | (go_simp; with_reducible rfl)
 (try simp only [Act.put, Row.pB0, Row.pB1, Row.pB2])
 refine wpAnyH_take (i := 15) (oi := ⟨some 25, .pick (.tmp 17) (.const (Value.bool true)) (.tmp 24), 4, "l14_route.go:16", #[⟨7, .data⟩, ⟨14, .data⟩], none⟩) (v := ?_) rfl (by kernel_rfl) (by kernel_rfl) (by kernel_rfl) (fun _ _ _ h => h) (Or.inl ⟨by rfl, ?_⟩) (by assumption) ?_
 rotate_left
 ·
  intro w' hSw; (try dsimp only at hSw); first | (go_simp; done) | (go_simp; with_reducible rfl)
 (try simp only [Act.put, Row.pB0, Row.pB1, Row.pB2])
 refine wpAnyH_take (i := 16) (oi := ⟨some 26, .move (.tmp 25), 4, "l14_route.go:16", #[⟨15, .data⟩, ⟨13, .chain⟩], none⟩) (v := ?_) rfl (by kernel_rfl) (by kernel_rfl) (by kernel_rfl) (fun _ _ _ h => h) (Or.inl ⟨by rfl, ?_⟩) (by assumption) ?_
 rotate_left
 ·
  intro w' hSw; (try dsimp only at hSw); first | (go_simp; done) | (go_simp; with_reducible rfl)
 (try simp only [Act.put, Row.pB0, Row.pB1, Row.pB2])
 refine wpAnyH_take (i := 17) (oi := ⟨some 27, .move (.tmp 0), 42, "l14_route.go:16", #[⟨16, .guard⟩], some (16, false)⟩) (v := ?_) rfl (by kernel_rfl) (by kernel_rfl) (by kernel_rfl) (fun _ _ _ h => h) (Or.inl ⟨by rfl, ?_⟩) (by assumption) ?_
 rotate_left
 ·
  intro w' hSw; (try dsimp only at hSw); first | (go_simp; done) | (go_simp; with_reducible rfl)
 (try simp only [Act.put, Row.pB0, Row.pB1, Row.pB2])
 refine wpAnyH_take (i := 18) (oi := ⟨some 28, .move (.tmp 3), 3, "l14_route.go:16", #[⟨16, .guard⟩], some (16, false)⟩) (v := ?_) rfl (by kernel_rfl) (by kernel_rfl) (by kernel_rfl) (fun _ _ _ h => h) (Or.inl ⟨by rfl, ?_⟩) (by assumption) ?_
 rotate_left
 ·
  intro w' hSw; (try dsimp only at hSw); first | (go_simp; done) | (go_simp; with_reducible rfl)
 (try simp only [Act.put, Row.pB0, Row.pB1, Row.pB2])
 refine wpAnyH_take (i := 19) (oi := ⟨some 29, .indexAddr 42 (.tmp 27) (.tmp 28), 0, "l14_route.go:16", #[⟨17, .data⟩, ⟨18, .data⟩, ⟨16, .guard⟩], some (16, false)⟩) (v := ?_) rfl (by kernel_rfl) (by kernel_rfl) (by kernel_rfl) (fun _ _ _ h => h) (Or.inl ⟨by rfl, ?_⟩) (by assumption) ?_
 rotate_left
 ·
  intro w' hSw; (try dsimp only at hSw); first | (go_simp; done) | (go_simp; with_reducible rfl)
 (try simp only [Act.put, Row.pB0, Row.pB1, Row.pB2])
 refine wpAnyH_take (i := 20) (oi := ⟨some 30, .fieldAddr 53 (.tmp 29) 2, 0, "l14_route.go:16", #[⟨19, .data⟩, ⟨16, .guard⟩], some (16, false)⟩) (v := ?_) rfl (by kernel_rfl) (by kernel_rfl) (by kernel_rfl) (fun _ _ _ h => h) (Or.inl ⟨by rfl, ?_⟩) (by assumption) ?_
 rotate_left
 ·
  intro w' hSw; (try dsimp only at hSw); first | (go_simp; done) | (go_simp; with_reducible rfl)
 (try simp only [Act.put, Row.pB0, Row.pB1, Row.pB2])
 refine wpAnyH_take (i := 21) (oi := ⟨some 31, .load 3 (.tmp 30), 3, "l14_route.go:16", #[⟨20, .data⟩, ⟨16, .guard⟩], some (16, false)⟩) (v := ?_) rfl (by kernel_rfl) (by kernel_rfl) (by kernel_rfl) (fun _ _ _ h => h) (Or.inl ⟨by rfl, ?_⟩) (by assumption) ?_
 rotate_left
 ·
  intro w' hSw; (try dsimp only at hSw); first | (go_simp; done) | (go_simp; with_reducible rfl)
 (try simp only [Act.put, Row.pB0, Row.pB1, Row.pB2])
 refine wpAnyH_ready (rs := [22]) (by kernel_rfl) (by simp) ?_
 refine AllReadyH.cons (o := ⟨some 32, .call ⟨.value (.func 52), #[.tmp 31, .const (Value.int IntKind.i64 0), .const (Value.int IntKind.i64 1000)], #[3, 3, 3]⟩, 4, "l14_route.go:16", #[⟨21, .data⟩, ⟨16, .chain⟩, ⟨16, .guard⟩], some (16, false)⟩) rfl (fun K hK => ?_) AllReadyH.nil
 go_simp
 refine (sInR false HI.out).mono ?_
 rintro e wn3 ⟨rfl, hb⟩
 replace BB := Lib.hid (BB.out.trans (hb.mono BB.out.size))
 clear hb
 (try go_wp2_with fail)
 clear hHeld
 refine hK.out _ _ ?_ (fun hHeld => ?_)
 ·
  (try dsimp only); exact ⟨kc K0.out BB.out, kc K1.out BB.out, kc K2.out BB.out⟩
 clear hK K
 (try simp only [Act.put, Row.pB0, Row.pB1, Row.pB2])
 refine wpAnyH_take (i := 23) (oi := ⟨some 33, .unOp UnOp.not 4 (.tmp 32), 4, "l14_route.go:16", #[⟨22, .data⟩, ⟨16, .guard⟩], some (16, false)⟩) (v := ?_) rfl (by kernel_rfl) (by kernel_rfl) (by kernel_rfl) (fun _ _ _ h => h) (Or.inl ⟨by rfl, ?_⟩) (by assumption) ?_
 rotate_left
 ·
  intro w' hSw; (try dsimp only at hSw); first | (go_simp; done) | (go_simp; with_reducible rfl)
 (try simp only [Act.put, Row.pB0, Row.pB1, Row.pB2])
 refine wpAnyH_take (i := 24) (oi := ⟨some 34, .pick (.tmp 26) (.const (Value.bool true)) (.tmp 33), 4, "l14_route.go:16", #[⟨16, .data⟩, ⟨23, .data⟩], none⟩) (v := ?_) rfl (by kernel_rfl) (by kernel_rfl) (by kernel_rfl) (fun _ _ _ h => h) (Or.inl ⟨by rfl, ?_⟩) (by assumption) ?_
 rotate_left
 ·
  intro w' hSw; (try dsimp only at hSw); first | (go_simp; done) | (go_simp; with_reducible rfl)
 (try simp only [Act.put, Row.pB0, Row.pB1, Row.pB2])
 refine wpAnyH_take (i := 25) (oi := ⟨some 35, .move (.tmp 34), 4, "l14_route.go:16", #[⟨24, .data⟩, ⟨22, .chain⟩], none⟩) (v := ?_) rfl (by kernel_rfl) (by kernel_rfl) (by kernel_rfl) (fun _ _ _ h => h) (Or.inl ⟨by rfl, ?_⟩) (by assumption) ?_
 rotate_left
 ·
  intro w' hSw; (try dsimp only at hSw); first | (go_simp; done) | (go_simp; with_reducible rfl)
 (try simp only [Act.put, Row.pB0, Row.pB1, Row.pB2])
 refine wpAnyH_take (i := 26) (oi := ⟨some 36, .move (.tmp 0), 42, "l14_route.go:16", #[⟨25, .guard⟩], some (25, false)⟩) (v := undef) rfl (by kernel_rfl) (by kernel_rfl) (by kernel_rfl) (fun _ _ _ h => h) (Or.inr ⟨by rfl, rfl⟩) (by assumption) ?_
 (try simp only [Act.put, Row.pB0, Row.pB1, Row.pB2])
 refine wpAnyH_take (i := 27) (oi := ⟨some 37, .move (.tmp 3), 3, "l14_route.go:16", #[⟨25, .guard⟩], some (25, false)⟩) (v := undef) rfl (by kernel_rfl) (by kernel_rfl) (by kernel_rfl) (fun _ _ _ h => h) (Or.inr ⟨by rfl, rfl⟩) (by assumption) ?_
 (try simp only [Act.put, Row.pB0, Row.pB1, Row.pB2])
 refine wpAnyH_take (i := 28) (oi := ⟨some 38, .slice 42 (.tmp 36) none (some (.tmp 37)) none, 42, "l14_route.go:16", #[⟨26, .data⟩, ⟨27, .data⟩, ⟨25, .guard⟩], some (25, false)⟩) (v := undef) rfl (by kernel_rfl) (by kernel_rfl) (by kernel_rfl) (fun _ _ _ h => h) (Or.inr ⟨by rfl, rfl⟩) (by assumption) ?_
 (try simp only [Act.put, Row.pB0, Row.pB1, Row.pB2])
 refine wpAnyH_take (i := 29) (oi := ⟨some 39, .move (.tmp 0), 42, "l14_route.go:16", #[⟨25, .guard⟩], some (25, false)⟩) (v := undef) rfl (by kernel_rfl) (by kernel_rfl) (by kernel_rfl) (fun _ _ _ h => h) (Or.inr ⟨by rfl, rfl⟩) (by assumption) ?_
 (try simp only [Act.put, Row.pB0, Row.pB1, Row.pB2])
 refine wpAnyH_take (i := 30) (oi := ⟨some 40, .move (.tmp 3), 3, "l14_route.go:16", #[⟨25, .guard⟩], some (25, false)⟩) (v := undef) rfl (by kernel_rfl) (by kernel_rfl) (by kernel_rfl) (fun _ _ _ h => h) (Or.inr ⟨by rfl, rfl⟩) (by assumption) ?_
 (try simp only [Act.put, Row.pB0, Row.pB1, Row.pB2])
 refine wpAnyH_take (i := 31) (oi := ⟨some 41, .indexAddr 42 (.tmp 39) (.tmp 40), 0, "l14_route.go:16", #[⟨29, .data⟩, ⟨30, .data⟩, ⟨25, .guard⟩], some (25, false)⟩) (v := undef) rfl (by kernel_rfl) (by kernel_rfl) (by kernel_rfl) (fun _ _ _ h => h) (Or.inr ⟨by rfl, rfl⟩) (by assumption) ?_
 (try simp only [Act.put, Row.pB0, Row.pB1, Row.pB2])
 refine wpAnyH_take (i := 32) (oi := ⟨some 42, .fieldAddr 53 (.tmp 41) 0, 0, "l14_route.go:16", #[⟨31, .data⟩, ⟨25, .guard⟩], some (25, false)⟩) (v := undef) rfl (by kernel_rfl) (by kernel_rfl) (by kernel_rfl) (fun _ _ _ h => h) (Or.inr ⟨by rfl, rfl⟩) (by assumption) ?_
 (try simp only [Act.put, Row.pB0, Row.pB1, Row.pB2])
 refine wpAnyH_take (i := 33) (oi := ⟨some 43, .load 27 (.tmp 42), 27, "l14_route.go:16", #[⟨32, .data⟩, ⟨25, .guard⟩], some (25, false)⟩) (v := undef) rfl (by kernel_rfl) (by kernel_rfl) (by kernel_rfl) (fun _ _ _ h => h) (Or.inr ⟨by rfl, rfl⟩) (by assumption) ?_
 (try simp only [Act.put, Row.pB0, Row.pB1, Row.pB2])
 refine wpAnyH_take (i := 34) (oi := ⟨some 44, .move (.tmp 0), 42, "l14_route.go:16", #[⟨25, .guard⟩], some (25, false)⟩) (v := undef) rfl (by kernel_rfl) (by kernel_rfl) (by kernel_rfl) (fun _ _ _ h => h) (Or.inr ⟨by rfl, rfl⟩) (by assumption) ?_
 (try simp only [Act.put, Row.pB0, Row.pB1, Row.pB2])
 refine wpAnyH_take (i := 35) (oi := ⟨some 45, .move (.tmp 3), 3, "l14_route.go:16", #[⟨25, .guard⟩], some (25, false)⟩) (v := undef) rfl (by kernel_rfl) (by kernel_rfl) (by kernel_rfl) (fun _ _ _ h => h) (Or.inr ⟨by rfl, rfl⟩) (by assumption) ?_
 (try simp only [Act.put, Row.pB0, Row.pB1, Row.pB2])
 refine wpAnyH_take (i := 36) (oi := ⟨some 46, .indexAddr 42 (.tmp 44) (.tmp 45), 0, "l14_route.go:16", #[⟨34, .data⟩, ⟨35, .data⟩, ⟨25, .guard⟩], some (25, false)⟩) (v := undef) rfl (by kernel_rfl) (by kernel_rfl) (by kernel_rfl) (fun _ _ _ h => h) (Or.inr ⟨by rfl, rfl⟩) (by assumption) ?_
 (try simp only [Act.put, Row.pB0, Row.pB1, Row.pB2])
 refine wpAnyH_take (i := 37) (oi := ⟨some 47, .fieldAddr 53 (.tmp 46) 1, 0, "l14_route.go:16", #[⟨36, .data⟩, ⟨25, .guard⟩], some (25, false)⟩) (v := undef) rfl (by kernel_rfl) (by kernel_rfl) (by kernel_rfl) (fun _ _ _ h => h) (Or.inr ⟨by rfl, rfl⟩) (by assumption) ?_
 (try simp only [Act.put, Row.pB0, Row.pB1, Row.pB2])
 refine wpAnyH_take (i := 38) (oi := ⟨some 48, .load 3 (.tmp 47), 3, "l14_route.go:16", #[⟨37, .data⟩, ⟨25, .guard⟩], some (25, false)⟩) (v := undef) rfl (by kernel_rfl) (by kernel_rfl) (by kernel_rfl) (fun _ _ _ h => h) (Or.inr ⟨by rfl, rfl⟩) (by assumption) ?_
 (try simp only [Act.put, Row.pB0, Row.pB1, Row.pB2])
 refine wpAnyH_take (i := 39) (oi := ⟨some 49, .call ⟨.value (.func 53), #[.tmp 38, .tmp 43, .tmp 48], #[42, 27, 3]⟩, 3, "l14_route.go:16", #[⟨28, .data⟩, ⟨33, .data⟩, ⟨38, .data⟩, ⟨25, .chain⟩, ⟨25, .guard⟩], some (25, false)⟩) (v := undef) rfl (by kernel_rfl) (by kernel_rfl) (by kernel_rfl) (fun _ _ _ h => h) (Or.inr ⟨by rfl, rfl⟩) (by assumption) ?_
 (try simp only [Act.put, Row.pB0, Row.pB1, Row.pB2])
 refine wpAnyH_take (i := 40) (oi := ⟨some 50, .binOp BinOp.geq 3 (.tmp 49) (.const (Value.int IntKind.i64 0)) 3, 4, "l14_route.go:16", #[⟨39, .data⟩, ⟨25, .guard⟩], some (25, false)⟩) (v := undef) rfl (by kernel_rfl) (by kernel_rfl) (by kernel_rfl) (fun _ _ _ h => h) (Or.inr ⟨by rfl, rfl⟩) (by assumption) ?_
 (try simp only [Act.put, Row.pB0, Row.pB1, Row.pB2])
 refine wpAnyH_take (i := 41) (oi := ⟨some 51, .pick (.tmp 35) (.const (Value.bool true)) (.tmp 50), 4, "l14_route.go:16", #[⟨25, .data⟩, ⟨40, .data⟩], none⟩) (v := ?_) rfl (by kernel_rfl) (by kernel_rfl) (by kernel_rfl) (fun _ _ _ h => h) (Or.inl ⟨by rfl, ?_⟩) (by assumption) ?_
 rotate_left
 ·
  intro w' hSw; (try dsimp only at hSw); first | (go_simp; done) | (go_simp; with_reducible rfl)
 (try simp only [Act.put, Row.pB0, Row.pB1, Row.pB2])
 refine wpAnyH_done (by kernel_rfl) ?_ _
 exact NoPanic.normal (HQ.out _ _ _ _ _ _ _ _ _ _ _ _ _ _ _ _ _ _ _ _ _ _ _ _ _ _ _ _ _ _ _ _ _ _ _ _ _ _ _ _ _  _  BB.out)
end Go.Proofs.Ytdaahcaafdleaaa.Row
/- A region of the model's ValidRoutes. No conditions but that lengths fit. -/
namespace Go.Proofs.Ytdaahcaafdleaaa.Row
open Go.ChangeShapes Go.WideShapes Go.ChangeAt Go.RowKit Go.Instr
set_option linter.unusedVariables false
set_option maxRecDepth 100000
set_option maxRecDepth 100000 in
set_option maxHeartbeats 4000000 in
theorem rvt3 {Q : Exit → Act → World → Prop} {v1 v2 v4 v5 v6 v7 v8 v9 v10 v11 v12 v13 v14 v15 v16 v17 v18 v19 v20 v21 v22 v23 v24 v25 v26 v27 v28 v29 v30 v31 v32 v33 v34 v35 v36 v37 v38 v39 v40 v41 v42 v43 v44 v45 v46 v47 v48 v49 v50 v51 v52 v53 v54 : Value} {w : World} {b off n c k n0 c0 : Nat} {x0 : Option Addr} {rf rc : Int} {m : List ByteArray} {l : List Rtt} {r : Int} (hk : k < n) (hkc : k ≤ c) (hn : n ≤ 9000000) (HV : Hid (validN m = true)) (H_m : Hid (kN.At w (.agg #[.slice x0 n0 c0]) m)) (HMB : Hid (bulk m ≤ 1200000)) (HF : Hid (Num.inB rf 1 6 = true)) (HI : Hid (Num.inB rc 0 1000 = true)) (HR : Hid (ixL (isRt m rf) (l.take k) = r)) (H_l : Hid (kLRt.At w (.slice (some ⟨b, off, none⟩) k c) (l.take k))) (HLL : Hid ((l.take k).length ≤ 9000000)) (HLP : Hid (∀ x ∈ l.take k, bulk x.1 ≤ 1200000)) (K0 : Hid (w.cell? ⟨b, off + k * 3, none⟩ = some (.slice x0 n0 c0))) (K1 : Hid (w.cell? ⟨b, off + k * 3 + 1, none⟩ = some (.int .i64 rf))) (K2 : Hid (w.cell? ⟨b, off + k * 3 + 2, none⟩ = some (.int .i64 rc)))
  (hQ : ∀ (u10 u11 u12 u13 u14 u15 u16 u17 u18 u19 u20 u21 u22 u23 u24 u25 u26 u27 u28 u29 u30 u31 u32 u33 u34 u35 u36 u37 u38 u39 u40 u41 u42 u43 u44 u45 u46 u47 u48 u49 u50 : Value)  (wx : World), Below w.heap.size w wx → Q .normal ⟨#[.slice (some ⟨b, off, none⟩) n c, v1, v2, .int .i64 k, v4, v5, v6, v7, v8, v9, u10, u11, u12, u13, u14, u15, u16, u17, u18, u19, u20, u21, u22, u23, u24, u25, u26, u27, u28, u29, u30, u31, u32, u33, u34, u35, u36, u37, u38, u39, u40, u41, u42, u43, u44, u45, u46, u47, u48, u49, u50, .bool (decide (0 ≤ r)), v52, v53, v54], []⟩ wx) :
  (Code.region 4 #[⟨some 10, .move (.tmp 0), 42, "l14_route.go:16", #[], none⟩,
   ⟨some 11, .move (.tmp 3), 3, "l14_route.go:16", #[], none⟩,
   ⟨some 12, .indexAddr 42 (.tmp 10) (.tmp 11), 0, "l14_route.go:16", #[⟨0, .data⟩, ⟨1, .data⟩], none⟩,
   ⟨some 13, .fieldAddr 53 (.tmp 12) 0, 0, "l14_route.go:16", #[⟨2, .data⟩], none⟩,
   ⟨some 14, .load 27 (.tmp 13), 27, "l14_route.go:16", #[⟨3, .data⟩], none⟩,
   ⟨some 15, .call ⟨.value (.func 51), #[.tmp 14], #[27]⟩, 4, "l14_route.go:16", #[⟨4, .data⟩], none⟩,
   ⟨some 16, .unOp UnOp.not 4 (.tmp 15), 4, "l14_route.go:16", #[⟨5, .data⟩], none⟩,
   ⟨some 17, .move (.tmp 16), 4, "l14_route.go:16", #[⟨6, .data⟩, ⟨5, .chain⟩], none⟩,
   ⟨some 18, .move (.tmp 0), 42, "l14_route.go:16", #[⟨7, .guard⟩], some (7, false)⟩,
   ⟨some 19, .move (.tmp 3), 3, "l14_route.go:16", #[⟨7, .guard⟩], some (7, false)⟩,
   ⟨some 20, .indexAddr 42 (.tmp 18) (.tmp 19), 0, "l14_route.go:16", #[⟨8, .data⟩, ⟨9, .data⟩, ⟨7, .guard⟩], some (7, false)⟩,
   ⟨some 21, .fieldAddr 53 (.tmp 20) 1, 0, "l14_route.go:16", #[⟨10, .data⟩, ⟨7, .guard⟩], some (7, false)⟩,
   ⟨some 22, .load 3 (.tmp 21), 3, "l14_route.go:16", #[⟨11, .data⟩, ⟨7, .guard⟩], some (7, false)⟩,
   ⟨some 23, .call ⟨.value (.func 52), #[.tmp 22, .const (Value.int IntKind.i64 1), .const (Value.int IntKind.i64 6)], #[3, 3, 3]⟩, 4, "l14_route.go:16", #[⟨12, .data⟩, ⟨7, .chain⟩, ⟨7, .guard⟩], some (7, false)⟩,
   ⟨some 24, .unOp UnOp.not 4 (.tmp 23), 4, "l14_route.go:16", #[⟨13, .data⟩, ⟨7, .guard⟩], some (7, false)⟩,
   ⟨some 25, .pick (.tmp 17) (.const (Value.bool true)) (.tmp 24), 4, "l14_route.go:16", #[⟨7, .data⟩, ⟨14, .data⟩], none⟩,
   ⟨some 26, .move (.tmp 25), 4, "l14_route.go:16", #[⟨15, .data⟩, ⟨13, .chain⟩], none⟩,
   ⟨some 27, .move (.tmp 0), 42, "l14_route.go:16", #[⟨16, .guard⟩], some (16, false)⟩,
   ⟨some 28, .move (.tmp 3), 3, "l14_route.go:16", #[⟨16, .guard⟩], some (16, false)⟩,
   ⟨some 29, .indexAddr 42 (.tmp 27) (.tmp 28), 0, "l14_route.go:16", #[⟨17, .data⟩, ⟨18, .data⟩, ⟨16, .guard⟩], some (16, false)⟩,
   ⟨some 30, .fieldAddr 53 (.tmp 29) 2, 0, "l14_route.go:16", #[⟨19, .data⟩, ⟨16, .guard⟩], some (16, false)⟩,
   ⟨some 31, .load 3 (.tmp 30), 3, "l14_route.go:16", #[⟨20, .data⟩, ⟨16, .guard⟩], some (16, false)⟩,
   ⟨some 32, .call ⟨.value (.func 52), #[.tmp 31, .const (Value.int IntKind.i64 0), .const (Value.int IntKind.i64 1000)], #[3, 3, 3]⟩, 4, "l14_route.go:16", #[⟨21, .data⟩, ⟨16, .chain⟩, ⟨16, .guard⟩], some (16, false)⟩,
   ⟨some 33, .unOp UnOp.not 4 (.tmp 32), 4, "l14_route.go:16", #[⟨22, .data⟩, ⟨16, .guard⟩], some (16, false)⟩,
   ⟨some 34, .pick (.tmp 26) (.const (Value.bool true)) (.tmp 33), 4, "l14_route.go:16", #[⟨16, .data⟩, ⟨23, .data⟩], none⟩,
   ⟨some 35, .move (.tmp 34), 4, "l14_route.go:16", #[⟨24, .data⟩, ⟨22, .chain⟩], none⟩,
   ⟨some 36, .move (.tmp 0), 42, "l14_route.go:16", #[⟨25, .guard⟩], some (25, false)⟩,
   ⟨some 37, .move (.tmp 3), 3, "l14_route.go:16", #[⟨25, .guard⟩], some (25, false)⟩,
   ⟨some 38, .slice 42 (.tmp 36) none (some (.tmp 37)) none, 42, "l14_route.go:16", #[⟨26, .data⟩, ⟨27, .data⟩, ⟨25, .guard⟩], some (25, false)⟩,
   ⟨some 39, .move (.tmp 0), 42, "l14_route.go:16", #[⟨25, .guard⟩], some (25, false)⟩,
   ⟨some 40, .move (.tmp 3), 3, "l14_route.go:16", #[⟨25, .guard⟩], some (25, false)⟩,
   ⟨some 41, .indexAddr 42 (.tmp 39) (.tmp 40), 0, "l14_route.go:16", #[⟨29, .data⟩, ⟨30, .data⟩, ⟨25, .guard⟩], some (25, false)⟩,
   ⟨some 42, .fieldAddr 53 (.tmp 41) 0, 0, "l14_route.go:16", #[⟨31, .data⟩, ⟨25, .guard⟩], some (25, false)⟩,
   ⟨some 43, .load 27 (.tmp 42), 27, "l14_route.go:16", #[⟨32, .data⟩, ⟨25, .guard⟩], some (25, false)⟩,
   ⟨some 44, .move (.tmp 0), 42, "l14_route.go:16", #[⟨25, .guard⟩], some (25, false)⟩,
   ⟨some 45, .move (.tmp 3), 3, "l14_route.go:16", #[⟨25, .guard⟩], some (25, false)⟩,
   ⟨some 46, .indexAddr 42 (.tmp 44) (.tmp 45), 0, "l14_route.go:16", #[⟨34, .data⟩, ⟨35, .data⟩, ⟨25, .guard⟩], some (25, false)⟩,
   ⟨some 47, .fieldAddr 53 (.tmp 46) 1, 0, "l14_route.go:16", #[⟨36, .data⟩, ⟨25, .guard⟩], some (25, false)⟩,
   ⟨some 48, .load 3 (.tmp 47), 3, "l14_route.go:16", #[⟨37, .data⟩, ⟨25, .guard⟩], some (25, false)⟩,
   ⟨some 49, .call ⟨.value (.func 53), #[.tmp 38, .tmp 43, .tmp 48], #[42, 27, 3]⟩, 3, "l14_route.go:16", #[⟨28, .data⟩, ⟨33, .data⟩, ⟨38, .data⟩, ⟨25, .chain⟩, ⟨25, .guard⟩], some (25, false)⟩,
   ⟨some 50, .binOp BinOp.geq 3 (.tmp 49) (.const (Value.int IntKind.i64 0)) 3, 4, "l14_route.go:16", #[⟨39, .data⟩, ⟨25, .guard⟩], some (25, false)⟩,
   ⟨some 51, .pick (.tmp 35) (.const (Value.bool true)) (.tmp 50), 4, "l14_route.go:16", #[⟨25, .data⟩, ⟨40, .data⟩], none⟩] true).wp Try.prog Q ⟨#[.slice (some ⟨b, off, none⟩) n c, v1, v2, .int .i64 k, v4, v5, v6, v7, v8, v9, v10, v11, v12, v13, v14, v15, v16, v17, v18, v19, v20, v21, v22, v23, v24, v25, v26, v27, v28, v29, v30, v31, v32, v33, v34, v35, v36, v37, v38, v39, v40, v41, v42, v43, v44, v45, v46, v47, v48, v49, v50, v51, v52, v53, v54], []⟩ w := by
 have HQ := Lib.hid hQ; clear hQ
 have hdr : Below w.heap.size w w.drew := (Below.refl _ _).drew
 have BB := Lib.hid hdr
 refine wp_region_noPanic ?_
 refine wp_region_held_drew (S := (fun w' => w'.cell? ⟨b, off + k * 3, none⟩ = some (.slice x0 n0 c0) ∧ w'.cell? ⟨b, off + k * 3 + 1, none⟩ = some (.int .i64 rf) ∧ w'.cell? ⟨b, off + k * 3 + 2, none⟩ = some (.int .i64 rc))) (by kernel_rfl) ?_ (fun hHeld => ?_)
 ·
  exact ⟨kc K0.out BB.out, kc K1.out BB.out, kc K2.out BB.out⟩
 clear hdr
 generalize w.drew = wd at *
 refine wpAnyH_take (i := 0) (oi := ⟨some 10, .move (.tmp 0), 42, "l14_route.go:16", #[], none⟩) (v := ?_) rfl (by kernel_rfl) (by kernel_rfl) (by kernel_rfl) (fun _ _ _ h => h) (Or.inl ⟨by rfl, ?_⟩) (by assumption) ?_
 rotate_left
 ·
  intro w' hSw; (try dsimp only at hSw); first | (go_simp; done) | (go_simp; with_reducible rfl)
 (try simp only [Act.put, Row.pB0, Row.pB1, Row.pB2])
 refine wpAnyH_take (i := 1) (oi := ⟨some 11, .move (.tmp 3), 3, "l14_route.go:16", #[], none⟩) (v := ?_) rfl (by kernel_rfl) (by kernel_rfl) (by kernel_rfl) (fun _ _ _ h => h) (Or.inl ⟨by rfl, ?_⟩) (by assumption) ?_
 rotate_left
 ·
  intro w' hSw; (try dsimp only at hSw); first | (go_simp; done) | (go_simp; with_reducible rfl)
 (try simp only [Act.put, Row.pB0, Row.pB1, Row.pB2])
 refine wpAnyH_take (i := 2) (oi := ⟨some 12, .indexAddr 42 (.tmp 10) (.tmp 11), 0, "l14_route.go:16", #[⟨0, .data⟩, ⟨1, .data⟩], none⟩) (v := ?_) rfl (by kernel_rfl) (by kernel_rfl) (by kernel_rfl) (fun _ _ _ h => h) (Or.inl ⟨by rfl, ?_⟩) (by assumption) ?_
 rotate_left
 ·
  intro w' hSw; (try dsimp only at hSw); first | (go_simp; done) | (go_simp; with_reducible rfl)
 (try simp only [Act.put, Row.pB0, Row.pB1, Row.pB2])
 refine wpAnyH_take (i := 3) (oi := ⟨some 13, .fieldAddr 53 (.tmp 12) 0, 0, "l14_route.go:16", #[⟨2, .data⟩], none⟩) (v := ?_) rfl (by kernel_rfl) (by kernel_rfl) (by kernel_rfl) (fun _ _ _ h => h) (Or.inl ⟨by rfl, ?_⟩) (by assumption) ?_
 rotate_left
 ·
  intro w' hSw; (try dsimp only at hSw); first | (go_simp; done) | (go_simp; with_reducible rfl)
 (try simp only [Act.put, Row.pB0, Row.pB1, Row.pB2])
 refine wpAnyH_take (i := 4) (oi := ⟨some 14, .load 27 (.tmp 13), 27, "l14_route.go:16", #[⟨3, .data⟩], none⟩) (v := ?_) rfl (by kernel_rfl) (by kernel_rfl) (by kernel_rfl) (fun _ _ _ h => h) (Or.inl ⟨by rfl, ?_⟩) (by assumption) ?_
 rotate_left
 ·
  intro w' hSw; (try dsimp only at hSw); first | (go_simp; done) | (go_simp; with_reducible rfl)
 (try simp only [Act.put, Row.pB0, Row.pB1, Row.pB2])
 refine wpAnyH_ready (rs := [5]) (by kernel_rfl) (by simp) ?_
 refine AllReadyH.cons (o := ⟨some 15, .call ⟨.value (.func 51), #[.tmp 14], #[27]⟩, 4, "l14_route.go:16", #[⟨4, .data⟩], none⟩) rfl (fun K hK => ?_) AllReadyH.nil
 go_simp
 refine (sValN true HV.out (H_m.out.on BB.out) (Nat.le_trans HMB.out (by decide))).mono ?_
 rintro e wn1 ⟨rfl, hb⟩
 replace BB := Lib.hid (BB.out.trans (hb.mono BB.out.size))
 clear hb
 (try go_wp2_with fail)
 clear hHeld
 refine hK.out _ _ ?_ (fun hHeld => ?_)
 ·
  (try dsimp only); exact ⟨kc K0.out BB.out, kc K1.out BB.out, kc K2.out BB.out⟩
 clear hK K
 (try simp only [Act.put, Row.pB0, Row.pB1, Row.pB2])
 refine wpAnyH_take (i := 6) (oi := ⟨some 16, .unOp UnOp.not 4 (.tmp 15), 4, "l14_route.go:16", #[⟨5, .data⟩], none⟩) (v := ?_) rfl (by kernel_rfl) (by kernel_rfl) (by kernel_rfl) (fun _ _ _ h => h) (Or.inl ⟨by rfl, ?_⟩) (by assumption) ?_
 rotate_left
 ·
  intro w' hSw; (try dsimp only at hSw); first | (go_simp; done) | (go_simp; with_reducible rfl)
 (try simp only [Act.put, Row.pB0, Row.pB1, Row.pB2])
 refine wpAnyH_take (i := 7) (oi := ⟨some 17, .move (.tmp 16), 4, "l14_route.go:16", #[⟨6, .data⟩, ⟨5, .chain⟩], none⟩) (v := ?_) rfl (by kernel_rfl) (by kernel_rfl) (by kernel_rfl) (fun _ _ _ h => h) (Or.inl ⟨by rfl, ?_⟩) (by assumption) ?_
 rotate_left
 ·
  intro w' hSw; (try dsimp only at hSw); first | (go_simp; done) | (go_simp; with_reducible rfl)
 (try simp only [Act.put, Row.pB0, Row.pB1, Row.pB2])
 refine wpAnyH_take (i := 8) (oi := ⟨some 18, .move (.tmp 0), 42, "l14_route.go:16", #[⟨7, .guard⟩], some (7, false)⟩) (v := ?_) rfl (by kernel_rfl) (by kernel_rfl) (by kernel_rfl) (fun _ _ _ h => h) (Or.inl ⟨by rfl, ?_⟩) (by assumption) ?_
 rotate_left
 ·
  intro w' hSw; (try dsimp only at hSw); first | (go_simp; done) | (go_simp; with_reducible rfl)
 (try simp only [Act.put, Row.pB0, Row.pB1, Row.pB2])
 refine wpAnyH_take (i := 9) (oi := ⟨some 19, .move (.tmp 3), 3, "l14_route.go:16", #[⟨7, .guard⟩], some (7, false)⟩) (v := ?_) rfl (by kernel_rfl) (by kernel_rfl) (by kernel_rfl) (fun _ _ _ h => h) (Or.inl ⟨by rfl, ?_⟩) (by assumption) ?_
 rotate_left
 ·
  intro w' hSw; (try dsimp only at hSw); first | (go_simp; done) | (go_simp; with_reducible rfl)
 (try simp only [Act.put, Row.pB0, Row.pB1, Row.pB2])
 refine wpAnyH_take (i := 10) (oi := ⟨some 20, .indexAddr 42 (.tmp 18) (.tmp 19), 0, "l14_route.go:16", #[⟨8, .data⟩, ⟨9, .data⟩, ⟨7, .guard⟩], some (7, false)⟩) (v := ?_) rfl (by kernel_rfl) (by kernel_rfl) (by kernel_rfl) (fun _ _ _ h => h) (Or.inl ⟨by rfl, ?_⟩) (by assumption) ?_
 rotate_left
 ·
  intro w' hSw; (try dsimp only at hSw); first | (go_simp; done) | (go_simp; with_reducible rfl)
 (try simp only [Act.put, Row.pB0, Row.pB1, Row.pB2])
 refine wpAnyH_take (i := 11) (oi := ⟨some 21, .fieldAddr 53 (.tmp 20) 1, 0, "l14_route.go:16", #[⟨10, .data⟩, ⟨7, .guard⟩], some (7, false)⟩) (v := ?_) rfl (by kernel_rfl) (by kernel_rfl) (by kernel_rfl) (fun _ _ _ h => h) (Or.inl ⟨by rfl, ?_⟩) (by assumption) ?_
 rotate_left
 ·
  intro w' hSw; (try dsimp only at hSw); first | (go_simp; done) | (go_simp; with_reducible rfl)
 (try simp only [Act.put, Row.pB0, Row.pB1, Row.pB2])
 refine wpAnyH_take (i := 12) (oi := ⟨some 22, .load 3 (.tmp 21), 3, "l14_route.go:16", #[⟨11, .data⟩, ⟨7, .guard⟩], some (7, false)⟩) (v := ?_) rfl (by kernel_rfl) (by kernel_rfl) (by kernel_rfl) (fun _ _ _ h => h) (Or.inl ⟨by rfl, ?_⟩) (by assumption) ?_
 rotate_left
 ·
  intro w' hSw; (try dsimp only at hSw); first | (go_simp; done) | (go_simp; with_reducible rfl)
 (try simp only [Act.put, Row.pB0, Row.pB1, Row.pB2])
 refine wpAnyH_ready (rs := [13]) (by kernel_rfl) (by simp) ?_
 refine AllReadyH.cons (o := ⟨some 23, .call ⟨.value (.func 52), #[.tmp 22, .const (Value.int IntKind.i64 1), .const (Value.int IntKind.i64 6)], #[3, 3, 3]⟩, 4, "l14_route.go:16", #[⟨12, .data⟩, ⟨7, .chain⟩, ⟨7, .guard⟩], some (7, false)⟩) rfl (fun K hK => ?_) AllReadyH.nil
 go_simp
 refine (sInR true HF.out).mono ?_
 rintro e wn2 ⟨rfl, hb⟩
 replace BB := Lib.hid (BB.out.trans (hb.mono BB.out.size))
 clear hb
 (try go_wp2_with fail)
 clear hHeld
 refine hK.out _ _ ?_ (fun hHeld => ?_)
 ·
  (try dsimp only); exact ⟨kc K0.out BB.out, kc K1.out BB.out, kc K2.out BB.out⟩
 clear hK K
 (try simp only [Act.put, Row.pB0, Row.pB1, Row.pB2])
 refine wpAnyH_take (i := 14) (oi := ⟨some 24, .unOp UnOp.not 4 (.tmp 23), 4, "l14_route.go:16", #[⟨13, .data⟩, ⟨7, .guard⟩], some (7, false)⟩) (v := ?_) rfl (by kernel_rfl) (by kernel_rfl) (by kernel_rfl) (fun _ _ _ h => h) (Or.inl ⟨by rfl, ?_⟩) (by assumption) ?_
 rotate_left
 ·
  intro w' hSw; (try dsimp only at hSw); first | (go_simp; done) | (go_simp; with_reducible rfl)
 (try simp only [Act.put, Row.pB0, Row.pB1, Row.pB2])
 refine wpAnyH_take (i := 15) (oi := ⟨some 25, .pick (.tmp 17) (.const (Value.bool true)) (.tmp 24), 4, "l14_route.go:16", #[⟨7, .data⟩, ⟨14, .data⟩], none⟩) (v := ?_) rfl (by kernel_rfl) (by kernel_rfl) (by kernel_rfl) (fun _ _ _ h => h) (Or.inl ⟨by rfl, ?_⟩) (by assumption) ?_
 rotate_left
 ·
  intro w' hSw; (try dsimp only at hSw); first | (go_simp; done) | (go_simp; with_reducible rfl)
 (try simp only [Act.put, Row.pB0, Row.pB1, Row.pB2])
 refine wpAnyH_take (i := 16) (oi := ⟨some 26, .move (.tmp 25), 4, "l14_route.go:16", #[⟨15, .data⟩, ⟨13, .chain⟩], none⟩) (v := ?_) rfl (by kernel_rfl) (by kernel_rfl) (by kernel_rfl) (fun _ _ _ h => h) (Or.inl ⟨by rfl, ?_⟩) (by assumption) ?_
 rotate_left
 ·
  intro w' hSw; (try dsimp only at hSw); first | (go_simp; done) | (go_simp; with_reducible rfl)
 (try simp only [Act.put, Row.pB0, Row.pB1, Row.pB2])
 refine wpAnyH_take (i := 17) (oi := ⟨some 27, .move (.tmp 0), 42, "l14_route.go:16", #[⟨16, .guard⟩], some (16, false)⟩) (v := ?_) rfl (by kernel_rfl) (by kernel_rfl) (by kernel_rfl) (fun _ _ _ h => h) (Or.inl ⟨by rfl, ?_⟩) (by assumption) ?_
 rotate_left
 ·
  intro w' hSw; (try dsimp only at hSw); first | (go_simp; done) | (go_simp; with_reducible rfl)
 (try simp only [Act.put, Row.pB0, Row.pB1, Row.pB2])
 refine wpAnyH_take (i := 18) (oi := ⟨some 28, .move (.tmp 3), 3, "l14_route.go:16", #[⟨16, .guard⟩], some (16, false)⟩) (v := ?_) rfl (by kernel_rfl) (by kernel_rfl) (by kernel_rfl) (fun _ _ _ h => h) (Or.inl ⟨by rfl, ?_⟩) (by assumption) ?_
 rotate_left
 ·
  intro w' hSw; (try dsimp only at hSw); first | (go_simp; done) | (go_simp; with_reducible rfl)
 (try simp only [Act.put, Row.pB0, Row.pB1, Row.pB2])
 refine wpAnyH_take (i := 19) (oi := ⟨some 29, .indexAddr 42 (.tmp 27) (.tmp 28), 0, "l14_route.go:16", #[⟨17, .data⟩, ⟨18, .data⟩, ⟨16, .guard⟩], some (16, false)⟩) (v := ?_) rfl (by kernel_rfl) (by kernel_rfl) (by kernel_rfl) (fun _ _ _ h => h) (Or.inl ⟨by rfl, ?_⟩) (by assumption) ?_
 rotate_left
 ·
  intro w' hSw; (try dsimp only at hSw); first | (go_simp; done) | (go_simp; with_reducible rfl)
 (try simp only [Act.put, Row.pB0, Row.pB1, Row.pB2])
 refine wpAnyH_take (i := 20) (oi := ⟨some 30, .fieldAddr 53 (.tmp 29) 2, 0, "l14_route.go:16", #[⟨19, .data⟩, ⟨16, .guard⟩], some (16, false)⟩) (v := ?_) rfl (by kernel_rfl) (by kernel_rfl) (by kernel_rfl) (fun _ _ _ h => h) (Or.inl ⟨by rfl, ?_⟩) (by assumption) ?_
 rotate_left
 ·
  intro w' hSw; (try dsimp only at hSw); first | (go_simp; done) | (go_simp; with_reducible rfl)
 (try simp only [Act.put, Row.pB0, Row.pB1, Row.pB2])
 refine wpAnyH_take (i := 21) (oi := ⟨some 31, .load 3 (.tmp 30), 3, "l14_route.go:16", #[⟨20, .data⟩, ⟨16, .guard⟩], some (16, false)⟩) (v := ?_) rfl (by kernel_rfl) (by kernel_rfl) (by kernel_rfl) (fun _ _ _ h => h) (Or.inl ⟨by rfl, ?_⟩) (by assumption) ?_
 rotate_left
 ·
  intro w' hSw; (try dsimp only at hSw); first | (go_simp; done) | (go_simp; with_reducible rfl)
 (try simp only [Act.put, Row.pB0, Row.pB1, Row.pB2])
 refine wpAnyH_ready (rs := [22]) (by kernel_rfl) (by simp) ?_
 refine AllReadyH.cons (o := ⟨some 32, .call ⟨.value (.func 52), #[.tmp 31, .const (Value.int IntKind.i64 0), .const (Value.int IntKind.i64 1000)], #[3, 3, 3]⟩, 4, "l14_route.go:16", #[⟨21, .data⟩, ⟨16, .chain⟩, ⟨16, .guard⟩], some (16, false)⟩) rfl (fun K hK => ?_) AllReadyH.nil
 go_simp
 refine (sInR true HI.out).mono ?_
 rintro e wn3 ⟨rfl, hb⟩
 replace BB := Lib.hid (BB.out.trans (hb.mono BB.out.size))
 clear hb
 (try go_wp2_with fail)
 clear hHeld
 refine hK.out _ _ ?_ (fun hHeld => ?_)
 ·
  (try dsimp only); exact ⟨kc K0.out BB.out, kc K1.out BB.out, kc K2.out BB.out⟩
 clear hK K
 (try simp only [Act.put, Row.pB0, Row.pB1, Row.pB2])
 refine wpAnyH_take (i := 23) (oi := ⟨some 33, .unOp UnOp.not 4 (.tmp 32), 4, "l14_route.go:16", #[⟨22, .data⟩, ⟨16, .guard⟩], some (16, false)⟩) (v := ?_) rfl (by kernel_rfl) (by kernel_rfl) (by kernel_rfl) (fun _ _ _ h => h) (Or.inl ⟨by rfl, ?_⟩) (by assumption) ?_
 rotate_left
 ·
  intro w' hSw; (try dsimp only at hSw); first | (go_simp; done) | (go_simp; with_reducible rfl)
 (try simp only [Act.put, Row.pB0, Row.pB1, Row.pB2])
 refine wpAnyH_take (i := 24) (oi := ⟨some 34, .pick (.tmp 26) (.const (Value.bool true)) (.tmp 33), 4, "l14_route.go:16", #[⟨16, .data⟩, ⟨23, .data⟩], none⟩) (v := ?_) rfl (by kernel_rfl) (by kernel_rfl) (by kernel_rfl) (fun _ _ _ h => h) (Or.inl ⟨by rfl, ?_⟩) (by assumption) ?_
 rotate_left
 ·
  intro w' hSw; (try dsimp only at hSw); first | (go_simp; done) | (go_simp; with_reducible rfl)
 (try simp only [Act.put, Row.pB0, Row.pB1, Row.pB2])
 refine wpAnyH_take (i := 25) (oi := ⟨some 35, .move (.tmp 34), 4, "l14_route.go:16", #[⟨24, .data⟩, ⟨22, .chain⟩], none⟩) (v := ?_) rfl (by kernel_rfl) (by kernel_rfl) (by kernel_rfl) (fun _ _ _ h => h) (Or.inl ⟨by rfl, ?_⟩) (by assumption) ?_
 rotate_left
 ·
  intro w' hSw; (try dsimp only at hSw); first | (go_simp; done) | (go_simp; with_reducible rfl)
 (try simp only [Act.put, Row.pB0, Row.pB1, Row.pB2])
 refine wpAnyH_take (i := 26) (oi := ⟨some 36, .move (.tmp 0), 42, "l14_route.go:16", #[⟨25, .guard⟩], some (25, false)⟩) (v := ?_) rfl (by kernel_rfl) (by kernel_rfl) (by kernel_rfl) (fun _ _ _ h => h) (Or.inl ⟨by rfl, ?_⟩) (by assumption) ?_
 rotate_left
 ·
  intro w' hSw; (try dsimp only at hSw); first | (go_simp; done) | (go_simp; with_reducible rfl)
 (try simp only [Act.put, Row.pB0, Row.pB1, Row.pB2])
 refine wpAnyH_take (i := 27) (oi := ⟨some 37, .move (.tmp 3), 3, "l14_route.go:16", #[⟨25, .guard⟩], some (25, false)⟩) (v := ?_) rfl (by kernel_rfl) (by kernel_rfl) (by kernel_rfl) (fun _ _ _ h => h) (Or.inl ⟨by rfl, ?_⟩) (by assumption) ?_
 rotate_left
 ·
  intro w' hSw; (try dsimp only at hSw); first | (go_simp; done) | (go_simp; with_reducible rfl)
 (try simp only [Act.put, Row.pB0, Row.pB1, Row.pB2])
 refine wpAnyH_take (i := 28) (oi := ⟨some 38, .slice 42 (.tmp 36) none (some (.tmp 37)) none, 42, "l14_route.go:16", #[⟨26, .data⟩, ⟨27, .data⟩, ⟨25, .guard⟩], some (25, false)⟩) (v := ?_) rfl (by kernel_rfl) (by kernel_rfl) (by kernel_rfl) (fun _ _ _ h => h) (Or.inl ⟨by rfl, ?_⟩) (by assumption) ?_
 rotate_left
 ·
  intro w' hSw; (try dsimp only at hSw); first | (go_simp; done) | (go_simp; with_reducible rfl)
 (try simp only [Act.put, Row.pB0, Row.pB1, Row.pB2])
 refine wpAnyH_take (i := 29) (oi := ⟨some 39, .move (.tmp 0), 42, "l14_route.go:16", #[⟨25, .guard⟩], some (25, false)⟩) (v := ?_) rfl (by kernel_rfl) (by kernel_rfl) (by kernel_rfl) (fun _ _ _ h => h) (Or.inl ⟨by rfl, ?_⟩) (by assumption) ?_
 rotate_left
 ·
  intro w' hSw; (try dsimp only at hSw); first | (go_simp; done) | (go_simp; with_reducible rfl)
 (try simp only [Act.put, Row.pB0, Row.pB1, Row.pB2])
 refine wpAnyH_take (i := 30) (oi := ⟨some 40, .move (.tmp 3), 3, "l14_route.go:16", #[⟨25, .guard⟩], some (25, false)⟩) (v := ?_) rfl (by kernel_rfl) (by kernel_rfl) (by kernel_rfl) (fun _ _ _ h => h) (Or.inl ⟨by rfl, ?_⟩) (by assumption) ?_
 rotate_left
 ·
  intro w' hSw; (try dsimp only at hSw); first | (go_simp; done) | (go_simp; with_reducible rfl)
 (try simp only [Act.put, Row.pB0, Row.pB1, Row.pB2])
 refine wpAnyH_take (i := 31) (oi := ⟨some 41, .indexAddr 42 (.tmp 39) (.tmp 40), 0, "l14_route.go:16", #[⟨29, .data⟩, ⟨30, .data⟩, ⟨25, .guard⟩], some (25, false)⟩) (v := ?_) rfl (by kernel_rfl) (by kernel_rfl) (by kernel_rfl) (fun _ _ _ h => h) (Or.inl ⟨by rfl, ?_⟩) (by assumption) ?_
 rotate_left
 ·
  intro w' hSw; (try dsimp only at hSw); first | (go_simp; done) | (go_simp; with_reducible rfl)
 (try simp only [Act.put, Row.pB0, Row.pB1, Row.pB2])
 refine wpAnyH_take (i := 32) (oi := ⟨some 42, .fieldAddr 53 (.tmp 41) 0, 0, "l14_route.go:16", #[⟨31, .data⟩, ⟨25, .guard⟩], some (25, false)⟩) (v := ?_) rfl (by kernel_rfl) (by kernel_rfl) (by kernel_rfl) (fun _ _ _ h => h) (Or.inl ⟨by rfl, ?_⟩) (by assumption) ?_
 rotate_left
 ·
  intro w' hSw; (try dsimp only at hSw); first | (go_simp; done) | (go_simp; with_reducible rfl)
 (try simp only [Act.put, Row.pB0, Row.pB1, Row.pB2])
 refine wpAnyH_take (i := 33) (oi := ⟨some 43, .load 27 (.tmp 42), 27, "l14_route.go:16", #[⟨32, .data⟩, ⟨25, .guard⟩], some (25, false)⟩) (v := ?_) rfl (by kernel_rfl) (by kernel_rfl) (by kernel_rfl) (fun _ _ _ h => h) (Or.inl ⟨by rfl, ?_⟩) (by assumption) ?_
 rotate_left
 ·
  intro w' hSw; (try dsimp only at hSw); first | (go_simp; done) | (go_simp; with_reducible rfl)
 (try simp only [Act.put, Row.pB0, Row.pB1, Row.pB2])
 refine wpAnyH_take (i := 34) (oi := ⟨some 44, .move (.tmp 0), 42, "l14_route.go:16", #[⟨25, .guard⟩], some (25, false)⟩) (v := ?_) rfl (by kernel_rfl) (by kernel_rfl) (by kernel_rfl) (fun _ _ _ h => h) (Or.inl ⟨by rfl, ?_⟩) (by assumption) ?_
 rotate_left
 ·
  intro w' hSw; (try dsimp only at hSw); first | (go_simp; done) | (go_simp; with_reducible rfl)
 (try simp only [Act.put, Row.pB0, Row.pB1, Row.pB2])
 refine wpAnyH_take (i := 35) (oi := ⟨some 45, .move (.tmp 3), 3, "l14_route.go:16", #[⟨25, .guard⟩], some (25, false)⟩) (v := ?_) rfl (by kernel_rfl) (by kernel_rfl) (by kernel_rfl) (fun _ _ _ h => h) (Or.inl ⟨by rfl, ?_⟩) (by assumption) ?_
 rotate_left
 ·
  intro w' hSw; (try dsimp only at hSw); first | (go_simp; done) | (go_simp; with_reducible rfl)
 (try simp only [Act.put, Row.pB0, Row.pB1, Row.pB2])
 refine wpAnyH_take (i := 36) (oi := ⟨some 46, .indexAddr 42 (.tmp 44) (.tmp 45), 0, "l14_route.go:16", #[⟨34, .data⟩, ⟨35, .data⟩, ⟨25, .guard⟩], some (25, false)⟩) (v := ?_) rfl (by kernel_rfl) (by kernel_rfl) (by kernel_rfl) (fun _ _ _ h => h) (Or.inl ⟨by rfl, ?_⟩) (by assumption) ?_
 rotate_left
 ·
  intro w' hSw; (try dsimp only at hSw); first | (go_simp; done) | (go_simp; with_reducible rfl)
 (try simp only [Act.put, Row.pB0, Row.pB1, Row.pB2])
 refine wpAnyH_take (i := 37) (oi := ⟨some 47, .fieldAddr 53 (.tmp 46) 1, 0, "l14_route.go:16", #[⟨36, .data⟩, ⟨25, .guard⟩], some (25, false)⟩) (v := ?_) rfl (by kernel_rfl) (by kernel_rfl) (by kernel_rfl) (fun _ _ _ h => h) (Or.inl ⟨by rfl, ?_⟩) (by assumption) ?_
 rotate_left
 ·
  intro w' hSw; (try dsimp only at hSw); first | (go_simp; done) | (go_simp; with_reducible rfl)
 (try simp only [Act.put, Row.pB0, Row.pB1, Row.pB2])
 refine wpAnyH_take (i := 38) (oi := ⟨some 48, .load 3 (.tmp 47), 3, "l14_route.go:16", #[⟨37, .data⟩, ⟨25, .guard⟩], some (25, false)⟩) (v := ?_) rfl (by kernel_rfl) (by kernel_rfl) (by kernel_rfl) (fun _ _ _ h => h) (Or.inl ⟨by rfl, ?_⟩) (by assumption) ?_
 rotate_left
 ·
  intro w' hSw; (try dsimp only at hSw); first | (go_simp; done) | (go_simp; with_reducible rfl)
 (try simp only [Act.put, Row.pB0, Row.pB1, Row.pB2])
 refine wpAnyH_ready (rs := [39]) (by kernel_rfl) (by simp) ?_
 refine AllReadyH.cons (o := ⟨some 49, .call ⟨.value (.func 53), #[.tmp 38, .tmp 43, .tmp 48], #[42, 27, 3]⟩, 3, "l14_route.go:16", #[⟨28, .data⟩, ⟨33, .data⟩, ⟨38, .data⟩, ⟨25, .chain⟩, ⟨25, .guard⟩], some (25, false)⟩) rfl (fun K hK => ?_) AllReadyH.nil
 go_simp
 refine (sFindRt _ _ (l.take k) m rf _ r HR.out (H_l.out.on BB.out) (H_m.out.on BB.out) HLL.out HLP.out HMB.out).mono ?_
 rintro e wn4 ⟨rfl, hb⟩
 replace BB := Lib.hid (BB.out.trans (hb.mono BB.out.size))
 clear hb
 (try go_wp2_with fail)
 clear hHeld
 refine hK.out _ _ ?_ (fun hHeld => ?_)
 ·
  (try dsimp only); exact ⟨kc K0.out BB.out, kc K1.out BB.out, kc K2.out BB.out⟩
 clear hK K
 (try simp only [Act.put, Row.pB0, Row.pB1, Row.pB2])
 refine wpAnyH_take (i := 40) (oi := ⟨some 50, .binOp BinOp.geq 3 (.tmp 49) (.const (Value.int IntKind.i64 0)) 3, 4, "l14_route.go:16", #[⟨39, .data⟩, ⟨25, .guard⟩], some (25, false)⟩) (v := ?_) rfl (by kernel_rfl) (by kernel_rfl) (by kernel_rfl) (fun _ _ _ h => h) (Or.inl ⟨by rfl, ?_⟩) (by assumption) ?_
 rotate_left
 ·
  intro w' hSw; (try dsimp only at hSw); first | (go_simp; done) | (go_simp; with_reducible rfl)
 (try simp only [Act.put, Row.pB0, Row.pB1, Row.pB2])
 refine wpAnyH_take (i := 41) (oi := ⟨some 51, .pick (.tmp 35) (.const (Value.bool true)) (.tmp 50), 4, "l14_route.go:16", #[⟨25, .data⟩, ⟨40, .data⟩], none⟩) (v := ?_) rfl (by kernel_rfl) (by kernel_rfl) (by kernel_rfl) (fun _ _ _ h => h) (Or.inl ⟨by rfl, ?_⟩) (by assumption) ?_
 rotate_left
 ·
  intro w' hSw; (try dsimp only at hSw); first | (go_simp; done) | (go_simp; with_reducible rfl)
 (try simp only [Act.put, Row.pB0, Row.pB1, Row.pB2])
 refine wpAnyH_done (by kernel_rfl) ?_ _
 exact NoPanic.normal (HQ.out _ _ _ _ _ _ _ _ _ _ _ _ _ _ _ _ _ _ _ _ _ _ _ _ _ _ _ _ _ _ _ _ _ _ _ _ _ _ _ _ _  _  BB.out)
end Go.Proofs.Ytdaahcaafdleaaa.Row
