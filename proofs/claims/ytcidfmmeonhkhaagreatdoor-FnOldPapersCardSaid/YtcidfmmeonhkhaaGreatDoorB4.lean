/- Contracts and mathematics, joined: Part, Valid, AppP, DrawName, DrawAny, NameMath, Split, ParseN, DrawH. No conditions but those that each states. -/
import Derived.Test.YtcidfmmeonhkhaaGreatDoorB1
import Derived.Test.YtcidfmmeonhkhaaGreatDoorB3
import Derived.Laws.RangeAny
import Derived.Deep.RegionLaw
import Derived.Lib.Join
import Derived.Lib.OthersKept
import Derived.Test.YtcidfmmeonhkhaaGreatDoorB2
/- Contracts of ValidPart and ValidName, the program's and the reference model's: a part is right where its size is 1 to 8 and each byte is a small letter, a digit or a minus; a name where each part is and there are at most 6. No conditions but that lengths fit. -/
namespace Go.Proofs.YtcidfmmeonhkhaaGreatDoor.Row
open Go.ChangeShapes Go.WideShapes Go.ChangeAt Go.RowKit Go.Instr
set_option linter.unusedVariables false
set_option maxRecDepth 100000

def okR (r : Int) : Prop := (97 ≤ r ∧ r ≤ 122) ∨ (48 ≤ r ∧ r ≤ 57) ∨ r = 45
instance (r : Int) : Decidable (okR r) := by unfold okR; infer_instance
def okTo (s : ByteArray) (k : Nat) : Prop := ∀ j (h : j < s.size), j < k → okR ((s[j]'h).toNat : Int)
instance (s : ByteArray) (k : Nat) : Decidable (okTo s k) := by unfold okTo; infer_instance
def validP (s : ByteArray) : Bool := decide (1 ≤ s.size ∧ s.size ≤ 8 ∧ okTo s s.size)
theorem okTo_zero (s : ByteArray) : okTo s 0 := fun j h h2 => absurd h2 (by omega)
theorem okTo_succ {s : ByteArray} {k : Nat} (h : okTo s k) (hk : k < s.size) (hc : okR ((s[k]'hk).toNat : Int)) : okTo s (k + 1) := fun j h1 h2 => by
  by_cases e : j = k
  · subst e; exact hc
  · exact h j h1 (by omega)
theorem validP_true {s : ByteArray} (h1 : 1 ≤ s.size) (h2 : s.size ≤ 8) (h : okTo s s.size) : validP s = true := by simp [validP, h1, h2, h]
theorem validP_size {s : ByteArray} (h : ¬ (1 ≤ s.size ∧ s.size ≤ 8)) : validP s = false := by
  unfold validP; exact decide_eq_false (fun e => h ⟨e.1, e.2.1⟩)
theorem validP_byte {s : ByteArray} {k : Nat} (hk : k < s.size) (hc : ¬ okR ((s[k]'hk).toNat : Int)) : validP s = false := by
  unfold validP; exact decide_eq_false (fun e => hc (e.2.2 k hk hk))
theorem validP_iff {s : ByteArray} : validP s = true ↔ 1 ≤ s.size ∧ s.size ≤ 8 ∧ okTo s s.size := by unfold validP; exact decide_eq_true_iff

theorem rune_ok {s : ByteArray} {pos : Nat} (h : pos < s.size) (hr : okR ((Utf8.decode s pos).1 : Int)) : okR ((s[pos]'h).toNat : Int) ∧ (Utf8.decode s pos).2 = 1 := by
  by_cases ha : (s[pos]'h).toNat < 128
  · rw [decode_ascii s pos h ha] at hr ⊢
    exact ⟨hr, rfl⟩
  · have := (decode_high s pos h (by omega)).1
    unfold okR at hr; omega
theorem rune_not {s : ByteArray} {pos : Nat} (h : pos < s.size) (hr : ¬ okR ((Utf8.decode s pos).1 : Int)) : ¬ okR ((s[pos]'h).toNat : Int) := by
  by_cases ha : (s[pos]'h).toNat < 128
  · rwa [decode_ascii s pos h ha] at hr
  · unfold okR; omega

set_option maxHeartbeats 1000000 in
theorem isPartRune (r : Int) (w : World) : Calls Tryz.prog 212 #[.int .i32 r] w fun e w' => e = .returned (.bool (decide (okR r))) ∧ w = w' := by
  have HT := fun (h : okR r) => (decide_eq_true h).symm
  have HF := fun (h : ¬ okR r) => (decide_eq_false h).symm
  have HT := Lib.hid HT; have HF := Lib.hid HF
  by_cases h1 : 97 ≤ r ∧ r ≤ 122
  · obtain ⟨h1a, h1b⟩ := h1
    go_enter Tryz.func212, Tryz.ntmps212
    go_wp2
    go_ret
    exact ⟨ret_bool (HT.out (by unfold okR; omega)), rfl⟩
  · by_cases h2 : 48 ≤ r ∧ r ≤ 57
    · obtain ⟨h2a, h2b⟩ := h2
      have h1a : ¬ 97 ≤ r := by omega
      go_enter Tryz.func212, Tryz.ntmps212
      go_wp2
      go_ret
      exact ⟨ret_bool (HT.out (by unfold okR; omega)), rfl⟩
    · by_cases h3 : r = 45
      · subst h3
        go_enter Tryz.func212, Tryz.ntmps212
        go_wp2
        go_ret
        exact ⟨ret_bool (HT.out (by unfold okR; omega)), rfl⟩
      · have HF2 := Lib.hid (HF.out (by unfold okR; omega))
        have h3b : (r == 45) = false := by simpa using h3
        clear h3 HF HT
        by_cases h1a : 97 ≤ r
        · have h1b : ¬ r ≤ 122 := by omega
          have h2b : ¬ r ≤ 57 := by omega
          clear h1 h2
          go_enter Tryz.func212, Tryz.ntmps212
          go_wp2
          go_ret
          exact ⟨ret_bool HF2.out, rfl⟩
        · clear h1
          by_cases h2a : 48 ≤ r
          · have h2b : ¬ r ≤ 57 := by omega
            clear h2
            go_enter Tryz.func212, Tryz.ntmps212
            go_wp2
            go_ret
            exact ⟨ret_bool HF2.out, rfl⟩
          · clear h2
            go_enter Tryz.func212, Tryz.ntmps212
            go_wp2
            go_ret
            exact ⟨ret_bool HF2.out, rfl⟩

set_option maxHeartbeats 1000000 in
theorem implValidPart (s : ByteArray) (w : World) (hl : s.size ≤ 140737488351232) :
    Calls Tryz.prog 189 #[.string s] w fun e w' => e = .returned (.bool (validP s)) ∧ Below w.heap.size w w' := by
  go_enter Tryz.func189, Tryz.ntmps189
  go_wp2
  go_loopw [] (fun w' => ∃ pos : Nat, pos ≤ s.size ∧ w' = w.iter s pos ∧ Hid (okTo s pos)) (fun w' => s.size - w'.iterPos w.heap.size)
  case atStart => exact ⟨0, by omega, rfl, Lib.hid (okTo_zero s)⟩
  case round =>
    obtain ⟨pos, hpl, rfl, ho⟩ := hrel
    by_cases hp : pos < s.size
    · have hnx : ∀ ty, (Instr.next (.pointer (some ⟨w.heap.size, 0, none⟩)) true ty).run Tryz.prog (w.iter s pos) = _ := fun ty => run_next_any w s pos ty hp
      by_cases hr : okR ((Utf8.decode s pos).1 : Int)
      · obtain ⟨h1, h2⟩ := rune_ok hp hr
        have HO := Lib.hid (okTo_succ ho.out hp h1)
        have HR := Lib.hid (decide_eq_true hr)
        rw [h2] at hnx
        clear hr h1 h2
        go_wp2_with fail
        refine (isPartRune _ _).mono ?_
        rintro e w2 ⟨rfl, rfl⟩
        rw [HR.out]
        go_wp2
        go_roundw
        case rel => exact ⟨pos + 1, by omega, rfl, HO⟩
        case measure => simp; omega
      · have HV := Lib.hid (validP_byte hp (rune_not hp hr))
        have HR := Lib.hid (decide_eq_false hr)
        clear hr
        go_wp2_with fail
        refine (isPartRune _ _).mono ?_
        rintro e w2 ⟨rfl, rfl⟩
        rw [HR.out]
        go_wp2
        go_ret
        exact ⟨ret_bool HV.out.symm, (Below.refl _ _).alloc (Nat.le_refl _) _⟩
    · obtain rfl : pos = s.size := by omega
      have hnx : ∀ ty, (Instr.next (.pointer (some ⟨w.heap.size, 0, none⟩)) true ty).run Tryz.prog (w.iter s s.size) = _ := fun ty => run_next_end w s s.size ty hp
      go_wp2_with fail
      refine (Num.implInRange _ _ _ _).mono ?_
      rintro e w2 ⟨rfl, rfl⟩
      go_wp2
      go_ret
      refine ⟨ret_bool ?_, (Below.refl _ _).alloc (Nat.le_refl _) _⟩
      have := ho.out
      simp only [Num.inB, validP, this, and_true]
      congr 1
      apply propext
      omega

set_option maxHeartbeats 1000000 in
theorem specValidPart (s : ByteArray) (w : World) (hl : s.size ≤ 140737488351232) :
    Calls Tryz.prog 190 #[.string s] w fun e w' => e = .returned (.bool (validP s)) ∧ w = w' := by
  by_cases hsz : 1 ≤ s.size ∧ s.size ≤ 8
  · obtain ⟨hs1, hs8⟩ := hsz
    go_enter Tryz.func190, Tryz.ntmps190
    go_wp2_with fail
    refine (Num.specIn_true (by omega) (by omega) _).mono ?_
    rintro e w2 ⟨rfl, rfl⟩
    go_wp2
    go_loop [3] (fun iv => ∃ k : Nat, k ≤ s.size ∧ iv = .int .i64 k ∧ Hid (okTo s k)) (fun iv => s.size - (intOf iv).toNat)
    case atStart => exact ⟨0, by omega, rfl, Lib.hid (okTo_zero s)⟩
    case round =>
      obtain ⟨k, hk, rfl, ho⟩ := hrel
      by_cases hlt : k < s.size
      · have hb := (s[k]'hlt).toNat_lt
        have hb0 : (0 : Int) ≤ ((s[k]'hlt).toNat : Int) := by omega
        have hb1 : ((s[k]'hlt).toNat : Int) ≤ 255 := by omega
        have HOK := Lib.hid (fun hc => okTo_succ ho.out hlt hc)
        have HNO := Lib.hid (fun hc => validP_byte hlt hc)
        clear hb
        go_wp2_with fail
        by_cases h1 : 97 ≤ ((s[k]'hlt).toNat : Int) ∧ ((s[k]'hlt).toNat : Int) ≤ 122
        · refine (Num.specIn_true h1.1 h1.2 _).mono ?_
          rintro e w2 ⟨rfl, rfl⟩
          have HO2 := Lib.hid (HOK.out (by unfold okR; omega))
          clear HOK HNO h1
          go_wp2
          go_round
          case rel => exact ⟨k + 1, by omega, by go_num, HO2⟩
          case measure => simp [intOf]; omega
        · refine (Num.specIn_false h1 _).mono ?_
          rintro e w2 ⟨rfl, rfl⟩
          go_wp2_with fail
          by_cases h2 : 48 ≤ ((s[k]'hlt).toNat : Int) ∧ ((s[k]'hlt).toNat : Int) ≤ 57
          · refine (Num.specIn_true h2.1 h2.2 _).mono ?_
            rintro e w2 ⟨rfl, rfl⟩
            have HO2 := Lib.hid (HOK.out (by unfold okR; omega))
            clear HOK HNO h1 h2
            go_wp2
            go_round
            case rel => exact ⟨k + 1, by omega, by go_num, HO2⟩
            case measure => simp [intOf]; omega
          · refine (Num.specIn_false h2 _).mono ?_
            rintro e w2 ⟨rfl, rfl⟩
            by_cases h3 : (s[k]'hlt).toNat = 45
            · have h3b : (((s[k]'hlt).toNat : Int) != 45) = false := by simp [h3]
              have HO2 := Lib.hid (HOK.out (by unfold okR; omega))
              clear HOK HNO h1 h2
              go_wp2
              go_round
              case rel => exact ⟨k + 1, by omega, by go_num, HO2⟩
              case measure => simp [intOf]; omega
            · have h3b : (((s[k]'hlt).toNat : Int) != 45) = true := by simp; omega
              have HV := Lib.hid (HNO.out (by unfold okR; omega))
              clear HOK HNO h1 h2 h3
              go_wp2
              go_ret
              exact ⟨ret_bool HV.out.symm, rfl⟩
      · obtain rfl : k = s.size := by omega
        have HV := Lib.hid (validP_true hs1 hs8 ho.out)
        go_wp2
        go_ret
        exact ⟨ret_bool HV.out.symm, rfl⟩
  · have HV := Lib.hid (validP_size hsz)
    go_enter Tryz.func190, Tryz.ntmps190
    go_wp2_with fail
    refine (Num.specIn_false (by omega) _).mono ?_
    rintro e w2 ⟨rfl, rfl⟩
    go_wp2
    go_ret
    exact ⟨ret_bool HV.out.symm, rfl⟩

end Go.Proofs.YtcidfmmeonhkhaaGreatDoor.Row
/- Contracts of ValidName, the program's and the reference model's: a name is right where each part is and there are at most 6. No conditions but that lengths fit. -/
namespace Go.Proofs.YtcidfmmeonhkhaaGreatDoor.Row
open Go.ChangeShapes Go.WideShapes Go.ChangeAt Go.RowKit Go.Instr
set_option linter.unusedVariables false
set_option maxRecDepth 100000

def validN (l : List ByteArray) : Bool := decide (l.length ≤ 6 ∧ ∀ x ∈ l, validP x = true)
def allV (l : List ByteArray) (k : Nat) : Prop := ∀ j, j < k → validP (nth l j) = true
theorem allV_zero (l : List ByteArray) : allV l 0 := fun j h => absurd h (by omega)
theorem allV_succ {l : List ByteArray} {k : Nat} (h : allV l k) (hc : validP (nth l k) = true) : allV l (k + 1) := fun j h1 => by
  by_cases e : j = k
  · subst e; exact hc
  · exact h j (by omega)
theorem validN_not {l : List ByteArray} {k : Nat} (hk : k < l.length) (hc : validP (nth l k) = false) : validN l = false := by
  unfold validN
  refine decide_eq_false (fun e => ?_)
  have := e.2 (nth l k) (by rw [nth_eq hk]; exact List.getElem_mem _)
  rw [hc] at this; cases this
theorem validN_all {l : List ByteArray} (h : allV l l.length) : validN l = decide (l.length ≤ 6) := by
  have : ∀ x ∈ l, validP x = true := by
    intro x hx
    obtain ⟨j, hj, rfl⟩ := List.getElem_of_mem hx
    have := h j hj
    rwa [nth_eq hj] at this
  unfold validN
  congr 1
  exact propext ⟨fun e => e.1, fun e => ⟨e, this⟩⟩
theorem validN_iff {l : List ByteArray} : validN l = true ↔ l.length ≤ 6 ∧ ∀ x ∈ l, validP x = true := by unfold validN; exact decide_eq_true_iff
theorem size_nth {l : List ByteArray} {m : Nat} (h : bulk l ≤ m) {k : Nat} (hk : k < l.length) : (nth l k).size ≤ m := by
  have h1 := bulkTo_succ l hk
  have h2 := bulkTo_le l (k + 1)
  omega

set_option maxHeartbeats 1000000 in
theorem implValidName (v : Value) (l : List ByteArray) (w : World) (h : Holds Value.string w v l) (hl : bulk l ≤ 100000000) :
    Calls Tryz.prog 133 #[.agg #[v]] w fun e w' => e = .returned (.bool (validN l)) ∧ Below w.heap.size w w' := by
  obtain ⟨x, cap, rfl, hcap, hh⟩ := h.shape
  have hll := bigLen hl
  have HS := Lib.hid (fun k (hk : k < l.length) => size_nth hl hk)
  obtain ⟨n, hn⟩ : ∃ n, n = l.length := ⟨_, rfl⟩
  rw [← hn] at hcap hh hll ⊢
  have HN := Lib.hid hn
  have HH := Lib.hid hh
  have HB0 := Lib.hid ((Below.refl w.heap.size w).alloc (Nat.le_refl _) (.cells #[.slice x n cap] 32))
  have HC0 := Lib.hid (Ret.cell_at (w := w) (u := .slice x n cap) (t := 32) (n := w.heap.size) rfl)
  clear hn h hh hl
  go_enter Tryz.func133, Tryz.ntmps133
  go_wp2_with fail
  go_loopw [8] (fun i wr => ∃ k : Nat, k ≤ n ∧ i = .int .i64 k ∧ Hid (allV l k) ∧ Hid (Below w.heap.size w wr) ∧ Hid (wr.cell? ⟨w.heap.size, 0, none⟩ = some (.slice x n cap))) (fun i _ => n - (intOf i).toNat)
  case atStart => exact ⟨0, Nat.zero_le _, rfl, Lib.hid (allV_zero _), HB0, HC0⟩
  case round =>
    obtain ⟨k, hk, rfl, ha, hb, hc0⟩ := hrel
    by_cases hlt : k < n
    · have hlen := HN.out
      obtain ⟨b, off, rfl, hc⟩ := (HH.out.on hb.out).at (j := k) (by omega)
      have hsz := HS.out k (by omega)
      clear hlen
      go_wp2_with fail
      refine (implValidPart _ _ (by omega)).mono ?_
      rintro e w2 ⟨rfl, hb2⟩
      have HB2 := Lib.hid (hb.out.trans (hb2.mono hb.out.size))
      have HC2 := Lib.hid ((hb2.cell (cell_lt hc0.out)).trans hc0.out)
      clear hb2 hc
      by_cases hv : validP (nth l k) = true
      · rw [hv]
        have HA2 := Lib.hid (allV_succ ha.out hv)
        clear hv
        go_wp2
        go_roundw
        case rel => exact ⟨k + 1, by omega, by go_num, HA2, HB2, HC2⟩
        case measure => simp [intOf]; omega
      · have hv2 : validP (nth l k) = false := by simpa using hv
        rw [hv2]
        have HV := Lib.hid (validN_not (by have := HN.out; omega) hv2)
        clear hv hv2
        go_wp2
        go_ret
        exact ⟨ret_bool HV.out.symm, HB2.out⟩
    · obtain rfl : k = n := by omega
      have HV := Lib.hid (validN_all (HN.out ▸ ha.out))
      have hc0 := hc0.out
      clear hlt
      go_wp2
      go_ret
      refine ⟨ret_bool ?_, hb.out⟩
      rw [HV.out, ← HN.out]
      simp
      omega

set_option maxHeartbeats 1000000 in
theorem specValidName (v : Value) (l : List ByteArray) (w : World) (h : Holds Value.string w v l) (hl : bulk l ≤ 100000000) :
    Calls Tryz.prog 135 #[.agg #[v]] w fun e w' => e = .returned (.bool (validN l)) ∧ Below w.heap.size w w' := by
  obtain ⟨x, cap, rfl, hcap, hh⟩ := h.shape
  have hll := bigLen hl
  have HS := Lib.hid (fun k (hk : k < l.length) => size_nth hl hk)
  obtain ⟨n, hn⟩ : ∃ n, n = l.length := ⟨_, rfl⟩
  rw [← hn] at hcap hh hll ⊢
  have HN := Lib.hid hn
  have HH := Lib.hid hh
  have HB0 := Lib.hid ((Below.refl w.heap.size w).alloc (Nat.le_refl _) (.cells #[.slice x n cap] 32))
  have HC0 := Lib.hid (Ret.cell_at (w := w) (u := .slice x n cap) (t := 32) (n := w.heap.size) rfl)
  clear hn h hh hl
  go_enter Tryz.func135, Tryz.ntmps135
  go_wp2_with fail
  go_loopw [3] (fun i wr => ∃ k : Nat, k ≤ n ∧ i = .int .i64 k ∧ Hid (allV l k) ∧ Hid (Below w.heap.size w wr) ∧ Hid (wr.cell? ⟨w.heap.size, 0, none⟩ = some (.slice x n cap))) (fun i _ => n - (intOf i).toNat)
  case atStart => exact ⟨0, Nat.zero_le _, rfl, Lib.hid (allV_zero _), HB0, HC0⟩
  case round =>
    obtain ⟨k, hk, rfl, ha, hb, hc0⟩ := hrel
    by_cases hlt : k < n
    · have hlen := HN.out
      obtain ⟨b, off, rfl, hc⟩ := (HH.out.on hb.out).at (j := k) (by omega)
      have hsz := HS.out k (by omega)
      have hc1 := hc0.out
      clear hlen
      go_wp2_with fail
      refine (specValidPart _ _ (by omega)).mono ?_
      rintro e w2 ⟨rfl, rfl⟩
      clear hc
      by_cases hv : validP (nth l k) = true
      · rw [hv]
        have HA2 := Lib.hid (allV_succ ha.out hv)
        clear hv
        go_wp2
        go_roundw
        case rel => exact ⟨k + 1, by omega, by go_num, HA2, hb, hc0⟩
        case measure => simp [intOf]; omega
      · have hv2 : validP (nth l k) = false := by simpa using hv
        rw [hv2]
        have HV := Lib.hid (validN_not (by have := HN.out; omega) hv2)
        clear hv hv2
        go_wp2
        go_ret
        exact ⟨ret_bool HV.out.symm, hb.out⟩
    · obtain rfl : k = n := by omega
      have HV := Lib.hid (validN_all (HN.out ▸ ha.out))
      have hc0 := hc0.out
      clear hlt
      go_wp2
      go_ret
      refine ⟨ret_bool ?_, hb.out⟩
      rw [HV.out, ← HN.out]
      simp
      omega

end Go.Proofs.YtcidfmmeonhkhaaGreatDoor.Row
/- Contracts of AppendPart, the program's and the reference model's. No conditions but that lengths fit. -/
namespace Go.Proofs.YtcidfmmeonhkhaaGreatDoor.Row
open Go.ChangeShapes Go.WideShapes Go.ChangeAt Go.RowKit Go.Instr
set_option linter.unusedVariables false
set_option maxRecDepth 100000

theorem bulk_append (l m : List ByteArray) : bulk (l ++ m) = bulk l + bulk m := by
  unfold bulk bulkTo
  rw [List.take_length, List.take_length, List.take_length, List.map_append, List.sum_append, List.length_append]
  omega
theorem bulk_one (s : ByteArray) : bulk [s] = 1 + s.size := by simp [bulk, bulkTo]
theorem bulk_cons (x : ByteArray) (l : List ByteArray) : bulk (x :: l) = 1 + x.size + bulk l := by
  have := bulk_append [x] l
  rw [bulk_one] at this
  exact this
theorem bulk_nil : bulk [] = 0 := by simp [bulk, bulkTo]
theorem bulk_valid {l : List ByteArray} (h : validN l = true) : bulk l ≤ 60 := by
  obtain ⟨h1, h2⟩ := validN_iff.1 h
  have key : ∀ l : List ByteArray, (∀ x ∈ l, validP x = true) → bulk l ≤ 9 * l.length := by
    intro l
    induction l with
    | nil => intro _; rw [bulk_nil]; simp
    | cons x r ih =>
      intro hx
      have h3 := ih (fun y hy => hx y (by simp [hy]))
      have h4 := (validP_iff.1 (hx x (by simp))).2.1
      rw [bulk_cons, List.length_cons]; omega
  have := key l h2
  omega
def appN (l : List ByteArray) (s : ByteArray) : List ByteArray := if validN (l ++ [s]) = true then l ++ [s] else l
theorem appN_yes {l : List ByteArray} {s : ByteArray} (h : validN (l ++ [s]) = true) : appN l s = l ++ [s] := if_pos h
theorem appN_no {l : List ByteArray} {s : ByteArray} (h : validN (l ++ [s]) = false) : appN l s = l := if_neg (by simp [h])

theorem ret_nb {v : Value} {a b : Bool} (h : a = b) : Ending.returned (.tuple #[v, .bool a]) = .returned (.tuple #[v, .bool b]) := by rw [h]
def vs2 (a b : Value) (j : Nat) : Value := if j = 0 then a else b
def ls2 (a b : List ByteArray) (j : Nat) : List ByteArray := if j = 0 then a else b
set_option maxHeartbeats 1000000 in
theorem l4Copy (v : Value) (l : List ByteArray) (w : World) (h : Holds Value.string w v l) (hl : l.length ≤ 10000000) :
    Calls Tryz.prog 53 #[.agg #[v]] w (GivesN w l) := by
  obtain ⟨x, n, cap, rfl, hn, hcap, hh⟩ := h.shapeN
  rw [← hn] at hl
  have HB0 := Lib.hid ((((Below.refl w.heap.size w).alloc (Nat.le_refl _) (.cells #[.slice x n cap] 32)).alloc (by simp) (.cells #[.slice none 0 0] 32)).alloc (by simp; omega) (.cells #[] 9))
  have HN := Lib.hid hn
  have HT2 := Lib.hid (hh.on HB0.out)
  have HO := Lib.hid (own_empty Value.string 9 ((w.alloc (.cells #[.slice x n cap] 32)).alloc (.cells #[.slice none 0 0] 32)))
  simp only [World.size_alloc] at HO
  have HR := Lib.hid ((Ret.NC.new' (.slice none 0 0) 32 (w := w.alloc (.cells #[.slice x n cap] 32)) (n := w.heap.size + 1) (by simp)).alloc (.cells #[] 9))
  clear hh h hn
  go_enter Tryz.func53, Tryz.ntmps53
  go_wp2_with (at_builtin; refine wpList_app (enc := Value.string) (B := w.heap.size + 1 + 1) (l := []) (m := l) rfl _ _ rfl Tryz.underlying30 elemSTR rfl rfl rfl HO.out HT2.out oneStr (by rw [← HN.out]; simp; omega) (by rw [← HN.out]; unfold maxLen; simp; omega) (by simp) ?_)
  intro v3 w3 ho3 hg3
  obtain ⟨x3, n3, c3, rfl, hn3, hc3, ho3⟩ := ho3.shapeN
  clear hn3
  have HB4 := Lib.hid (HB0.out.grown hg3 (by simp; omega) (fun g hh => by have := (HO.out.lt g hh).1; omega))
  obtain ⟨hk2, hf2⟩ := HR.out.grown hg3 (by simp [Value.ownBlock])
  obtain ⟨q1, q2, q3⟩ := endN (w := w) (g := w.heap.size + 1) (by omega) (by omega) ho3 hk2 HB4.out
  have HQ1 := Lib.hid q1; have HQ2 := Lib.hid q2; have HQ3 := Lib.hid q3
  clear q1 q2 q3 ho3 hg3
  go_wp2
  refine bodyPost_ret (Ret.results_c rfl _ _ (w.heap.size + 1) [_] rfl aggN (Ret.one HQ1.out)) rfl ?_
  exact ⟨_, rfl, HQ2.out, HQ3.out⟩

set_option maxHeartbeats 2000000 in
theorem specAppendPart (v : Value) (l : List ByteArray) (s : ByteArray) (w : World) (h : Holds Value.string w v l) (hl : bulk l ≤ 10000000) (hs : s.size ≤ 10000000) :
    Calls Tryz.prog 159 #[.agg #[v], .string s] w (GivesNB w (appN l s) (validN (l ++ [s]))) := by
  obtain ⟨x, n, cap, rfl, hn, hcap, hh⟩ := h.shapeN
  have hll := bigLen hl
  have HBK := Lib.hid (show bulk (l ++ [s]) ≤ 100000000 by rw [bulk_append, bulk_one]; omega)
  rw [← hn] at hll
  have HB0 := Lib.hid ((((Below.refl w.heap.size w).alloc (Nat.le_refl _) (.cells #[.slice x n cap] 32)).alloc (by simp) (.cells #[.slice none 0 0] 32)).alloc (by simp; omega) (.cells #[] 9))
  have HN := Lib.hid hn
  have HT2 := Lib.hid (hh.on HB0.out)
  have HO := Lib.hid (own_empty Value.string 9 ((w.alloc (.cells #[.slice x n cap] 32)).alloc (.cells #[.slice none 0 0] 32)))
  simp only [World.size_alloc] at HO
  have HX := Lib.hid (((Ret.NC.new' (w := w) (.slice x n cap) 32 rfl).alloc (.cells #[.slice none 0 0] 32)).alloc (.cells #[] 9))
  have HR := Lib.hid ((Ret.NC.new' (.slice none 0 0) 32 (w := w.alloc (.cells #[.slice x n cap] 32)) (n := w.heap.size + 1) (by simp)).alloc (.cells #[] 9))
  have HH := Lib.hid hh
  clear hh h hn hl
  go_enter Tryz.func159, Tryz.ntmps159
  go_wp2_with (at_builtin; refine wpList_app (enc := Value.string) (B := w.heap.size + 1 + 1) (l := []) (m := l) rfl _ _ rfl Tryz.underlying30 elemSTR rfl rfl rfl HO.out HT2.out oneStr (by rw [← HN.out]; simp; omega) (by rw [← HN.out]; unfold maxLen; simp; omega) (by simp) ?_)
  intro v3 w3 ho3 hg3
  obtain ⟨x3, n3, c3, rfl, hn3, hc3, ho3⟩ := ho3.shapeN
  have HN3 := Lib.hid hn3
  have HB3 := Lib.hid (HB0.out.grown hg3 (by simp; omega) (fun g hh => by have := (HO.out.lt g hh).1; omega))
  have HR3 := Lib.hid (HR.out.grown hg3 (by simp [Value.ownBlock]))
  have HX3 := Lib.hid (HX.out.grown hg3 (by simp [Value.ownBlock]; omega))
  have hz3 := hg3.size
  simp only [World.size_alloc] at hz3
  have HO3 := Lib.hid (ho3.on ((Below.refl _ _).alloc (Nat.le_refl _) (.cells #[.string s] 9)))
  clear hn3 ho3 hg3
  go_wp2_with (at_builtin; refine wpList_app (enc := Value.string) (B := w.heap.size + 1 + 1) (l := l) (m := [s]) rfl _ _ rfl Tryz.underlying30 elemSTR rfl rfl rfl HO3.out (holds_one Value.string 9 w3 s) oneStr (by rw [← HN.out]; simp; omega) (by rw [← HN.out]; unfold maxLen; simp; omega) (by simp; omega) ?_)
  intro v4 w4 ho4 hg4
  obtain ⟨x4, n4, c4, rfl, hn4, hc4, ho4⟩ := ho4.shapeN
  clear hn4
  have HB4 := Lib.hid ((HB3.out.alloc (by omega) (.cells #[.string s] 9)).grown hg4 (by simp; omega) (fun g hh => by have := (HO3.out.lt g hh).1; omega))
  have hne : ∀ g, g ≤ w.heap.size + 1 → some g ≠ (Value.slice x3 n3 c3).ownBlock := fun g hg e => by have := (HO3.out.lt g e.symm).1; omega
  have HR4 := Lib.hid ((HR3.out.alloc (.cells #[.string s] 9)).grown hg4 (hne _ (by omega)))
  have HX4 := Lib.hid ((HX3.out.alloc (.cells #[.string s] 9)).grown hg4 (hne _ (by omega)))
  have hz4 := hg4.size
  simp only [World.size_alloc] at hz4
  have HO4 := Lib.hid (ho4.on ((Below.refl _ _).alloc (Nat.le_refl _) (.cells #[.slice x4 n4 c4] 32)))
  clear ho4 hg4 hne
  go_wp2_with fail
  refine (specValidName _ _ _ HO4.out.holds HBK.out).mono ?_
  rintro e w5 ⟨rfl, hb5⟩
  have HT5 := Lib.hid ((Ret.NC.new' (w := w4) (.slice x4 n4 c4) 32 rfl).on hb5)
  have HR5 := Lib.hid ((HR4.out.alloc (.cells #[.slice x4 n4 c4] 32)).on hb5)
  have HX5 := Lib.hid ((HX4.out.alloc (.cells #[.slice x4 n4 c4] 32)).on hb5)
  have HO5 := Lib.hid (HO4.out.on hb5)
  have HB5 := Lib.hid ((HB4.out.alloc (by omega) (.cells #[.slice x4 n4 c4] 32)).trans (hb5.mono (by simp; omega)))
  have hz5 := hb5.size
  simp only [World.size_alloc] at hz5
  clear hb5
  cases hv : validN (l ++ [s]) with
  | true =>
    have HY := Lib.hid (appN_yes hv)
    have HV := Lib.hid hv
    obtain ⟨hk6, hf6⟩ := HT5.out
    obtain ⟨hk2, hf2⟩ := HR5.out
    obtain ⟨q1, q2, q3⟩ := endN (w := w) (g := w.heap.size + 1) (by omega) (by omega) HO5.out hk2 HB5.out
    have HQ1 := Lib.hid q1; have HQ2 := Lib.hid q2; have HQ3 := Lib.hid q3
    clear q1 q2 q3
    go_wp2
    refine bodyPost_ret (Ret.results_ct rfl _ _ (w.heap.size + 1) [_] rfl aggN (Ret.one HQ1.out)) rfl ?_
    exact ⟨_, ret_nb HV.out.symm, by rw [HY.out]; exact HQ2.out, HQ3.out⟩
  | false =>
    have HY := Lib.hid (appN_no hv)
    have HV := Lib.hid hv
    have hx5 := HX5.out.1
    go_wp2_with fail
    refine (l4Copy _ l _ (HH.out.on HB5.out) (by rw [← HN.out]; exact hll)).mono ?_
    rintro e w6 ⟨v6, rfl, ho6, hb6⟩
    obtain ⟨x6, n6, c6, rfl, hn6, hc6, ho6⟩ := ho6.shapeN
    clear hn6
    have HB6 := Lib.hid (HB5.out.trans (hb6.mono HB5.out.size))
    obtain ⟨hk2, hf2⟩ := HR5.out.on hb6
    obtain ⟨q1, q2, q3⟩ := endN (w := w) (g := w.heap.size + 1) (by omega) (by omega) ho6 hk2 HB6.out
    have HQ1 := Lib.hid q1; have HQ2 := Lib.hid q2; have HQ3 := Lib.hid q3
    clear q1 q2 q3 ho6 hb6
    go_wp2
    refine bodyPost_ret (Ret.results_ct rfl _ _ (w.heap.size + 1) [_] rfl aggN (Ret.one HQ1.out)) rfl ?_
    exact ⟨_, ret_nb HV.out.symm, by rw [HY.out]; exact HQ2.out, HQ3.out⟩

end Go.Proofs.YtcidfmmeonhkhaaGreatDoor.Row
/- Contracts of the reference model's draws of names: what is drawn lies in memory of the call's own; all else but the cursor is as it was. -/
namespace Go.Proofs.YtcidfmmeonhkhaaGreatDoor.Draw
open Go.ChangeShapes Go.WideShapes Go.ChangeAt Go.RowKit Go.Instr
open Go.Proofs.YtcidfmmeonhkhaaGreatDoor.Row (bulk bulk_append bulk_one bulk_nil elemSTR oneStr)
open Go.Proofs.YtcidfmmeonhkhaaGreatDoor.Ret (NC)
set_option linter.unusedVariables false
set_option maxRecDepth 100000

theorem NC.keep {w w' : World} {g p : Nat} {u : Value} (h : NC w g u) (hk : Keep p w w') (hne : g ≠ p) : NC w' g u :=
  ⟨hk.cell h.1 hne, (World.frozen?_of_block (hk.block g h.lt hne)).trans h.2⟩
theorem rown_keep {α : Type} [Inhabited α] {enc : α → Value} {e : TypeId} {B p : Nat} {w w' : World} {x : Value} {m : List α} (h : Row.Own e enc B w x m) (hk : Keep p w w') (hp : p < B) : Row.Own e enc B w' x m := by
  refine ⟨h.1, ?_⟩
  rcases h.2 with h2 | ⟨g, cap, cur, hv, hg, hh, r⟩
  · exact Or.inl h2
  · exact Or.inr ⟨g, cap, cur, hv, hg, by rw [hk.block g (Array.getElem?_eq_some_iff.1 hh).1 (by omega)]; exact hh, r⟩
theorem NC.set_same {w : World} {g : Nat} {u : Value} (h : NC w g u) (v : Value) : NC (w.setCell ⟨g, 0, none⟩ v) g v := ⟨Ret.set_same h.1, by rw [World.frozen?_setCell]; exact h.2⟩
theorem Cur.set {w0 : World} {p : Nat} {v : Value} {l : List UInt8} {w : World} (hc : Cur w0 p v l w) {g : Nat} (hg : w0.heap.size ≤ g) (hp : g ≠ p) (u : Value) : Cur w0 p v l (w.setCell ⟨g, 0, none⟩ u) :=
  hc.grown (Ret.grownBy_set w ⟨g, 0, none⟩ u) (fun q hq => by
    have : g = q := by simpa using hq
    subst this; exact ⟨hg, hp⟩)
theorem Keep.set {p : Nat} {w w1 : World} (hk : Keep p w w1) {g : Nat} (hg : w.heap.size ≤ g) (u : Value) : Keep p w (w1.setCell ⟨g, 0, none⟩ u) :=
  hk.grown (Ret.grownBy_set w1 ⟨g, 0, none⟩ u) (fun q hq => by
    have : g = q := by simpa using hq
    subst this; exact hg)
/-- A name of the call's own, so great at most. -/
def NameIn (B K : Nat) (x : Value) (w : World) : Prop := ∃ u m, x = .agg #[u] ∧ Row.Own 9 Value.string B w u m ∧ bulk m ≤ K
end Go.Proofs.YtcidfmmeonhkhaaGreatDoor.Draw
/- Contracts of the reference model's draws of names that may be wrong: what is drawn lies in memory of the call's own; all else but the cursor is as it was. -/
namespace Go.Proofs.YtcidfmmeonhkhaaGreatDoor.Draw
open Go.ChangeShapes Go.WideShapes Go.ChangeAt Go.RowKit Go.Instr
open Go.Proofs.YtcidfmmeonhkhaaGreatDoor.Row (bulk bulk_append bulk_one bulk_nil elemSTR oneStr)
open Go.Proofs.YtcidfmmeonhkhaaGreatDoor.Ret (NC)
set_option linter.unusedVariables false
set_option maxRecDepth 100000

/-- The length of the slice that lies in block g. -/
def lenAt (w : World) (g : Nat) : Nat := match w.cell? ⟨g, 0, none⟩ with
  | some (.slice _ n _) => n
  | _ => 0
theorem box_keep {w w' : World} {g p : Nat} {u : Value} {t : TypeId} (h : Ret.Box w g u t) (hk : Keep p w w') (hne : g ≠ p) : Ret.Box w' g u t := (hk.block g h.lt hne).trans h
end Go.Proofs.YtcidfmmeonhkhaaGreatDoor.Draw
/- Plain mathematics of names and their texts, no program in sight: a text is split at its slashes; joined again it is the text; a joined list of parts without slashes is split into the parts; runes and bytes. No conditions. -/
namespace Go.Proofs.YtcidfmmeonhkhaaGreatDoor.Row
open Go.ChangeShapes Go.WideShapes Go.ChangeAt Go.RowKit Go.Instr
set_option linter.unusedVariables false
set_option maxRecDepth 100000

def bl (s : ByteArray) : List UInt8 := s.data.toList
def mk (l : List UInt8) : ByteArray := ⟨l.toArray⟩
theorem mk_bl (s : ByteArray) : mk (bl s) = s := by
  show ByteArray.mk (s.data.toList.toArray) = s
  rw [Array.toArray_toList]
theorem bl_mk (l : List UInt8) : bl (mk l) = l := by
  show (l.toArray).toList = l
  rfl
theorem bl_length (s : ByteArray) : (bl s).length = s.size := by
  show s.data.toList.length = s.data.size
  exact Array.length_toList
theorem bl_inj {a b : ByteArray} (h : bl a = bl b) : a = b := by rw [← mk_bl a, ← mk_bl b, h]
theorem bl_get (s : ByteArray) (i : Nat) (h : i < s.size) : (bl s)[i]'(by rw [bl_length]; exact h) = s[i]'h := by
  simp [bl]; rfl
theorem mk_size (l : List UInt8) : (mk l).size = l.length := by
  show l.toArray.size = l.length
  exact List.size_toArray

/-! ### splitting at slashes -/
def goS (cur : List UInt8) : List UInt8 → List (List UInt8)
  | [] => [cur]
  | c :: t => if c = 47 then cur :: goS [] t else goS (cur ++ [c]) t
theorem goS_ne : ∀ (t cur : List UInt8), goS cur t ≠ []
  | [], cur => by simp [goS]
  | c :: t, cur => by
    unfold goS; split
    · simp
    · exact goS_ne t _
theorem goS_free : ∀ (p cur rest : List UInt8), (∀ c ∈ p, c ≠ 47) → goS cur (p ++ rest) = goS (cur ++ p) rest
  | [], cur, rest, _ => by simp
  | c :: p, cur, rest, h => by
    have hc := h c (by simp)
    rw [List.cons_append, goS, if_neg hc, goS_free p _ rest (fun d hd => h d (by simp [hd]))]
    simp
theorem join_cons2 (x y : List UInt8) (r : List (List UInt8)) : Lib.join (x :: y :: r) [47] = x ++ 47 :: Lib.join (y :: r) [47] := by
  rw [Lib.join_cons, Lib.join_cons]
  simp [Lib.joinTail]
/-- Joined again, the pieces are the text. -/
theorem join_goS : ∀ (t cur : List UInt8), Lib.join (goS cur t) [47] = cur ++ t
  | [], cur => by simp [goS, Lib.join_one]
  | c :: t, cur => by
    unfold goS; split
    · rename_i h
      obtain ⟨y, r, hy⟩ : ∃ y r, goS [] t = y :: r := by
        cases hg : goS [] t with
        | nil => exact absurd hg (goS_ne t [])
        | cons y r => exact ⟨y, r, rfl⟩
      have := join_goS t []
      rw [hy] at this ⊢
      rw [join_cons2, this, h]; simp
    · rw [join_goS t]; simp
/-- Parts without slashes, joined, are split into the parts. -/
theorem goS_join : ∀ (P : List (List UInt8)), P ≠ [] → (∀ p ∈ P, ∀ c ∈ p, c ≠ 47) → goS [] (Lib.join P [47]) = P
  | [], h, _ => absurd rfl h
  | [x], _, hf => by
    have := goS_free x [] [] (hf x (by simp))
    rw [List.append_nil] at this
    rw [Lib.join_one, this]; simp [goS]
  | x :: y :: r, _, hf => by
    rw [join_cons2, goS_free x [] _ (hf x (by simp)), goS, if_pos rfl, goS_join (y :: r) (by simp) (fun p hp => hf p (by simp [hp]))]
    simp

/-! ### texts of names -/
def fmtL (l : List ByteArray) : List UInt8 := 47 :: Lib.join (l.map bl) [47]
def fmtS (l : List ByteArray) : ByteArray := mk (fmtL l)
def splitB (s : ByteArray) : List ByteArray := (goS [] (bl s)).map mk
def fullB (s : ByteArray) : Bool := decide (s.size ≠ 0)
def partsB (s : ByteArray) : List ByteArray := (splitB s).filter fullB
def pOk (s : ByteArray) : Bool := validN (partsB s) && decide (fmtS (partsB s) = s)
def pN (s : ByteArray) : List ByteArray := if pOk s = true then partsB s else []
theorem map_bl_mk (L : List (List UInt8)) : (L.map mk).map bl = L := by
  rw [List.map_map]
  have : (bl ∘ mk) = id := funext fun l => bl_mk l
  rw [this, List.map_id]
theorem map_mk_bl (L : List ByteArray) : (L.map bl).map mk = L := by
  rw [List.map_map]
  have : (mk ∘ bl) = id := funext fun l => mk_bl l
  rw [this, List.map_id]

theorem valid_free {p : ByteArray} (h : validP p = true) : ∀ c ∈ bl p, c ≠ 47 := by
  intro c hc e
  obtain ⟨i, hi, rfl⟩ := List.getElem_of_mem hc
  rw [bl_length] at hi
  have h1 := (validP_iff.1 h).2.2 i hi hi
  rw [bl_get p i hi] at e
  rw [e] at h1
  simp [okR] at h1
theorem valid_full {p : ByteArray} (h : validP p = true) : fullB p = true := by
  have := (validP_iff.1 h).1
  unfold fullB; exact decide_eq_true (by omega)
theorem filter_valid {l : List ByteArray} (h : validN l = true) : l.filter fullB = l := by
  rw [List.filter_eq_self]
  exact fun p hp => valid_full ((validN_iff.1 h).2 p hp)
theorem free_of_valid {l : List ByteArray} (h : validN l = true) : ∀ p ∈ l.map bl, ∀ c ∈ p, c ≠ 47 := by
  intro p hp
  obtain ⟨q, hq, rfl⟩ := List.mem_map.1 hp
  exact valid_free ((validN_iff.1 h).2 q hq)

theorem fmtS_nil : fmtS [] = mk [47] := by simp [fmtS, fmtL, Lib.join_nil]
/-- The text of a right name that has parts is split into the empty piece and the parts. -/
theorem split_fmt {l : List ByteArray} (h : validN l = true) (hl : l ≠ []) : splitB (fmtS l) = mk [] :: l := by
  unfold splitB fmtS fmtL
  rw [bl_mk, goS, if_pos rfl, goS_join (l.map bl) (by simpa using hl) (free_of_valid h), List.map_cons, map_mk_bl]
theorem parts_fmt {l : List ByteArray} (h : validN l = true) : partsB (fmtS l) = l := by
  by_cases hl : l = []
  · subst hl
    rw [fmtS_nil]
    unfold partsB splitB
    rw [bl_mk]
    simp [goS, fullB, mk_size]
  · unfold partsB
    rw [split_fmt h hl, List.filter_cons_of_neg (by simp [fullB, mk_size]), filter_valid h]
theorem pOk_fmt {l : List ByteArray} (h : validN l = true) : pOk (fmtS l) = true := by
  unfold pOk; rw [parts_fmt h, h]; simp
theorem pN_fmt {l : List ByteArray} (h : validN l = true) : pN (fmtS l) = l := by
  unfold pN; rw [if_pos (pOk_fmt h), parts_fmt h]
theorem pOk_iff {s : ByteArray} : pOk s = true ↔ validN (partsB s) = true ∧ fmtS (partsB s) = s := by unfold pOk; simp
theorem pN_yes {s : ByteArray} (h : pOk s = true) : pN s = partsB s := if_pos h
theorem pN_no {s : ByteArray} (h : pOk s = false) : pN s = [] := if_neg (by simp [h])
theorem valid_pN (s : ByteArray) : validN (pN s) = true := by
  cases h : pOk s with
  | true => rw [pN_yes h]; exact (pOk_iff.1 h).1
  | false => rw [pN_no h]; decide

/-- The reference model's way: what the pieces are asked. -/
theorem pOk_slash : pOk (mk [47]) = true ∧ pN (mk [47]) = [] := by
  have h : validN [] = true := by decide
  rw [← fmtS_nil]
  exact ⟨pOk_fmt h, pN_fmt h⟩
theorem split_yes {s : ByteArray} {rest : List ByteArray} (h : splitB s = mk [] :: rest) (hr : rest ≠ []) (hv : validN rest = true) : pOk s = true ∧ pN s = rest := by
  have hs : fmtS rest = s := by
    apply bl_inj
    have h1 : goS [] (bl s) = [] :: rest.map bl := by
      have := congrArg (List.map bl) h
      unfold splitB at this
      rw [map_bl_mk, List.map_cons, bl_mk] at this
      exact this
    have h2 := join_goS (bl s) []
    rw [h1] at h2
    obtain ⟨y, r, rfl⟩ : ∃ y r, rest = y :: r := by
      cases rest with
      | nil => exact absurd rfl hr
      | cons y r => exact ⟨y, r, rfl⟩
    rw [List.map_cons, join_cons2, ← List.map_cons] at h2
    unfold fmtS fmtL
    rw [bl_mk]
    exact h2
  rw [← hs]
  exact ⟨pOk_fmt hv, pN_fmt hv⟩
theorem split_no {s : ByteArray} (h47 : s ≠ mk [47]) (h : ∀ rest, splitB s = mk [] :: rest → rest ≠ [] → validN rest = false) : pOk s = false := by
  cases hp : pOk s with
  | false => rfl
  | true =>
    obtain ⟨h1, h2⟩ := pOk_iff.1 hp
    by_cases he : partsB s = []
    · rw [he, fmtS_nil] at h2
      exact absurd h2.symm h47
    · have h3 := split_fmt h1 he
      rw [h2] at h3
      have h4 := h _ h3 he
      rw [h1] at h4; cases h4

/-! ### runs of bytes and runes -/
def seg (s : ByteArray) (f i : Nat) : List UInt8 := ((bl s).drop f).take (i - f)
def rest (s : ByteArray) (i : Nat) : List UInt8 := (bl s).drop i
theorem rest_end (s : ByteArray) : rest s s.size = [] := by unfold rest; rw [← bl_length]; simp
theorem rest_cons (s : ByteArray) {i : Nat} (h : i < s.size) : rest s i = s[i]'h :: rest s (i + 1) := by
  unfold rest
  rw [List.drop_eq_getElem_cons (by rw [bl_length]; exact h), bl_get s i h]
theorem seg_self (s : ByteArray) (i : Nat) : seg s i i = [] := by simp [seg]
theorem seg_succ (s : ByteArray) {f i : Nat} (hf : f ≤ i) (h : i < s.size) : seg s f (i + 1) = seg s f i ++ [s[i]'h] := by
  unfold seg
  have e : i + 1 - f = (i - f) + 1 := by omega
  rw [e, List.take_add_one, List.getElem?_drop, show f + (i - f) = i by omega, List.getElem?_eq_getElem (by rw [bl_length]; exact h), bl_get s i h]
  rfl
theorem seg_length (s : ByteArray) {f i : Nat} (hf : f ≤ i) (h : i ≤ s.size) : (seg s f i).length = i - f := by
  unfold seg; rw [List.length_take, List.length_drop, bl_length]; omega
theorem extract_seg (s : ByteArray) (f i : Nat) : s.extract f i = mk (seg s f i) := by
  conv => lhs; rw [← mk_bl s]
  exact ByteArray.extract_mk (bl s) f i
theorem goS_slash (s : ByteArray) {f i : Nat} (h : i < s.size) (hc : s[i]'h = 47) : goS (seg s f i) (rest s i) = seg s f i :: goS (seg s (i + 1) (i + 1)) (rest s (i + 1)) := by
  rw [rest_cons s h, goS, if_pos hc, seg_self]
theorem goS_byte (s : ByteArray) {f i : Nat} (hf : f ≤ i) (h : i < s.size) (hc : s[i]'h ≠ 47) : goS (seg s f i) (rest s i) = goS (seg s f (i + 1)) (rest s (i + 1)) := by
  rw [rest_cons s h, goS, if_neg hc, seg_succ s hf h]
theorem goS_end (s : ByteArray) (f : Nat) : goS (seg s f s.size) (rest s s.size) = [seg s f s.size] := by rw [rest_end]; rfl
theorem goS_bytes (s : ByteArray) {f i : Nat} (hf : f ≤ i) : ∀ m, (hm : i + m ≤ s.size) → (∀ j (hj : j < m), s[i + j]'(by omega) ≠ 47) → goS (seg s f i) (rest s i) = goS (seg s f (i + m)) (rest s (i + m))
  | 0, _, _ => rfl
  | m + 1, hm, hc => by
    rw [goS_bytes s hf m (by omega) (fun j hj => hc j (by omega)), goS_byte s (by omega) (by omega) (hc m (by omega))]
    rfl

end Go.Proofs.YtcidfmmeonhkhaaGreatDoor.Row
/- Contracts of the functions that split a text at its slashes, the program's (without the empty pieces, rune by rune) and the reference model's (all pieces, byte by byte). No conditions but that lengths fit. -/
namespace Go.Proofs.YtcidfmmeonhkhaaGreatDoor.Row
open Go.ChangeShapes Go.WideShapes Go.ChangeAt Go.RowKit Go.Instr
set_option linter.unusedVariables false
set_option maxRecDepth 100000

theorem natne {a b : Nat} (h : a ≠ b) : ((a : Int) == (b : Int)) = false := beq_eq_false_iff_ne.2 (by omega)
theorem nat47 {x : Nat} (h : x ≠ 47) : ((x : Int) == 47) = false := beq_eq_false_iff_ne.2 (by omega)
theorem byte47 {c : UInt8} : c = 47 ↔ c.toNat = 47 := by
  constructor
  · rintro rfl; rfl
  · intro h; apply UInt8.toNat_inj.1; rw [h]; rfl

/-- Where the reference model's loop stands: the pieces so far, and the rest. -/
def SpI (s : ByteArray) (k f : Nat) (L : List ByteArray) : Prop :=
  (k ≤ s.size → splitB s = L ++ (goS (seg s f k) (rest s k)).map mk) ∧ (k = s.size + 1 → splitB s = L)
theorem SpI.start (s : ByteArray) : SpI s 0 0 [] := ⟨fun _ => by unfold splitB; rw [seg_self]; rfl, fun h => by omega⟩
theorem SpI.cut {s : ByteArray} {k f : Nat} {L : List ByteArray} (h : SpI s k f L) (hk : k ≤ s.size) (hf : f ≤ k) (hc : ∀ h : k < s.size, s[k]'h = 47) : SpI s (k + 1) (k + 1) (L ++ [s.extract f k]) := by
  have h1 := h.1 hk
  by_cases hl : k < s.size
  · rw [goS_slash s hl (hc hl)] at h1
    refine ⟨fun _ => ?_, fun e => by omega⟩
    rw [h1, extract_seg]; simp
  · obtain rfl : k = s.size := by omega
    rw [goS_end] at h1
    refine ⟨fun e => by omega, fun _ => ?_⟩
    rw [h1, extract_seg]; simp
theorem SpI.on {s : ByteArray} {k f : Nat} {L : List ByteArray} (h : SpI s k f L) (hf : f ≤ k) (hl : k < s.size) (hc : s[k]'hl ≠ 47) : SpI s (k + 1) f L := by
  have h1 := h.1 (by omega)
  rw [goS_byte s hf hl hc] at h1
  exact ⟨fun _ => h1, fun e => by omega⟩

set_option maxHeartbeats 2000000 in
theorem l4Split (s : ByteArray) (w : World) (hs : s.size ≤ 10000000) :
    Calls Tryz.prog 187 #[.string s, .int .u8 47] w (GivesS w (splitB s)) := by
  have H0 := Lib.hid (own_empty Value.string 9 w)
  have B0 := Lib.hid ((Below.refl w.heap.size w).alloc (Nat.le_refl _) (.cells #[] 9))
  go_enter Tryz.func187, Tryz.ntmps187
  go_wp2_with fail
  go_loopw [5, 6, 7] (fun rv fv iv wr => ∃ (k f m : Nat) (L : List ByteArray), k ≤ s.size + 1 ∧ f ≤ k ∧ m ≤ k ∧ iv = .int .i64 k ∧ fv = .int .i64 f ∧ Hid (L.length = m) ∧ Hid (Own 9 Value.string w.heap.size wr rv L) ∧ Hid (Below w.heap.size w wr) ∧ Hid (SpI s k f L)) (fun _ _ iv _ => s.size + 1 - (intOf iv).toNat)
  case atStart => exact ⟨0, 0, 0, [], by omega, Nat.le_refl _, Nat.le_refl _, rfl, rfl, Lib.hid rfl, H0, B0, Lib.hid (SpI.start s)⟩
  case round =>
    obtain ⟨k, f, m, L, hk, hf, hm, rfl, rfl, hL, ho, hb, hI⟩ := hrel
    by_cases hle : k ≤ s.size
    · by_cases hcut : ∀ h : k < s.size, s[k]'h = 47
      · have HI2 := Lib.hid (hI.out.cut hle hf hcut)
        have HO := Lib.hid (ho.out.on ((Below.refl _ _).alloc (Nat.le_refl _) (.cells #[.string (s.extract f k)] 9)))
        have HL2 := Lib.hid (show (L ++ [s.extract f k]).length = m + 1 by rw [List.length_append, hL.out]; rfl)
        have hlm : (L.length + [s.extract f k].length) * 16 ≤ 140737488355328 := by rw [hL.out]; simp; omega
        have hlx : L.length + [s.extract f k].length ≤ maxLen := by rw [hL.out]; unfold maxLen; simp; omega
        have HLM := Lib.hid hlm; have HLX := Lib.hid hlx
        clear hlm hlx
        by_cases hlt : k < s.size
        · have hne : ((k : Int) == (s.size : Int)) = false := natne (Nat.ne_of_lt hlt)
          have hb47 : (((s[k]'hlt).toNat : Int) == 47) = true := by
            have := byte47.1 (hcut hlt)
            rw [this]; rfl
          clear hcut
          go_wp2_with (at_builtin; refine wpList_app (enc := Value.string) (B := w.heap.size) (l := L) (m := [s.extract f k]) rfl _ _ rfl Tryz.underlying30 elemSTR rfl rfl rfl HO.out (holds_one Value.string 9 _ _) oneStr HLM.out HLX.out (Nat.le_trans hb.out.size (by simp)) ?_)
          intro v2 w2 ho2 hg2
          have HO2 := Lib.hid ho2
          have HB2 := Lib.hid ((hb.out.alloc hb.out.size (.cells #[.string (s.extract f k)] 9)).grown hg2 (Nat.le_trans hb.out.size (by simp)) (fun g hh => (HO.out.lt g hh).1))
          clear ho2 hg2
          go_wp2_with fail
          go_roundw
          case rel => exact ⟨k + 1, k + 1, m + 1, _, by omega, Nat.le_refl _, by omega, by go_num, by go_num, HL2, HO2, HB2, HI2⟩
          case measure => simp [intOf]; omega
        · obtain rfl : k = s.size := by omega
          clear hcut
          go_wp2_with (at_builtin; refine wpList_app (enc := Value.string) (B := w.heap.size) (l := L) (m := [s.extract f s.size]) rfl _ _ rfl Tryz.underlying30 elemSTR rfl rfl rfl HO.out (holds_one Value.string 9 _ _) oneStr HLM.out HLX.out (Nat.le_trans hb.out.size (by simp)) ?_)
          intro v2 w2 ho2 hg2
          have HO2 := Lib.hid ho2
          have HB2 := Lib.hid ((hb.out.alloc hb.out.size (.cells #[.string (s.extract f s.size)] 9)).grown hg2 (Nat.le_trans hb.out.size (by simp)) (fun g hh => (HO.out.lt g hh).1))
          clear ho2 hg2
          go_wp2_with fail
          go_roundw
          case rel => exact ⟨s.size + 1, s.size + 1, m + 1, _, by omega, Nat.le_refl _, by omega, by go_num, by go_num, HL2, HO2, HB2, HI2⟩
          case measure => simp [intOf]
      · have hlt : k < s.size := by
          by_cases h : k < s.size
          · exact h
          · exact absurd (fun h2 => absurd h2 h) hcut
        have hc : s[k]'hlt ≠ 47 := fun e => hcut (fun _ => e)
        have HI2 := Lib.hid (hI.out.on hf hlt hc)
        have hne : ((k : Int) == (s.size : Int)) = false := natne (Nat.ne_of_lt hlt)
        have hb47 : (((s[k]'hlt).toNat : Int) == 47) = false := nat47 (fun e => hc (byte47.2 e))
        clear hcut hc
        go_wp2_with fail
        go_roundw
        case rel => exact ⟨k + 1, f, m, L, by omega, by omega, by omega, by go_num, rfl, hL, ho, hb, HI2⟩
        case measure => simp [intOf]; omega
    · obtain rfl : k = s.size + 1 := by omega
      have HE := Lib.hid (hI.out.2 rfl)
      clear hle
      go_wp2_with fail
      go_ret
      exact ⟨_, rfl, by rw [HE.out]; exact ho.out, hb.out⟩

/-! ### the program's way: rune by rune, over the text with a slash behind it -/
def SpN (s : ByteArray) (k f : Nat) (L : List ByteArray) : Prop :=
  (k ≤ s.size → partsB s = L ++ ((goS (seg s f k) (rest s k)).map mk).filter fullB) ∧ (k = s.size + 1 → partsB s = L)
theorem SpN.start (s : ByteArray) : SpN s 0 0 [] := ⟨fun _ => by unfold partsB splitB; rw [seg_self]; rfl, fun h => by omega⟩
theorem seg_full {s : ByteArray} {f k : Nat} (hf : f ≤ k) (hk : k ≤ s.size) : fullB (mk (seg s f k)) = decide (f < k) := by
  unfold fullB
  rw [mk_size, seg_length s hf hk]
  congr 1
  apply propext; omega
theorem SpN.cut {s : ByteArray} {k f : Nat} {L : List ByteArray} (h : SpN s k f L) (hk : k ≤ s.size) (hf : f ≤ k) (hc : ∀ h : k < s.size, s[k]'h = 47) : SpN s (k + 1) (k + 1) (if f < k then L ++ [s.extract f k] else L) := by
  have h1 := h.1 hk
  have hfull := seg_full (s := s) hf hk
  by_cases hl : k < s.size
  · rw [goS_slash s hl (hc hl), List.map_cons, List.filter_cons, hfull] at h1
    refine ⟨fun _ => ?_, fun e => by omega⟩
    rw [h1, extract_seg]
    by_cases hfk : f < k
    · simp [hfk]
    · simp [hfk]
  · obtain rfl : k = s.size := by omega
    rw [goS_end, List.map_cons, List.filter_cons, hfull] at h1
    refine ⟨fun e => by omega, fun _ => ?_⟩
    rw [h1, extract_seg]
    by_cases hfk : f < s.size
    · simp [hfk]
    · simp [hfk]
theorem SpN.on {s : ByteArray} {k f : Nat} {L : List ByteArray} (h : SpN s k f L) (hf : f ≤ k) {m : Nat} (h0 : 1 ≤ m) (hm : k + m ≤ s.size) (hc : ∀ j (hj : j < m), s[k + j]'(by omega) ≠ 47) : SpN s (k + m) f L := by
  have h1 := h.1 (by omega)
  rw [goS_bytes s hf m hm hc] at h1
  exact ⟨fun _ => h1, fun e => by omega⟩

end Go.Proofs.YtcidfmmeonhkhaaGreatDoor.Row
/- Contracts of ParseName, the program's and the reference model's. No conditions but that lengths fit. -/
namespace Go.Proofs.YtcidfmmeonhkhaaGreatDoor.Row
open Go.ChangeShapes Go.WideShapes Go.ChangeAt Go.RowKit Go.Instr
set_option linter.unusedVariables false
set_option maxRecDepth 100000

theorem bulk_goS : ∀ (t cur : List UInt8), bulk ((goS cur t).map mk) = cur.length + t.length + 1
  | [], cur => by simp [goS, bulk_one, mk_size]; omega
  | c :: t, cur => by
    unfold goS
    split
    · rw [List.map_cons, bulk_cons, bulk_goS t, mk_size]; simp; omega
    · rw [bulk_goS t]; simp; omega
theorem bulk_split (s : ByteArray) : bulk (splitB s) = s.size + 1 := by
  unfold splitB; rw [bulk_goS, bl_length]; simp
theorem split_pos (s : ByteArray) : 0 < (splitB s).length := by
  unfold splitB; rw [List.length_map]
  exact List.length_pos_iff.2 (goS_ne _ _)

theorem tl47 : (mk [47]).toList = [47] := ByteArray.toList_mk [47]
theorem tl0 : (mk []).toList = [] := ByteArray.toList_mk []

end Go.Proofs.YtcidfmmeonhkhaaGreatDoor.Row
/- Helpers for the model's draws of structs of names: slices of texts that lie in blocks which hold texts alone (holdS_set, holdS_keep), names out of texts. What was in memory stays as it was, but for the cursor. -/
namespace Go.Proofs.YtcidfmmeonhkhaaGreatDoor.Draw
open Go.ChangeShapes Go.WideShapes Go.ChangeAt Go.RowKit Go.Instr
open Go.Proofs.YtcidfmmeonhkhaaGreatDoor.Row (bulk bulk_append bulk_one bulk_nil bulk_cons)
open Go.Proofs.YtcidfmmeonhkhaaGreatDoor.Ret (NC Blk Box)
set_option linter.unusedVariables false
set_option maxRecDepth 100000

theorem Cur.setI {w0 : World} {p : Nat} {v : Value} {l : List UInt8} {w : World} (hc : Cur w0 p v l w) {g : Nat} (i : Nat) (hg : w0.heap.size ≤ g) (hp : g ≠ p) (u : Value) : Cur w0 p v l (w.setCell ⟨g, i, none⟩ u) :=
  hc.grown (Ret.grownBy_set w ⟨g, i, none⟩ u) (fun q hq => by
    have : q = g := by simpa using hq.symm
    exact ⟨by omega, by omega⟩)
theorem Keep.setI {p : Nat} {w w1 : World} (hk : Keep p w w1) {g : Nat} (i : Nat) (hg : w.heap.size ≤ g) (u : Value) : Keep p w (w1.setCell ⟨g, i, none⟩ u) :=
  hk.grown (Ret.grownBy_set w1 ⟨g, i, none⟩ u) (fun q hq => by
    have : q = g := by simpa using hq.symm
    omega)
theorem blk_keep {w w' : World} {g p : Nat} {cs : Array Value} {t : TypeId} (h : Blk w g cs t) (hk : Keep p w w') (hne : g ≠ p) : Blk w' g cs t := (hk.block g h.lt hne).trans h
/-- A row of one element type and a variable of another type are different blocks. -/
theorem own_ne_blk {α : Type} [Inhabited α] {enc : α → Value} {e t : TypeId} {B g : Nat} {w : World} {v : Value} {l : List α} {cs : Array Value} (h : Row.Own e enc B w v l) (hb : Blk w g cs t) (hne : e ≠ t) : ∀ q, v.ownBlock = some q → q ≠ g := by
  intro q hq e1
  subst e1
  rcases h.2 with h2 | ⟨g2, cap, cur, hv, hg, hh, r⟩
  · rw [h2.1] at hq; cases hq
  · rw [hv] at hq
    obtain rfl : g2 = q := Option.some.inj hq
    have h3 : w.heap[g2]? = some (.cells cs t) := hb
    rw [hh] at h3
    have h4 := Option.some.inj h3
    injection h4 with h5 h6 h7
    exact hne h6
theorem rown_setT {α : Type} [Inhabited α] {enc : α → Value} {e t : TypeId} {B g i : Nat} {w : World} {v u : Value} {l : List α} {cs : Array Value} (h : Row.Own e enc B w v l) (hb : Blk w g cs t) (hne : e ≠ t) : Row.Own e enc B (w.setCell ⟨g, i, none⟩ u) v l :=
  h.grown (Ret.grownBy_set w ⟨g, i, none⟩ u) (by
    cases hv : v.ownBlock with
    | none => exact Or.inl rfl
    | some q => exact Or.inr fun e => own_ne_blk h hb hne q hv (Option.some.inj e))
/-- No cell is a text. -/
def NoStr (cs : Array Value) : Prop := ∀ (i : Nat) (s : ByteArray), cs[i]? ≠ some (.string s)
end Go.Proofs.YtcidfmmeonhkhaaGreatDoor.Draw
