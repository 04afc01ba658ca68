/- Contracts of ValidPart and ValidName, the program's and the reference model's: a part is right where its size is 1 to 8 and each byte is a small letter, a digit or a minus; a name where each part is and there are at most 6. No conditions but that lengths fit. -/
import Derived.Test.YtkojeajjappchaaName
import Derived.Test.YtkojeajjappchaaNum
import Derived.Laws.RangeAny
namespace Go.Proofs.Ytkojeajjappchaa.Row
open Go.ChangeShapes Go.WideShapes Go.ChangeAt Go.RowKit Go.Instr
set_option linter.unusedVariables false
set_option maxRecDepth 100000

def okR (r : Int) : Prop := (97 ≤ r ∧ r ≤ 122) ∨ (48 ≤ r ∧ r ≤ 57) ∨ r = 45
instance (r : Int) : Decidable (okR r) := by unfold okR; infer_instance
def okTo (s : ByteArray) (k : Nat) : Prop := ∀ j (h : j < s.size), j < k → okR ((s[j]'h).toNat : Int)
instance (s : ByteArray) (k : Nat) : Decidable (okTo s k) := by unfold okTo; infer_instance
def validP (s : ByteArray) : Bool := decide (1 ≤ s.size ∧ s.size ≤ 8 ∧ okTo s s.size)
theorem okTo_zero (s : ByteArray) : okTo s 0 := fun j h h2 => absurd h2 (by omega)
theorem okTo_succ {s : ByteArray} {k : Nat} (h : okTo s k) (hk : k < s.size) (hc : okR ((s[k]'hk).toNat : Int)) : okTo s (k + 1) := fun j h1 h2 => by
  by_cases e : j = k
  · subst e; exact hc
  · exact h j h1 (by omega)
theorem validP_true {s : ByteArray} (h1 : 1 ≤ s.size) (h2 : s.size ≤ 8) (h : okTo s s.size) : validP s = true := by simp [validP, h1, h2, h]
theorem validP_size {s : ByteArray} (h : ¬ (1 ≤ s.size ∧ s.size ≤ 8)) : validP s = false := by
  unfold validP; exact decide_eq_false (fun e => h ⟨e.1, e.2.1⟩)
theorem validP_byte {s : ByteArray} {k : Nat} (hk : k < s.size) (hc : ¬ okR ((s[k]'hk).toNat : Int)) : validP s = false := by
  unfold validP; exact decide_eq_false (fun e => hc (e.2.2 k hk hk))
theorem validP_iff {s : ByteArray} : validP s = true ↔ 1 ≤ s.size ∧ s.size ≤ 8 ∧ okTo s s.size := by unfold validP; exact decide_eq_true_iff

theorem rune_ok {s : ByteArray} {pos : Nat} (h : pos < s.size) (hr : okR ((Utf8.decode s pos).1 : Int)) : okR ((s[pos]'h).toNat : Int) ∧ (Utf8.decode s pos).2 = 1 := by
  by_cases ha : (s[pos]'h).toNat < 128
  · rw [decode_ascii s pos h ha] at hr ⊢
    exact ⟨hr, rfl⟩
  · have := (decode_high s pos h (by omega)).1
    unfold okR at hr; omega
theorem rune_not {s : ByteArray} {pos : Nat} (h : pos < s.size) (hr : ¬ okR ((Utf8.decode s pos).1 : Int)) : ¬ okR ((s[pos]'h).toNat : Int) := by
  by_cases ha : (s[pos]'h).toNat < 128
  · rwa [decode_ascii s pos h ha] at hr
  · unfold okR; omega

set_option maxHeartbeats 1000000 in
theorem isPartRune (r : Int) (w : World) : Calls Try.prog 104 #[.int .i32 r] w fun e w' => e = .returned (.bool (decide (okR r))) ∧ w = w' := by
  have HT := fun (h : okR r) => (decide_eq_true h).symm
  have HF := fun (h : ¬ okR r) => (decide_eq_false h).symm
  have HT := Lib.hid HT; have HF := Lib.hid HF
  by_cases h1 : 97 ≤ r ∧ r ≤ 122
  · obtain ⟨h1a, h1b⟩ := h1
    go_enter Try.func104, Try.ntmps104
    go_wp2
    go_ret
    exact ⟨ret_bool (HT.out (by unfold okR; omega)), rfl⟩
  · by_cases h2 : 48 ≤ r ∧ r ≤ 57
    · obtain ⟨h2a, h2b⟩ := h2
      have h1a : ¬ 97 ≤ r := by omega
      go_enter Try.func104, Try.ntmps104
      go_wp2
      go_ret
      exact ⟨ret_bool (HT.out (by unfold okR; omega)), rfl⟩
    · by_cases h3 : r = 45
      · subst h3
        go_enter Try.func104, Try.ntmps104
        go_wp2
        go_ret
        exact ⟨ret_bool (HT.out (by unfold okR; omega)), rfl⟩
      · have HF2 := Lib.hid (HF.out (by unfold okR; omega))
        have h3b : (r == 45) = false := by simpa using h3
        clear h3 HF HT
        by_cases h1a : 97 ≤ r
        · have h1b : ¬ r ≤ 122 := by omega
          have h2b : ¬ r ≤ 57 := by omega
          clear h1 h2
          go_enter Try.func104, Try.ntmps104
          go_wp2
          go_ret
          exact ⟨ret_bool HF2.out, rfl⟩
        · clear h1
          by_cases h2a : 48 ≤ r
          · have h2b : ¬ r ≤ 57 := by omega
            clear h2
            go_enter Try.func104, Try.ntmps104
            go_wp2
            go_ret
            exact ⟨ret_bool HF2.out, rfl⟩
          · clear h2
            go_enter Try.func104, Try.ntmps104
            go_wp2
            go_ret
            exact ⟨ret_bool HF2.out, rfl⟩

set_option maxHeartbeats 1000000 in
theorem implValidPart (s : ByteArray) (w : World) (hl : s.size ≤ 140737488351232) :
    Calls Try.prog 94 #[.string s] w fun e w' => e = .returned (.bool (validP s)) ∧ Below w.heap.size w w' := by
  go_enter Try.func94, Try.ntmps94
  go_wp2
  go_loopw [] (fun w' => ∃ pos : Nat, pos ≤ s.size ∧ w' = w.iter s pos ∧ Hid (okTo s pos)) (fun w' => s.size - w'.iterPos w.heap.size)
  case atStart => exact ⟨0, by omega, rfl, Lib.hid (okTo_zero s)⟩
  case round =>
    obtain ⟨pos, hpl, rfl, ho⟩ := hrel
    by_cases hp : pos < s.size
    · have hnx : ∀ ty, (Instr.next (.pointer (some ⟨w.heap.size, 0, none⟩)) true ty).run Try.prog (w.iter s pos) = _ := fun ty => run_next_any w s pos ty hp
      by_cases hr : okR ((Utf8.decode s pos).1 : Int)
      · obtain ⟨h1, h2⟩ := rune_ok hp hr
        have HO := Lib.hid (okTo_succ ho.out hp h1)
        have HR := Lib.hid (decide_eq_true hr)
        rw [h2] at hnx
        clear hr h1 h2
        go_wp2_with fail
        refine (isPartRune _ _).mono ?_
        rintro e w2 ⟨rfl, rfl⟩
        rw [HR.out]
        go_wp2
        go_roundw
        case rel => exact ⟨pos + 1, by omega, rfl, HO⟩
        case measure => simp; omega
      · have HV := Lib.hid (validP_byte hp (rune_not hp hr))
        have HR := Lib.hid (decide_eq_false hr)
        clear hr
        go_wp2_with fail
        refine (isPartRune _ _).mono ?_
        rintro e w2 ⟨rfl, rfl⟩
        rw [HR.out]
        go_wp2
        go_ret
        exact ⟨ret_bool HV.out.symm, (Below.refl _ _).alloc (Nat.le_refl _) _⟩
    · obtain rfl : pos = s.size := by omega
      have hnx : ∀ ty, (Instr.next (.pointer (some ⟨w.heap.size, 0, none⟩)) true ty).run Try.prog (w.iter s s.size) = _ := fun ty => run_next_end w s s.size ty hp
      go_wp2_with fail
      refine (Num.implInRange _ _ _ _).mono ?_
      rintro e w2 ⟨rfl, rfl⟩
      go_wp2
      go_ret
      refine ⟨ret_bool ?_, (Below.refl _ _).alloc (Nat.le_refl _) _⟩
      have := ho.out
      simp only [Num.inB, validP, this, and_true]
      congr 1
      apply propext
      omega

set_option maxHeartbeats 1000000 in
theorem specValidPart (s : ByteArray) (w : World) (hl : s.size ≤ 140737488351232) :
    Calls Try.prog 63 #[.string s] w fun e w' => e = .returned (.bool (validP s)) ∧ w = w' := by
  by_cases hsz : 1 ≤ s.size ∧ s.size ≤ 8
  · obtain ⟨hs1, hs8⟩ := hsz
    go_enter Try.func63, Try.ntmps63
    go_wp2_with fail
    refine (Num.specIn_true (by omega) (by omega) _).mono ?_
    rintro e w2 ⟨rfl, rfl⟩
    go_wp2
    go_loop [3] (fun iv => ∃ k : Nat, k ≤ s.size ∧ iv = .int .i64 k ∧ Hid (okTo s k)) (fun iv => s.size - (intOf iv).toNat)
    case atStart => exact ⟨0, by omega, rfl, Lib.hid (okTo_zero s)⟩
    case round =>
      obtain ⟨k, hk, rfl, ho⟩ := hrel
      by_cases hlt : k < s.size
      · have hb := (s[k]'hlt).toNat_lt
        have hb0 : (0 : Int) ≤ ((s[k]'hlt).toNat : Int) := by omega
        have hb1 : ((s[k]'hlt).toNat : Int) ≤ 255 := by omega
        have HOK := Lib.hid (fun hc => okTo_succ ho.out hlt hc)
        have HNO := Lib.hid (fun hc => validP_byte hlt hc)
        clear hb
        go_wp2_with fail
        by_cases h1 : 97 ≤ ((s[k]'hlt).toNat : Int) ∧ ((s[k]'hlt).toNat : Int) ≤ 122
        · refine (Num.specIn_true h1.1 h1.2 _).mono ?_
          rintro e w2 ⟨rfl, rfl⟩
          have HO2 := Lib.hid (HOK.out (by unfold okR; omega))
          clear HOK HNO h1
          go_wp2
          go_round
          case rel => exact ⟨k + 1, by omega, by go_num, HO2⟩
          case measure => simp [intOf]; omega
        · refine (Num.specIn_false h1 _).mono ?_
          rintro e w2 ⟨rfl, rfl⟩
          go_wp2_with fail
          by_cases h2 : 48 ≤ ((s[k]'hlt).toNat : Int) ∧ ((s[k]'hlt).toNat : Int) ≤ 57
          · refine (Num.specIn_true h2.1 h2.2 _).mono ?_
            rintro e w2 ⟨rfl, rfl⟩
            have HO2 := Lib.hid (HOK.out (by unfold okR; omega))
            clear HOK HNO h1 h2
            go_wp2
            go_round
            case rel => exact ⟨k + 1, by omega, by go_num, HO2⟩
            case measure => simp [intOf]; omega
          · refine (Num.specIn_false h2 _).mono ?_
            rintro e w2 ⟨rfl, rfl⟩
            by_cases h3 : (s[k]'hlt).toNat = 45
            · have h3b : (((s[k]'hlt).toNat : Int) != 45) = false := by simp [h3]
              have HO2 := Lib.hid (HOK.out (by unfold okR; omega))
              clear HOK HNO h1 h2
              go_wp2
              go_round
              case rel => exact ⟨k + 1, by omega, by go_num, HO2⟩
              case measure => simp [intOf]; omega
            · have h3b : (((s[k]'hlt).toNat : Int) != 45) = true := by simp; omega
              have HV := Lib.hid (HNO.out (by unfold okR; omega))
              clear HOK HNO h1 h2 h3
              go_wp2
              go_ret
              exact ⟨ret_bool HV.out.symm, rfl⟩
      · obtain rfl : k = s.size := by omega
        have HV := Lib.hid (validP_true hs1 hs8 ho.out)
        go_wp2
        go_ret
        exact ⟨ret_bool HV.out.symm, rfl⟩
  · have HV := Lib.hid (validP_size hsz)
    go_enter Try.func63, Try.ntmps63
    go_wp2_with fail
    refine (Num.specIn_false (by omega) _).mono ?_
    rintro e w2 ⟨rfl, rfl⟩
    go_wp2
    go_ret
    exact ⟨ret_bool HV.out.symm, rfl⟩

end Go.Proofs.Ytkojeajjappchaa.Row
