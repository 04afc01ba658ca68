/- Contracts and mathematics, joined: Bytes, Part, Valid, Ints, LibS, Cmp, Trunc, Pref, AppP, WantS, Thing, KThing, WantV. No conditions but those that each states. -/
import Derived.Test.YtbooamnlocobfaaB2
import Derived.Laws.BytesArg
import Derived.Test.YtbooamnlocobfaaB1
import Derived.Laws.RangeAny
import Derived.Lib.AppendZerosOnto
import Derived.Lib.SliceRun
import Derived.Deep.RegionHeld3
import Derived.SizedLaws
import Derived.ChangeSlices
import Derived.ChangeSame
import Derived.ChangeArms
import Derived.Deep.Strs
import Derived.Lib.SmallJoins
import Derived.Deep.Cut
/- Contracts of AppendBytes, EqualBytes and EncodeInts, the reference model's and the program's. Slices that are returned lie in memory of the call's own. No conditions but that lengths fit and that the elements are bytes. -/
namespace Go.Proofs.Ytbooamnlocobfaa.Sl
open Go.ChangeShapes Go.WideShapes Go.ChangeAt Go.RowKit Go.Instr
set_option linter.unusedVariables false
set_option maxRecDepth 100000

set_option maxHeartbeats 1000000 in
theorem specAppendBytes (v u : Value) (l m : List Int) (w : World) (h : Holds .u8 w v l) (g : Holds .u8 w u m) (hl : l.length ≤ 10000000) (hm : m.length ≤ 10000000) :
    Calls Try.prog 59 #[v, u] w (GivesB w (l ++ Var.var m.length ++ m)) := by
  obtain ⟨x, cap, rfl, hcap, hg⟩ := g.shape
  have H := Lib.hid h; have G := Lib.hid hg
  clear h g hg
  go_enter Try.func59, Try.ntmps59
  go_wp2_with fail
  refine (specAppendVarint _ l m.length _ H.out (by omega)).mono ?_
  rintro e w1 ⟨v1, rfl, ho, hb⟩
  have HO := Lib.hid ho; have HB := Lib.hid hb
  have hv := Var.var_len m.length
  clear ho hb
  go_wp2_with (at_builtin; refine wpList_app (k := .u8) (B := w.heap.size) (l := l ++ Var.var m.length) (m := m) rfl _ _ rfl Try.underlying25 elemBYTE rfl rfl rfl HO.out (G.out.on HB.out) ?_ (by decide) ?_ ?_)
  · rw [List.length_append]; omega
  · exact HB.out.size
  intro v2 w2 ho hg
  have hb2 := HB.out.grown hg (by have := HB.out.size; omega) (fun k hk => (HO.out.lt k hk).1)
  have HO2 := Lib.hid ho; have HB2 := Lib.hid hb2
  clear ho hg hb2
  go_wp2_with fail
  go_ret
  exact ⟨_, rfl, by rw [List.append_assoc]; exact HO2.out, HB2.out⟩

set_option maxHeartbeats 1000000 in
theorem implAppendBytes (v u : Value) (l m : List Int) (w : World) (h : Holds .u8 w v l) (g : Holds .u8 w u m) (hl : l.length ≤ 10000000) (hm : m.length ≤ 10000000) :
    Calls Try.prog 61 #[v, u] w (GivesB w (l ++ Var.var m.length ++ m)) := by
  obtain ⟨x, cap, rfl, hcap, hg⟩ := g.shape
  have H := Lib.hid h; have G := Lib.hid hg
  clear h g hg
  go_enter Try.func61, Try.ntmps61
  go_wp2_with fail
  refine (implAppendVarint _ l m.length _ H.out (by omega)).mono ?_
  rintro e w1 ⟨v1, rfl, ho, hb⟩
  have HO := Lib.hid ho; have HB := Lib.hid hb
  have hv := Var.var_len m.length
  clear ho hb
  go_wp2_with (at_builtin; refine wpList_app (k := .u8) (B := w.heap.size) (l := l ++ Var.var m.length) (m := m) rfl _ _ rfl Try.underlying25 elemBYTE rfl rfl rfl HO.out (G.out.on HB.out) ?_ (by decide) ?_ ?_)
  · rw [List.length_append]; omega
  · exact HB.out.size
  intro v2 w2 ho hg
  have hb2 := HB.out.grown hg (by have := HB.out.size; omega) (fun k hk => (HO.out.lt k hk).1)
  have HO2 := Lib.hid ho; have HB2 := Lib.hid hb2
  clear ho hg hb2
  go_wp2_with fail
  go_ret
  exact ⟨_, rfl, by rw [List.append_assoc]; exact HO2.out, HB2.out⟩

/-! ### EqualBytes -/
theorem conv_holds {x : Option Addr} {cap : Nat} {l : List Int} {w : World} (h : Holds .u8 w (.slice x l.length cap) l) :
    (convert 25 9 (.slice x l.length cap)).run Try.prog w = .ok (.string (strOfNums l)) w := by
  obtain ⟨x', cap', hv, hc, hh⟩ := h
  cases hv
  rcases hh with rfl | ⟨b, off, rfl, hc⟩
  · cases x with
    | none => exact run_convert_bytes_nil w 25 5 Try.underlying25 Try.underlying5 _ _ 9 Try.underlying9
    | some a => exact run_convert_bytes_back w 25 9 5 a cap [] Try.underlying25 Try.underlying5 Try.underlying9 (fun j hj => absurd hj (by simp))
  · exact run_convert_bytes_arg w 25 5 Try.underlying25 Try.underlying5 b off l.length cap l rfl hc 9 Try.underlying9

theorem str_eqB {l m : List Int} (hl : Byt l) (hm : Byt m) : ((strOfNums l).toList == (strOfNums m).toList) = eqB l m := by
  have inj : ∀ (a b : List Int), Byt a → Byt b → (a.map fun n => UInt8.ofNat n.toNat) = (b.map fun n => UInt8.ofNat n.toNat) → a = b := by
    intro a
    induction a with
    | nil => intro b _ _ h; cases b with
      | nil => rfl
      | cons _ _ => simp at h
    | cons x r ih =>
      intro b ha hb h
      cases b with
      | nil => simp at h
      | cons y s =>
        simp only [List.map_cons, List.cons.injEq] at h
        have h1 := ha x (by simp)
        have h2 := hb y (by simp)
        have h3 := congrArg UInt8.toNat h.1
        simp at h3
        have h4 : x = y := by omega
        rw [h4, ih s (fun z hz => ha z (by simp [hz])) (fun z hz => hb z (by simp [hz])) h.2]
  rw [Bool.eq_iff_iff]
  unfold eqB
  rw [beq_iff_eq, decide_eq_true_iff, ByteArray.toList_eq, ByteArray.toList_eq, strOfNums_data, strOfNums_data]
  exact ⟨inj l m hl hm, fun h => by rw [h]⟩

set_option maxHeartbeats 1000000 in
theorem specEqualBytes (v u : Value) (l m : List Int) (w : World) (h : Holds .u8 w v l) (g : Holds .u8 w u m) (hl : Byt l) (hm : Byt m) :
    Calls Try.prog 70 #[v, u] w fun e w' => e = .returned (.bool (eqB l m)) ∧ w = w' := by
  obtain ⟨x, cx, rfl, hcx, hh⟩ := h.shape
  obtain ⟨y, cy, rfl, hcy, hg⟩ := g.shape
  have e1 := conv_holds hh
  have e2 := conv_holds hg
  have HE := Lib.hid (str_eqB hl hm)
  clear h hh g hg hl hm
  go_enter Try.func70, Try.ntmps70
  go_wp2_with fail
  go_ret
  exact ⟨ret_bool HE.out, rfl⟩

set_option maxHeartbeats 1000000 in
theorem libEqual (v u : Value) (l m : List Int) (w : World) (h : Holds .u8 w v l) (g : Holds .u8 w u m) (hl : Byt l) (hm : Byt m) :
    Calls Try.prog 97 #[v, u] w fun e w' => e = .returned (.bool (eqB l m)) ∧ w = w' := by
  obtain ⟨x, cx, rfl, hcx, hh⟩ := h.shape
  obtain ⟨y, cy, rfl, hcy, hg⟩ := g.shape
  have e1 := conv_holds hh
  have e2 := conv_holds hg
  have HE := Lib.hid (str_eqB hl hm)
  clear h hh g hg hl hm
  go_enter Try.func97, Try.ntmps97
  go_wp2_with fail
  go_ret
  exact ⟨ret_bool HE.out, rfl⟩

theorem implEqualBytes (v u : Value) (l m : List Int) (w : World) (h : Holds .u8 w v l) (g : Holds .u8 w u m) (hl : Byt l) (hm : Byt m) :
    Calls Try.prog 72 #[v, u] w fun e w' => e = .returned (.bool (eqB l m)) ∧ w = w' := by
  have hc := libEqual v u l m w h g hl hm
  have HC := Lib.hid hc
  clear hc h g hl hm
  go_enter Try.func72, Try.ntmps72
  go_wp2_with fail
  refine HC.out.mono ?_
  rintro e w' ⟨rfl, rfl⟩
  go_wp2_with fail
  go_ret
  exact ⟨rfl, rfl⟩
end Go.Proofs.Ytbooamnlocobfaa.Sl
/- Contracts of ValidPart and ValidName, the program's and the reference model's: a part is right where its size is 1 to 8 and each byte is a small letter, a digit or a minus; a name where each part is and there are at most 6. No conditions but that lengths fit. -/
namespace Go.Proofs.Ytbooamnlocobfaa.Row
open Go.ChangeShapes Go.WideShapes Go.ChangeAt Go.RowKit Go.Instr
set_option linter.unusedVariables false
set_option maxRecDepth 100000

def okR (r : Int) : Prop := (97 ≤ r ∧ r ≤ 122) ∨ (48 ≤ r ∧ r ≤ 57) ∨ r = 45
instance (r : Int) : Decidable (okR r) := by unfold okR; infer_instance
def okTo (s : ByteArray) (k : Nat) : Prop := ∀ j (h : j < s.size), j < k → okR ((s[j]'h).toNat : Int)
instance (s : ByteArray) (k : Nat) : Decidable (okTo s k) := by unfold okTo; infer_instance
def validP (s : ByteArray) : Bool := decide (1 ≤ s.size ∧ s.size ≤ 8 ∧ okTo s s.size)
theorem okTo_zero (s : ByteArray) : okTo s 0 := fun j h h2 => absurd h2 (by omega)
theorem okTo_succ {s : ByteArray} {k : Nat} (h : okTo s k) (hk : k < s.size) (hc : okR ((s[k]'hk).toNat : Int)) : okTo s (k + 1) := fun j h1 h2 => by
  by_cases e : j = k
  · subst e; exact hc
  · exact h j h1 (by omega)
theorem validP_true {s : ByteArray} (h1 : 1 ≤ s.size) (h2 : s.size ≤ 8) (h : okTo s s.size) : validP s = true := by simp [validP, h1, h2, h]
theorem validP_size {s : ByteArray} (h : ¬ (1 ≤ s.size ∧ s.size ≤ 8)) : validP s = false := by
  unfold validP; exact decide_eq_false (fun e => h ⟨e.1, e.2.1⟩)
theorem validP_byte {s : ByteArray} {k : Nat} (hk : k < s.size) (hc : ¬ okR ((s[k]'hk).toNat : Int)) : validP s = false := by
  unfold validP; exact decide_eq_false (fun e => hc (e.2.2 k hk hk))
theorem validP_iff {s : ByteArray} : validP s = true ↔ 1 ≤ s.size ∧ s.size ≤ 8 ∧ okTo s s.size := by unfold validP; exact decide_eq_true_iff

theorem rune_ok {s : ByteArray} {pos : Nat} (h : pos < s.size) (hr : okR ((Utf8.decode s pos).1 : Int)) : okR ((s[pos]'h).toNat : Int) ∧ (Utf8.decode s pos).2 = 1 := by
  by_cases ha : (s[pos]'h).toNat < 128
  · rw [decode_ascii s pos h ha] at hr ⊢
    exact ⟨hr, rfl⟩
  · have := (decode_high s pos h (by omega)).1
    unfold okR at hr; omega
theorem rune_not {s : ByteArray} {pos : Nat} (h : pos < s.size) (hr : ¬ okR ((Utf8.decode s pos).1 : Int)) : ¬ okR ((s[pos]'h).toNat : Int) := by
  by_cases ha : (s[pos]'h).toNat < 128
  · rwa [decode_ascii s pos h ha] at hr
  · unfold okR; omega

set_option maxHeartbeats 1000000 in
theorem isPartRune (r : Int) (w : World) : Calls Try.prog 99 #[.int .i32 r] w fun e w' => e = .returned (.bool (decide (okR r))) ∧ w = w' := by
  have HT := fun (h : okR r) => (decide_eq_true h).symm
  have HF := fun (h : ¬ okR r) => (decide_eq_false h).symm
  have HT := Lib.hid HT; have HF := Lib.hid HF
  by_cases h1 : 97 ≤ r ∧ r ≤ 122
  · obtain ⟨h1a, h1b⟩ := h1
    go_enter Try.func99, Try.ntmps99
    go_wp2
    go_ret
    exact ⟨ret_bool (HT.out (by unfold okR; omega)), rfl⟩
  · by_cases h2 : 48 ≤ r ∧ r ≤ 57
    · obtain ⟨h2a, h2b⟩ := h2
      have h1a : ¬ 97 ≤ r := by omega
      go_enter Try.func99, Try.ntmps99
      go_wp2
      go_ret
      exact ⟨ret_bool (HT.out (by unfold okR; omega)), rfl⟩
    · by_cases h3 : r = 45
      · subst h3
        go_enter Try.func99, Try.ntmps99
        go_wp2
        go_ret
        exact ⟨ret_bool (HT.out (by unfold okR; omega)), rfl⟩
      · have HF2 := Lib.hid (HF.out (by unfold okR; omega))
        have h3b : (r == 45) = false := by simpa using h3
        clear h3 HF HT
        by_cases h1a : 97 ≤ r
        · have h1b : ¬ r ≤ 122 := by omega
          have h2b : ¬ r ≤ 57 := by omega
          clear h1 h2
          go_enter Try.func99, Try.ntmps99
          go_wp2
          go_ret
          exact ⟨ret_bool HF2.out, rfl⟩
        · clear h1
          by_cases h2a : 48 ≤ r
          · have h2b : ¬ r ≤ 57 := by omega
            clear h2
            go_enter Try.func99, Try.ntmps99
            go_wp2
            go_ret
            exact ⟨ret_bool HF2.out, rfl⟩
          · clear h2
            go_enter Try.func99, Try.ntmps99
            go_wp2
            go_ret
            exact ⟨ret_bool HF2.out, rfl⟩

set_option maxHeartbeats 1000000 in
theorem implValidPart (s : ByteArray) (w : World) (hl : s.size ≤ 140737488351232) :
    Calls Try.prog 77 #[.string s] w fun e w' => e = .returned (.bool (validP s)) ∧ Below w.heap.size w w' := by
  go_enter Try.func77, Try.ntmps77
  go_wp2
  go_loopw [] (fun w' => ∃ pos : Nat, pos ≤ s.size ∧ w' = w.iter s pos ∧ Hid (okTo s pos)) (fun w' => s.size - w'.iterPos w.heap.size)
  case atStart => exact ⟨0, by omega, rfl, Lib.hid (okTo_zero s)⟩
  case round =>
    obtain ⟨pos, hpl, rfl, ho⟩ := hrel
    by_cases hp : pos < s.size
    · have hnx : ∀ ty, (Instr.next (.pointer (some ⟨w.heap.size, 0, none⟩)) true ty).run Try.prog (w.iter s pos) = _ := fun ty => run_next_any w s pos ty hp
      by_cases hr : okR ((Utf8.decode s pos).1 : Int)
      · obtain ⟨h1, h2⟩ := rune_ok hp hr
        have HO := Lib.hid (okTo_succ ho.out hp h1)
        have HR := Lib.hid (decide_eq_true hr)
        rw [h2] at hnx
        clear hr h1 h2
        go_wp2_with fail
        refine (isPartRune _ _).mono ?_
        rintro e w2 ⟨rfl, rfl⟩
        rw [HR.out]
        go_wp2
        go_roundw
        case rel => exact ⟨pos + 1, by omega, rfl, HO⟩
        case measure => simp; omega
      · have HV := Lib.hid (validP_byte hp (rune_not hp hr))
        have HR := Lib.hid (decide_eq_false hr)
        clear hr
        go_wp2_with fail
        refine (isPartRune _ _).mono ?_
        rintro e w2 ⟨rfl, rfl⟩
        rw [HR.out]
        go_wp2
        go_ret
        exact ⟨ret_bool HV.out.symm, (Below.refl _ _).alloc (Nat.le_refl _) _⟩
    · obtain rfl : pos = s.size := by omega
      have hnx : ∀ ty, (Instr.next (.pointer (some ⟨w.heap.size, 0, none⟩)) true ty).run Try.prog (w.iter s s.size) = _ := fun ty => run_next_end w s s.size ty hp
      go_wp2_with fail
      refine (Num.implInRange _ _ _ _).mono ?_
      rintro e w2 ⟨rfl, rfl⟩
      go_wp2
      go_ret
      refine ⟨ret_bool ?_, (Below.refl _ _).alloc (Nat.le_refl _) _⟩
      have := ho.out
      simp only [Num.inB, validP, this, and_true]
      congr 1
      apply propext
      omega

set_option maxHeartbeats 1000000 in
theorem specValidPart (s : ByteArray) (w : World) (hl : s.size ≤ 140737488351232) :
    Calls Try.prog 75 #[.string s] w fun e w' => e = .returned (.bool (validP s)) ∧ w = w' := by
  by_cases hsz : 1 ≤ s.size ∧ s.size ≤ 8
  · obtain ⟨hs1, hs8⟩ := hsz
    go_enter Try.func75, Try.ntmps75
    go_wp2_with fail
    refine (Num.specIn_true (by omega) (by omega) _).mono ?_
    rintro e w2 ⟨rfl, rfl⟩
    go_wp2
    go_loop [3] (fun iv => ∃ k : Nat, k ≤ s.size ∧ iv = .int .i64 k ∧ Hid (okTo s k)) (fun iv => s.size - (intOf iv).toNat)
    case atStart => exact ⟨0, by omega, rfl, Lib.hid (okTo_zero s)⟩
    case round =>
      obtain ⟨k, hk, rfl, ho⟩ := hrel
      by_cases hlt : k < s.size
      · have hb := (s[k]'hlt).toNat_lt
        have hb0 : (0 : Int) ≤ ((s[k]'hlt).toNat : Int) := by omega
        have hb1 : ((s[k]'hlt).toNat : Int) ≤ 255 := by omega
        have HOK := Lib.hid (fun hc => okTo_succ ho.out hlt hc)
        have HNO := Lib.hid (fun hc => validP_byte hlt hc)
        clear hb
        go_wp2_with fail
        by_cases h1 : 97 ≤ ((s[k]'hlt).toNat : Int) ∧ ((s[k]'hlt).toNat : Int) ≤ 122
        · refine (Num.specIn_true h1.1 h1.2 _).mono ?_
          rintro e w2 ⟨rfl, rfl⟩
          have HO2 := Lib.hid (HOK.out (by unfold okR; omega))
          clear HOK HNO h1
          go_wp2
          go_round
          case rel => exact ⟨k + 1, by omega, by go_num, HO2⟩
          case measure => simp [intOf]; omega
        · refine (Num.specIn_false h1 _).mono ?_
          rintro e w2 ⟨rfl, rfl⟩
          go_wp2_with fail
          by_cases h2 : 48 ≤ ((s[k]'hlt).toNat : Int) ∧ ((s[k]'hlt).toNat : Int) ≤ 57
          · refine (Num.specIn_true h2.1 h2.2 _).mono ?_
            rintro e w2 ⟨rfl, rfl⟩
            have HO2 := Lib.hid (HOK.out (by unfold okR; omega))
            clear HOK HNO h1 h2
            go_wp2
            go_round
            case rel => exact ⟨k + 1, by omega, by go_num, HO2⟩
            case measure => simp [intOf]; omega
          · refine (Num.specIn_false h2 _).mono ?_
            rintro e w2 ⟨rfl, rfl⟩
            by_cases h3 : (s[k]'hlt).toNat = 45
            · have h3b : (((s[k]'hlt).toNat : Int) != 45) = false := by simp [h3]
              have HO2 := Lib.hid (HOK.out (by unfold okR; omega))
              clear HOK HNO h1 h2
              go_wp2
              go_round
              case rel => exact ⟨k + 1, by omega, by go_num, HO2⟩
              case measure => simp [intOf]; omega
            · have h3b : (((s[k]'hlt).toNat : Int) != 45) = true := by simp; omega
              have HV := Lib.hid (HNO.out (by unfold okR; omega))
              clear HOK HNO h1 h2 h3
              go_wp2
              go_ret
              exact ⟨ret_bool HV.out.symm, rfl⟩
      · obtain rfl : k = s.size := by omega
        have HV := Lib.hid (validP_true hs1 hs8 ho.out)
        go_wp2
        go_ret
        exact ⟨ret_bool HV.out.symm, rfl⟩
  · have HV := Lib.hid (validP_size hsz)
    go_enter Try.func75, Try.ntmps75
    go_wp2_with fail
    refine (Num.specIn_false (by omega) _).mono ?_
    rintro e w2 ⟨rfl, rfl⟩
    go_wp2
    go_ret
    exact ⟨ret_bool HV.out.symm, rfl⟩

end Go.Proofs.Ytbooamnlocobfaa.Row
/- Contracts of ValidName, the program's and the reference model's: a name is right where each part is and there are at most 6. No conditions but that lengths fit. -/
namespace Go.Proofs.Ytbooamnlocobfaa.Row
open Go.ChangeShapes Go.WideShapes Go.ChangeAt Go.RowKit Go.Instr
set_option linter.unusedVariables false
set_option maxRecDepth 100000

def validN (l : List ByteArray) : Bool := decide (l.length ≤ 6 ∧ ∀ x ∈ l, validP x = true)
def allV (l : List ByteArray) (k : Nat) : Prop := ∀ j, j < k → validP (nth l j) = true
theorem allV_zero (l : List ByteArray) : allV l 0 := fun j h => absurd h (by omega)
theorem allV_succ {l : List ByteArray} {k : Nat} (h : allV l k) (hc : validP (nth l k) = true) : allV l (k + 1) := fun j h1 => by
  by_cases e : j = k
  · subst e; exact hc
  · exact h j (by omega)
theorem validN_not {l : List ByteArray} {k : Nat} (hk : k < l.length) (hc : validP (nth l k) = false) : validN l = false := by
  unfold validN
  refine decide_eq_false (fun e => ?_)
  have := e.2 (nth l k) (by rw [nth_eq hk]; exact List.getElem_mem _)
  rw [hc] at this; cases this
theorem validN_all {l : List ByteArray} (h : allV l l.length) : validN l = decide (l.length ≤ 6) := by
  have : ∀ x ∈ l, validP x = true := by
    intro x hx
    obtain ⟨j, hj, rfl⟩ := List.getElem_of_mem hx
    have := h j hj
    rwa [nth_eq hj] at this
  unfold validN
  congr 1
  exact propext ⟨fun e => e.1, fun e => ⟨e, this⟩⟩
theorem validN_iff {l : List ByteArray} : validN l = true ↔ l.length ≤ 6 ∧ ∀ x ∈ l, validP x = true := by unfold validN; exact decide_eq_true_iff
theorem size_nth {l : List ByteArray} {m : Nat} (h : bulk l ≤ m) {k : Nat} (hk : k < l.length) : (nth l k).size ≤ m := by
  have h1 := bulkTo_succ l hk
  have h2 := bulkTo_le l (k + 1)
  omega

set_option maxHeartbeats 1000000 in
theorem implValidName (v : Value) (l : List ByteArray) (w : World) (h : Holds Value.string w v l) (hl : bulk l ≤ 100000000) :
    Calls Try.prog 44 #[.agg #[v]] w fun e w' => e = .returned (.bool (validN l)) ∧ Below w.heap.size w w' := by
  obtain ⟨x, cap, rfl, hcap, hh⟩ := h.shape
  have hll := bigLen hl
  have HS := Lib.hid (fun k (hk : k < l.length) => size_nth hl hk)
  obtain ⟨n, hn⟩ : ∃ n, n = l.length := ⟨_, rfl⟩
  rw [← hn] at hcap hh hll ⊢
  have HN := Lib.hid hn
  have HH := Lib.hid hh
  have HB0 := Lib.hid ((Below.refl w.heap.size w).alloc (Nat.le_refl _) (.cells #[.slice x n cap] 30))
  have HC0 := Lib.hid (Ret.cell_at (w := w) (u := .slice x n cap) (t := 30) (n := w.heap.size) rfl)
  clear hn h hh hl
  go_enter Try.func44, Try.ntmps44
  go_wp2_with fail
  go_loopw [8] (fun i wr => ∃ k : Nat, k ≤ n ∧ i = .int .i64 k ∧ Hid (allV l k) ∧ Hid (Below w.heap.size w wr) ∧ Hid (wr.cell? ⟨w.heap.size, 0, none⟩ = some (.slice x n cap))) (fun i _ => n - (intOf i).toNat)
  case atStart => exact ⟨0, Nat.zero_le _, rfl, Lib.hid (allV_zero _), HB0, HC0⟩
  case round =>
    obtain ⟨k, hk, rfl, ha, hb, hc0⟩ := hrel
    by_cases hlt : k < n
    · have hlen := HN.out
      obtain ⟨b, off, rfl, hc⟩ := (HH.out.on hb.out).at (j := k) (by omega)
      have hsz := HS.out k (by omega)
      clear hlen
      go_wp2_with fail
      refine (implValidPart _ _ (by omega)).mono ?_
      rintro e w2 ⟨rfl, hb2⟩
      have HB2 := Lib.hid (hb.out.trans (hb2.mono hb.out.size))
      have HC2 := Lib.hid ((hb2.cell (cell_lt hc0.out)).trans hc0.out)
      clear hb2 hc
      by_cases hv : validP (nth l k) = true
      · rw [hv]
        have HA2 := Lib.hid (allV_succ ha.out hv)
        clear hv
        go_wp2
        go_roundw
        case rel => exact ⟨k + 1, by omega, by go_num, HA2, HB2, HC2⟩
        case measure => simp [intOf]; omega
      · have hv2 : validP (nth l k) = false := by simpa using hv
        rw [hv2]
        have HV := Lib.hid (validN_not (by have := HN.out; omega) hv2)
        clear hv hv2
        go_wp2
        go_ret
        exact ⟨ret_bool HV.out.symm, HB2.out⟩
    · obtain rfl : k = n := by omega
      have HV := Lib.hid (validN_all (HN.out ▸ ha.out))
      have hc0 := hc0.out
      clear hlt
      go_wp2
      go_ret
      refine ⟨ret_bool ?_, hb.out⟩
      rw [HV.out, ← HN.out]
      simp
      omega

set_option maxHeartbeats 1000000 in
theorem specValidName (v : Value) (l : List ByteArray) (w : World) (h : Holds Value.string w v l) (hl : bulk l ≤ 100000000) :
    Calls Try.prog 41 #[.agg #[v]] w fun e w' => e = .returned (.bool (validN l)) ∧ Below w.heap.size w w' := by
  obtain ⟨x, cap, rfl, hcap, hh⟩ := h.shape
  have hll := bigLen hl
  have HS := Lib.hid (fun k (hk : k < l.length) => size_nth hl hk)
  obtain ⟨n, hn⟩ : ∃ n, n = l.length := ⟨_, rfl⟩
  rw [← hn] at hcap hh hll ⊢
  have HN := Lib.hid hn
  have HH := Lib.hid hh
  have HB0 := Lib.hid ((Below.refl w.heap.size w).alloc (Nat.le_refl _) (.cells #[.slice x n cap] 30))
  have HC0 := Lib.hid (Ret.cell_at (w := w) (u := .slice x n cap) (t := 30) (n := w.heap.size) rfl)
  clear hn h hh hl
  go_enter Try.func41, Try.ntmps41
  go_wp2_with fail
  go_loopw [3] (fun i wr => ∃ k : Nat, k ≤ n ∧ i = .int .i64 k ∧ Hid (allV l k) ∧ Hid (Below w.heap.size w wr) ∧ Hid (wr.cell? ⟨w.heap.size, 0, none⟩ = some (.slice x n cap))) (fun i _ => n - (intOf i).toNat)
  case atStart => exact ⟨0, Nat.zero_le _, rfl, Lib.hid (allV_zero _), HB0, HC0⟩
  case round =>
    obtain ⟨k, hk, rfl, ha, hb, hc0⟩ := hrel
    by_cases hlt : k < n
    · have hlen := HN.out
      obtain ⟨b, off, rfl, hc⟩ := (HH.out.on hb.out).at (j := k) (by omega)
      have hsz := HS.out k (by omega)
      have hc1 := hc0.out
      clear hlen
      go_wp2_with fail
      refine (specValidPart _ _ (by omega)).mono ?_
      rintro e w2 ⟨rfl, rfl⟩
      clear hc
      by_cases hv : validP (nth l k) = true
      · rw [hv]
        have HA2 := Lib.hid (allV_succ ha.out hv)
        clear hv
        go_wp2
        go_roundw
        case rel => exact ⟨k + 1, by omega, by go_num, HA2, hb, hc0⟩
        case measure => simp [intOf]; omega
      · have hv2 : validP (nth l k) = false := by simpa using hv
        rw [hv2]
        have HV := Lib.hid (validN_not (by have := HN.out; omega) hv2)
        clear hv hv2
        go_wp2
        go_ret
        exact ⟨ret_bool HV.out.symm, hb.out⟩
    · obtain rfl : k = n := by omega
      have HV := Lib.hid (validN_all (HN.out ▸ ha.out))
      have hc0 := hc0.out
      clear hlt
      go_wp2
      go_ret
      refine ⟨ret_bool ?_, hb.out⟩
      rw [HV.out, ← HN.out]
      simp
      omega

end Go.Proofs.Ytbooamnlocobfaa.Row
/- Contracts of EncodeInts, the reference model's and the program's: the numbers' groups, one number after the other, in memory of the call's own. No conditions but that lengths fit. -/
namespace Go.Proofs.Ytbooamnlocobfaa.Sl
open Go.ChangeShapes Go.WideShapes Go.ChangeAt Go.RowKit Go.Instr
set_option linter.unusedVariables false
set_option maxRecDepth 100000

/-- The groups of the first k numbers. -/
def encs (l : List Int) : List Int := l.flatMap Var.var
theorem encs_len (l : List Int) : (encs l).length ≤ 6 * l.length := by
  unfold encs
  induction l with
  | nil => simp
  | cons x r ih =>
    have := Var.var_len x
    rw [List.flatMap_cons, List.length_append, List.length_cons]; omega
theorem encs_step {l : List Int} {k : Nat} (h : k < l.length) : encs (l.take (k + 1)) = encs (l.take k) ++ Var.var (nth l k) := by
  unfold encs
  rw [List.take_succ_eq_append_getElem h, List.flatMap_append, nth_eq h]; simp
theorem encs_take_len (l : List Int) (k : Nat) : (encs (l.take k)).length ≤ 6 * l.length := by
  have h1 := encs_len (l.take k)
  have h2 : (l.take k).length ≤ l.length := List.length_take_le' _ _
  omega

set_option maxHeartbeats 1000000 in
theorem specEncodeInts (v : Value) (l : List Int) (w : World) (h : Holds .i64 w v l) (hl : l.length ≤ 10000000) :
    Calls Try.prog 60 #[v] w (GivesB w (encs l)) := by
  obtain ⟨x, cap, rfl, hcap, hh⟩ := h.shape
  obtain ⟨n, hn⟩ : ∃ n, n = l.length := ⟨_, rfl⟩
  rw [← hn] at hcap hh hl ⊢
  have HN := Lib.hid hn; have HH := Lib.hid hh
  clear hn h hh
  have H0 := Lib.hid (own_empty .u8 5 w)
  have B0 := Lib.hid ((Below.refl w.heap.size w).alloc (Nat.le_refl _) (.cells #[] 5))
  go_enter Try.func60, Try.ntmps60
  go_wp2_with fail
  go_loopw [3, 4] (fun bv iv wr => ∃ k : Nat, k ≤ n ∧ iv = .int .i64 k ∧ Hid (Own 5 .u8 w.heap.size wr bv (encs (l.take k))) ∧ Hid (Below w.heap.size w wr)) (fun _ iv _ => n - (intOf iv).toNat)
  case atStart => exact ⟨0, Nat.zero_le _, rfl, H0, B0⟩
  case round =>
    obtain ⟨k, hk, rfl, ho, hb⟩ := hrel
    by_cases hlt : k < n
    · have hlen := HN.out
      obtain ⟨b, off, rfl, hc⟩ := (HH.out.on hb.out).at (j := k) (by omega)
      have HS := Lib.hid (encs_step (l := l) (k := k) (by omega))
      have hel := encs_take_len l k
      have hel2 : (encs (l.take k)).length ≤ 100000000 := by omega
      clear hlen hel
      go_wp2_with fail
      refine (specAppendVarint _ _ (nth l k) _ ho.out.holds hel2).mono ?_
      rintro e w2 ⟨v2, rfl, ho2, hb2⟩
      have HO2 := Lib.hid (ho2.mono hb.out.size); have HB2 := Lib.hid (hb.out.trans (hb2.mono hb.out.size))
      clear ho2 hb2
      go_wp2_with fail
      go_roundw
      case rel => exact ⟨k + 1, by omega, by go_num, by rw [HS.out]; exact HO2, HB2⟩
      case measure => simp [intOf]; omega
    · obtain rfl : k = n := by omega
      clear hlt
      go_wp2_with fail
      go_ret
      refine ⟨_, rfl, ?_, hb.out⟩
      have := ho.out
      rw [HN.out, List.take_length] at this
      exact this

set_option maxHeartbeats 1000000 in
theorem implEncodeInts (v : Value) (l : List Int) (w : World) (h : Holds .i64 w v l) (hl : l.length ≤ 10000000) :
    Calls Try.prog 63 #[v] w (GivesB w (encs l)) := by
  obtain ⟨x, cap, rfl, hcap, hh⟩ := h.shape
  obtain ⟨n, hn⟩ : ∃ n, n = l.length := ⟨_, rfl⟩
  rw [← hn] at hcap hh hl ⊢
  have HN := Lib.hid hn; have HH := Lib.hid hh
  clear hn h hh
  have H0 := Lib.hid (own_empty .u8 5 w)
  have B0 := Lib.hid ((Below.refl w.heap.size w).alloc (Nat.le_refl _) (.cells #[] 5))
  go_enter Try.func63, Try.ntmps63
  go_wp2_with fail
  go_loopw [3, 9] (fun bv iv wr => ∃ k : Nat, k ≤ n ∧ iv = .int .i64 k ∧ Hid (Own 5 .u8 w.heap.size wr bv (encs (l.take k))) ∧ Hid (Below w.heap.size w wr)) (fun _ iv _ => n - (intOf iv).toNat)
  case atStart => exact ⟨0, Nat.zero_le _, rfl, H0, B0⟩
  case round =>
    obtain ⟨k, hk, rfl, ho, hb⟩ := hrel
    by_cases hlt : k < n
    · have hlen := HN.out
      obtain ⟨b, off, rfl, hc⟩ := (HH.out.on hb.out).at (j := k) (by omega)
      have HS := Lib.hid (encs_step (l := l) (k := k) (by omega))
      have hel := encs_take_len l k
      have hel2 : (encs (l.take k)).length ≤ 100000000 := by omega
      clear hlen hel
      by_cases hin : 0 ≤ nth l k ∧ nth l k ≤ 1000000000000
      · obtain ⟨i1, i2⟩ := hin
        go_wp2_with fail
        refine (addVarint w.heap.size _ _ (nth l k) _ (Or.inl ho.out) hb.out.size hel2 i1 i2).mono ?_
        rintro e w2 ⟨v2, rfl, ho2, hb2⟩
        have HO2 := Lib.hid ho2; have HB2 := Lib.hid (hb.out.trans hb2)
        clear ho2 hb2
        go_wp2_with fail
        go_roundw
        case rel => exact ⟨k + 1, by omega, by go_num, by rw [HS.out]; exact HO2, HB2⟩
        case measure => simp [intOf]; omega
      · have HV := Lib.hid (Var.var_out hin)
        have HIN := Lib.hid hin; clear hin
        go_wp2_with fail
        refine (addVarint_out _ (nth l k) _ HIN.out).mono ?_
        rintro e w2 ⟨rfl, rfl⟩
        go_wp2_with fail
        go_roundw
        case rel => exact ⟨k + 1, by omega, by go_num, by rw [HS.out, HV.out, List.append_nil]; exact ho, hb⟩
        case measure => simp [intOf]; omega
    · obtain rfl : k = n := by omega
      clear hlt
      go_wp2_with fail
      go_ret
      refine ⟨_, rfl, ?_, hb.out⟩
      have := ho.out
      rw [HN.out, List.take_length] at this
      exact this
end Go.Proofs.Ytbooamnlocobfaa.Sl
/- Contracts of the library's slices.Grow at the nil slice, slices.Concat, slices.Equal and slices.Clone at slices of strings. No conditions but that lengths fit. -/
namespace Go.Proofs.Ytbooamnlocobfaa.Row
open Go.ChangeShapes Go.WideShapes Go.ChangeAt Go.RowKit Go.Instr
set_option linter.unusedVariables false
set_option maxRecDepth 100000

/-- What a call of a function that returns a slice of strings of the call's own leaves. -/
def GivesS (w : World) (l : List ByteArray) (e : Ending) (w' : World) : Prop := ∃ v, e = .returned v ∧ Own 9 Value.string w.heap.size w' v l ∧ Below w.heap.size w w'
theorem own_one {α : Type} [Inhabited α] (enc : α → Value) (e : TypeId) (w : World) (x : α) : Own e enc w.heap.size (w.alloc (.cells #[enc x] e)) (.slice (some ⟨w.heap.size, 0, none⟩) 1 1) [x] :=
  World.ownsRow_lit w #[enc x] 1 (Nat.le_refl _) (by unfold maxLen; omega) rfl

/-- The first k lists, one behind the other. -/
def cat (ls : Nat → List ByteArray) : Nat → List ByteArray
  | 0 => []
  | k + 1 => cat ls k ++ ls k
theorem cat_mono (ls : Nat → List ByteArray) {k n : Nat} (h : k ≤ n) : (cat ls k).length ≤ (cat ls n).length := by
  induction n with
  | zero => obtain rfl : k = 0 := by omega
            exact Nat.le_refl _
  | succ n ih =>
    by_cases e : k = n + 1
    · subst e; exact Nat.le_refl _
    · have := ih (by omega)
      simp only [cat, List.length_append]; omega

theorem libEqS_len (x y : Option Addr) (n m cx cy : Nat) (w : World) (h : (((n : Nat) : Int) != ((m : Nat) : Int)) = true) :
    Calls Try.prog 96 #[.slice x n cx, .slice y m cy] w fun e w' => e = .returned (.bool false) ∧ w = w' := by
  go_enter Try.func96, Try.ntmps96
  go_wp2
  go_ret
  exact ⟨rfl, rfl⟩

set_option maxHeartbeats 1000000 in
theorem libEqS (v u : Value) (l m : List ByteArray) (w : World) (h : Holds Value.string w v l) (g : Holds Value.string w u m) (hl : l.length ≤ 140737488351232) (hm : m.length ≤ 140737488351232) :
    Calls Try.prog 96 #[v, u] w fun e w' => e = .returned (.bool (eqB l m)) ∧ Below w.heap.size w w' := by
  obtain ⟨x, cx, rfl, hcx, hh⟩ := h.shape
  obtain ⟨y, cy, rfl, hcy, hg⟩ := g.shape
  by_cases he : l.length = m.length
  · obtain ⟨n, hn⟩ : ∃ n, n = l.length := ⟨_, rfl⟩
    rw [← he] at hg hm hcy ⊢
    rw [← hn] at hcx hh hl hg hm hcy ⊢
    have HE := Lib.hid he
    have HN := Lib.hid hn
    have HH := Lib.hid hh
    have HG := Lib.hid hg
    have htest : (((n : Nat) : Int) != ((n : Nat) : Int)) = false := by simp
    clear hn h hh g hg he
    go_enter Try.func96, Try.ntmps96
    go_wp2
    go_loopw [13] (fun i wr => ∃ k nq : Nat, k ≤ n ∧ i = .int .i64 k ∧ Hid (agree l m k) ∧ wr = w.drewN nq) (fun i _ => n - (intOf i).toNat)
    case atStart => exact ⟨0, 0, Nat.zero_le _, rfl, Lib.hid (agree_zero _ _), rfl⟩
    case round =>
      obtain ⟨k, nq, hk, rfl, ha, rfl⟩ := hrel
      by_cases hlt : k < n
      · have hlen := HN.out
        have hlen2 := HE.out
        obtain ⟨b, off, rfl, hc⟩ := HH.out.at (j := k) (by omega)
        obtain ⟨b', off', rfl, hc'⟩ := HG.out.at (j := k) (by omega)
        clear hlen hlen2
        by_cases hd : nth l k = nth m k
        · have hd2 := tl_eq hd
          have HD := Lib.hid hd; clear hd
          go_wp2_with fail
          go_quiet (fail)
          go_wp2_with fail
          go_roundw
          case rel => exact ⟨k + 1, _, by omega, by go_num, Lib.hid (agree_succ ha.out HD.out), rfl⟩
          case measure => simp [intOf]; omega
        · have hd2 := tl_ne hd
          have HD := Lib.hid (eqB_false (differ_at hd)); clear hd
          go_wp2_with fail
          go_quiet (fail)
          go_wp2_with fail
          go_ret
          exact ⟨ret_bool HD.out.symm, below_drewN (below_drewN (Below.refl _ _) _) _⟩
      · obtain rfl : k = n := by omega
        have HD := Lib.hid (eqB_true (agree_all HE.out (HN.out ▸ ha.out)))
        clear hlt
        go_wp2
        go_ret
        exact ⟨ret_bool HD.out.symm, below_drewN (Below.refl _ _) _⟩
  · have htest : (((l.length : Nat) : Int) != ((m.length : Nat) : Int)) = true := by
      rw [bne_iff_ne]; omega
    rw [eqB_false (fun e => he (by rw [e]))]
    exact (libEqS_len x y _ _ cx cy w htest).mono fun e w' ⟨h1, h2⟩ => ⟨h1, by subst h2; exact Below.refl _ _⟩

set_option maxHeartbeats 1000000 in
theorem cloneS (v : Value) (l : List ByteArray) (w : World) (h : Holds Value.string w v l) (hl : l.length ≤ 10000000) :
    Calls Try.prog 103 #[v] w (GivesS w l) := by
  obtain ⟨x, cx, rfl, hcx, hh⟩ := h.shape
  cases x with
  | none =>
    have hl0 : l = [] := by
      obtain ⟨x', cap', hv, hc', hh'⟩ := hh
      cases hv
      rcases hh' with h1 | ⟨b, off, h1, _⟩
      · exact h1
      · cases h1
    subst hl0
    have hq : ∀ w : World, (binOp .eql 22 (.slice none 0 cx) (.slice none 0 0)).run Try.prog w = .ok (.bool true) w := fun w => by
      exact Lib.run_eql_slice_nil w _ _ _ _ _ _ _ Try.underlying22
    clear hh h
    simp only [List.length_nil]
    go_enter Try.func103, Try.ntmps103
    go_wp2
    go_ret
    exact ⟨_, rfl, Own.nil _ _ _ _, Below.refl _ _⟩
  | some ad =>
    have HB := Lib.hid ((Below.refl w.heap.size w).alloc (Nat.le_refl _) (.cells #[] 9))
    have HH := Lib.hid (hh.on HB.out)
    have HO := Lib.hid (own_empty Value.string 9 w)
    have hq : ∀ w : World, (binOp .eql 22 (.slice (some ad) l.length cx) (.slice none 0 0)).run Try.prog w = .ok (.bool false) w := fun w => by
      exact Lib.run_eql_slice_nil w _ _ _ _ _ _ _ Try.underlying22
    clear hh h
    go_enter Try.func103, Try.ntmps103
    go_wp2_with (at_builtin; refine wpList_app (enc := Value.string) (B := w.heap.size) (l := []) (m := l) rfl _ _ rfl Try.underlying22 elemSTR rfl rfl rfl HO.out HH.out oneStr (by simp; omega) (by unfold maxLen; simp; omega) (by simp) ?_)
    intro v2 w2 ho hg
    have HO2 := Lib.hid ho; have HB2 := Lib.hid (HB.out.grown hg (by simp) (fun g hh => (HO.out.lt g hh).1))
    clear ho hg
    go_wp2_with fail
    go_ret
    exact ⟨_, rfl, HO2.out, HB2.out⟩

end Go.Proofs.Ytbooamnlocobfaa.Row
/- Contracts of CompareNames and EqualNames, the program's and the reference model's, and of the library's Compare and Equal on slices of strings: parts are compared one by one, byte by byte, then the lengths. No conditions but that lengths fit. -/
namespace Go.Proofs.Ytbooamnlocobfaa.Row
open Go.ChangeShapes Go.WideShapes Go.ChangeAt Go.RowKit Go.Instr
set_option linter.unusedVariables false
set_option maxRecDepth 100000

def cmpS (a b : ByteArray) : Int := if Op.bytesLess a.toList b.toList = true then -1 else if a.toList = b.toList then 0 else 1
theorem cmpS_lt {a b : ByteArray} (h : Op.bytesLess a.toList b.toList = true) : cmpS a b = -1 := by simp [cmpS, h]
theorem cmpS_eq {a b : ByteArray} (h : Op.bytesLess a.toList b.toList = false) (he : (a.toList == b.toList) = true) : cmpS a b = 0 := by
  have : a.toList = b.toList := by simpa using he
  rw [cmpS, h, this]; simp
theorem cmpS_gt {a b : ByteArray} (h : Op.bytesLess a.toList b.toList = false) (he : (a.toList == b.toList) = false) : cmpS a b = 1 := by
  have : a.toList ≠ b.toList := by simpa using he
  simp [cmpS, h, this]
theorem cmpS_in (a b : ByteArray) : -1 ≤ cmpS a b ∧ cmpS a b ≤ 1 := by
  unfold cmpS; split
  · omega
  · split <;> omega
def cmpL : List ByteArray → List ByteArray → Int
  | [], [] => 0
  | [], _ :: _ => -1
  | _ :: _, [] => 1
  | a :: x, b :: y => if cmpS a b = 0 then cmpL x y else cmpS a b
theorem drop_nth {α : Type} [Inhabited α] {l : List α} {k : Nat} (h : k < l.length) : l.drop k = nth l k :: l.drop (k + 1) := by
  rw [nth_eq h]; exact List.drop_eq_getElem_cons h
theorem cmpL_same {a b : List ByteArray} {k : Nat} (h : k < a.length) (g : k < b.length) (hc : cmpS (nth a k) (nth b k) = 0) : cmpL (a.drop k) (b.drop k) = cmpL (a.drop (k + 1)) (b.drop (k + 1)) := by
  rw [drop_nth h, drop_nth g]; simp [cmpL, hc]
theorem cmpL_diff {a b : List ByteArray} {k : Nat} (h : k < a.length) (g : k < b.length) (hc : cmpS (nth a k) (nth b k) ≠ 0) : cmpL (a.drop k) (b.drop k) = cmpS (nth a k) (nth b k) := by
  rw [drop_nth h, drop_nth g]; simp [cmpL, hc]
theorem cmpL_long {a b : List ByteArray} {k : Nat} (h : k < a.length) (g : k = b.length) : cmpL (a.drop k) (b.drop k) = 1 := by
  rw [drop_nth h, g, List.drop_length]; rfl
theorem cmpL_short {a b : List ByteArray} {k : Nat} (h : k = a.length) (g : k < b.length) : cmpL (a.drop k) (b.drop k) = -1 := by
  rw [drop_nth g, h, List.drop_length]; rfl
theorem cmpL_both {a b : List ByteArray} {k : Nat} (h : k = a.length) (g : k = b.length) : cmpL (a.drop k) (b.drop k) = 0 := by
  rw [h, List.drop_length, ← h, g, List.drop_length]; rfl
theorem cmpL_in : ∀ a b, -1 ≤ cmpL a b ∧ cmpL a b ≤ 1
  | [], [] => by simp [cmpL]
  | [], _ :: _ => by simp [cmpL]
  | _ :: _, [] => by simp [cmpL]
  | a :: x, b :: y => by
    unfold cmpL
    split
    · exact cmpL_in x y
    · exact cmpS_in a b

set_option maxHeartbeats 1000000 in
theorem l4Cmp (a b : ByteArray) (w : World) : Calls Try.prog 106 #[.string a, .string b] w fun e w' => e = .returned (.int .i64 (cmpS a b)) ∧ w = w' := by
  cases h : Op.bytesLess a.toList b.toList with
  | true =>
    have HC := Lib.hid (cmpS_lt h)
    go_enter Try.func106, Try.ntmps106
    go_wp2
    go_ret
    exact ⟨ret_int HC.out.symm, rfl⟩
  | false =>
    cases he : (a.toList == b.toList) with
    | true =>
      have HC := Lib.hid (cmpS_eq h he)
      go_enter Try.func106, Try.ntmps106
      go_wp2
      go_ret
      exact ⟨ret_int HC.out.symm, rfl⟩
    | false =>
      have HC := Lib.hid (cmpS_gt h he)
      go_enter Try.func106, Try.ntmps106
      go_wp2
      go_ret
      exact ⟨ret_int HC.out.symm, rfl⟩

theorem quiet_add_left {P : Program} {f : FuncId} {args : Array Value} {w : World} {a n : Nat} {v : Value}
    (h : Calls P f args (w.drewN (a + n)) fun e w' => e = .returned v ∧ w.drewN (a + n) = w') :
    Calls P f args (w.drewN (a + n)) fun e w'' => e = .returned v ∧ ∃ m, w'' = w.drewN (a + m) :=
  h.mono fun _ _ ⟨he, hm⟩ => ⟨he, n, hm.symm⟩
theorem quiet_left {P : Program} {f : FuncId} {args : Array Value} {w : World} {n : Nat} {v : Value}
    (h : Calls P f args (w.drewN n) fun e w' => e = .returned v ∧ w.drewN n = w') : Calls P f args (w.drewN n) fun e w'' => e = .returned v ∧ ∃ m, w'' = w.drewN m :=
  h.mono fun _ _ ⟨he, hm⟩ => ⟨he, n, hm.symm⟩
theorem l4CmpV (a b : ByteArray) (c : Int) (w : World) (h : cmpS a b = c) : Calls Try.prog 106 #[.string a, .string b] w fun e w' => e = .returned (.int .i64 c) ∧ w = w' := h ▸ l4Cmp a b w

set_option maxHeartbeats 1000000 in
theorem specCompareNames (v u : Value) (l m : List ByteArray) (w : World) (h : Holds Value.string w v l) (g : Holds Value.string w u m) (hl : l.length ≤ 140737488351232) (hm : m.length ≤ 140737488351232) :
    Calls Try.prog 95 #[.agg #[v], .agg #[u]] w fun e w' => e = .returned (.int .i64 (cmpL l m)) ∧ Below w.heap.size w w' := by
  obtain ⟨x, cx, rfl, hcx, hh⟩ := h.shape
  obtain ⟨y, cy, rfl, hcy, hg⟩ := g.shape
  obtain ⟨n, hn⟩ : ∃ n, n = l.length := ⟨_, rfl⟩
  obtain ⟨q, hq⟩ : ∃ q, q = m.length := ⟨_, rfl⟩
  rw [← hn] at hcx hh hl ⊢
  rw [← hq] at hcy hg hm ⊢
  have HB := Lib.hid (((Below.refl w.heap.size w).alloc (Nat.le_refl _) (.cells #[.slice x n cx] 30)).alloc (Nat.le_trans (Nat.le_refl _) (by simp)) (.cells #[.slice y q cy] 30))
  have HN := Lib.hid hn; have HQ := Lib.hid hq; have HH := Lib.hid (hh.on HB.out); have HG := Lib.hid (hg.on HB.out)
  clear hn hq h hh g hg
  go_enter Try.func95, Try.ntmps95
  go_wp2_with fail
  go_loopw [5] (fun i wr => ∃ k nq : Nat, k ≤ n ∧ k ≤ q ∧ i = .int .i64 k ∧ wr = ((w.alloc (.cells #[.slice x n cx] 30)).alloc (.cells #[.slice y q cy] 30)).drewN nq ∧ Hid (cmpL l m = cmpL (l.drop k) (m.drop k))) (fun i _ => n - (intOf i).toNat)
  case atStart => exact ⟨0, 0, Nat.zero_le _, Nat.zero_le _, rfl, rfl, Lib.hid (by simp)⟩
  case round =>
    obtain ⟨k, nq, hk, hkq, rfl, rfl, hc⟩ := hrel
    by_cases hlt : k < n
    · have hlen := HN.out
      by_cases hlq : k < q
      · have hlen2 := HQ.out
        obtain ⟨b, off, rfl, hcx1⟩ := HH.out.at (j := k) (by omega)
        obtain ⟨b', off', rfl, hcy1⟩ := HG.out.at (j := k) (by omega)
        by_cases hd : cmpS (nth l k) (nth m k) = 0
        · have HC := Lib.hid (hc.out.trans (cmpL_same (by omega) (by omega) hd))
          have HD := Lib.hid hd
          clear hlen hlen2 hd
          go_wp2_with fail
          go_quiet ((go_at_call 106; first | exact quiet_add_left (l4CmpV _ _ 0 _ HD.out) | exact quiet_left (l4CmpV _ _ 0 _ HD.out)))
          go_wp2_with fail
          go_roundw
          case rel => exact ⟨k + 1, _, by omega, by omega, by go_num, rfl, HC⟩
          case measure => simp [intOf]; omega
        · have HC := Lib.hid (hc.out.trans (cmpL_diff (by omega) (by omega) hd))
          obtain ⟨c, hce⟩ : ∃ c, c = cmpS (nth l k) (nth m k) := ⟨_, rfl⟩
          have HE := Lib.hid hce
          rw [← hce] at hd
          have hd2 : (c != 0) = true := by simpa using hd
          have hcin := cmpS_in (nth l k) (nth m k)
          rw [← hce] at hcin
          obtain ⟨hc1, hc2⟩ := hcin
          clear hlen hlen2 hd hce
          go_wp2_with fail
          go_quiet ((go_at_call 106; first | exact quiet_add_left (l4CmpV _ _ c _ HE.out.symm) | exact quiet_left (l4CmpV _ _ c _ HE.out.symm)))
          go_wp2_with fail
          go_ret
          exact ⟨ret_int (HE.out.trans HC.out.symm), below_drewN HB.out _⟩
      · obtain rfl : k = q := by omega
        have HC := Lib.hid (hc.out.trans (cmpL_long (by omega) HQ.out))
        clear hlen
        go_wp2
        go_ret
        exact ⟨ret_int HC.out.symm, below_drewN HB.out _⟩
    · obtain rfl : k = n := by omega
      by_cases hlq : k < q
      · have HC := Lib.hid (hc.out.trans (cmpL_short HN.out (by have := HQ.out; omega)))
        go_wp2
        go_ret
        exact ⟨ret_int HC.out.symm, below_drewN HB.out _⟩
      · obtain rfl : k = q := by omega
        have HC := Lib.hid (hc.out.trans (cmpL_both HN.out HQ.out))
        go_wp2
        go_ret
        exact ⟨ret_int HC.out.symm, below_drewN HB.out _⟩

end Go.Proofs.Ytbooamnlocobfaa.Row
/- Contracts of Truncate, EqualNames and HasPrefix, the program's and the reference model's. No conditions but that lengths fit. -/
namespace Go.Proofs.Ytbooamnlocobfaa.Row
open Go.ChangeShapes Go.WideShapes Go.ChangeAt Go.RowKit Go.Instr
set_option linter.unusedVariables false
set_option maxRecDepth 100000

section
variable {α : Type} [Inhabited α] {enc : α → Value} {w : World} {x : Option Addr} {n cap : Nat} {l : List α}
theorem Holds.take (h : Holds enc w (.slice x n cap) l) {j : Nat} (hj : j ≤ l.length) : Holds enc w (.slice x j cap) (l.take j) := by
  obtain ⟨x', cap', hv, hc, hh⟩ := h
  cases hv
  have hl : (l.take j).length = j := by simp; omega
  refine ⟨x, cap, by rw [hl], by omega, ?_⟩
  rcases hh with rfl | ⟨b, off, hx, hh⟩
  · left; simp
  · refine Or.inr ⟨b, off, hx, fun i hi => ?_⟩
    rw [hl] at hi
    rw [hh i (by omega), nth_eq (by omega), nth_eq (by omega)]
    simp
theorem Holds.drop {b off : Nat} (h : Holds enc w (.slice (some ⟨b, off, none⟩) n cap) l) {j : Nat} (hj : j ≤ l.length) : Holds enc w (.slice (some ⟨b, off + j, none⟩) (n - j) (cap - j)) (l.drop j) := by
  obtain ⟨x', cap', hv, hc, hh⟩ := h
  cases hv
  have hl : (l.drop j).length = l.length - j := by simp
  refine ⟨_, cap - j, by rw [hl], by omega, ?_⟩
  rcases hh with rfl | ⟨b', off', hx, hh⟩
  · left; simp
  · cases hx
    refine Or.inr ⟨b, off + j, rfl, fun i hi => ?_⟩
    rw [hl] at hi
    rw [Nat.add_assoc, hh (j + i) (by omega), nth_eq (by omega), nth_eq (by omega)]
    simp
end

/-- What a call that returns a name of its own leaves; a name and a bool; a name that lies somewhere. -/
def GivesN (w : World) (l : List ByteArray) (e : Ending) (w' : World) : Prop := ∃ v, e = .returned (.agg #[v]) ∧ Own 9 Value.string w.heap.size w' v l ∧ Below w.heap.size w w'
def GivesNB (w : World) (l : List ByteArray) (b : Bool) (e : Ending) (w' : World) : Prop := ∃ v, e = .returned (.tuple #[.agg #[v], .bool b]) ∧ Own 9 Value.string w.heap.size w' v l ∧ Below w.heap.size w w'
def GivesHB (w : World) (l : List ByteArray) (b : Bool) (e : Ending) (w' : World) : Prop := ∃ v, e = .returned (.tuple #[.agg #[v], .bool b]) ∧ Holds Value.string w' v l ∧ Below w.heap.size w w'

def trI (l : List ByteArray) (k : Int) : Nat := (Num.maxI 0 (Num.minI k l.length)).toNat
theorem trI_le (l : List ByteArray) (k : Int) : trI l k ≤ l.length := by unfold trI Num.maxI Num.minI; split <;> split <;> omega
theorem trI_eq (l : List ByteArray) (k : Int) : Num.maxI 0 (Num.minI k l.length) = (trI l k : Nat) := by unfold trI Num.maxI Num.minI; split <;> split <;> omega
def trN (l : List ByteArray) (k : Int) : List ByteArray := l.take (trI l k)
theorem trN_len (l : List ByteArray) (k : Int) : (trN l k).length ≤ l.length := by simp [trN]; omega
theorem aggN : Ret.AggOf Try.prog 30 1 := by unfold Ret.AggOf; exact ⟨by kernel_rfl, by kernel_rfl⟩

/-- A name lies in its result cell: the last step of a function that returns a name. -/
theorem endN {w w1 : World} {g B : Nat} {v u : Value} {l : List ByteArray} (hw : w.heap.size ≤ g) (hgB : g < B) (ho : Own 9 Value.string B w1 v l) (hc : w1.cell? ⟨g, 0, none⟩ = some u) (hb : Below w.heap.size w w1) :
    (w1.setCell ⟨g, 0, none⟩ v).cell? ⟨g, 0, none⟩ = some v ∧ Own 9 Value.string w.heap.size (w1.setCell ⟨g, 0, none⟩ v) v l ∧ Below w.heap.size w (w1.setCell ⟨g, 0, none⟩ v) :=
  ⟨Ret.set_same hc, (ho.grown (Ret.grownBy_set w1 ⟨g, 0, none⟩ v) (nb ho hgB)).mono (by omega), hb.setCell hw _⟩

theorem implMinV (a b c : Int) (w : World) (h : Num.minI a b = c) : Calls Try.prog 108 #[.int .i64 a, .int .i64 b] w fun e w' => e = .returned (.int .i64 c) ∧ Below w.heap.size w w' := h ▸ Num.implMin a b w
end Go.Proofs.Ytbooamnlocobfaa.Row
/- Contracts of EqualNames and HasPrefix, the program's and the reference model's. No conditions but that lengths fit. -/
namespace Go.Proofs.Ytbooamnlocobfaa.Row
open Go.ChangeShapes Go.WideShapes Go.ChangeAt Go.RowKit Go.Instr
set_option linter.unusedVariables false
set_option maxRecDepth 100000

theorem less_irrefl : ∀ l : List UInt8, Op.bytesLess l l = false
  | [] => rfl
  | a :: x => by
    rw [Op.bytesLess, less_irrefl x]
    have : decide (a < a) = false := by simp
    simp
theorem cmpS_zero {a b : ByteArray} : cmpS a b = 0 ↔ a = b := by
  constructor
  · intro h
    unfold cmpS at h
    split at h
    · omega
    · split at h
      · rename_i _ h2; exact toList_inj h2
      · omega
  · rintro rfl
    unfold cmpS
    rw [less_irrefl]; simp
theorem cmpL_zero : ∀ {l m : List ByteArray}, cmpL l m = 0 ↔ l = m
  | [], [] => by simp [cmpL]
  | [], _ :: _ => by simp [cmpL]
  | _ :: _, [] => by simp [cmpL]
  | a :: x, b :: y => by
    unfold cmpL
    by_cases h : cmpS a b = 0
    · rw [if_pos h, cmpL_zero, cmpS_zero.1 h]; simp
    · rw [if_neg h]
      have : a ≠ b := fun e => h (cmpS_zero.2 e)
      constructor
      · intro e; exact absurd e h
      · intro e; cases e; exact absurd rfl this
theorem eqB_cmp (l m : List ByteArray) : eqB l m = (cmpL l m == 0) := by
  unfold eqB
  by_cases h : l = m
  · have := cmpL_zero.2 h
    simp [h, cmpL_zero.2]
  · have h2 : cmpL l m ≠ 0 := fun e => h (cmpL_zero.1 e)
    simp [h, h2]

set_option maxHeartbeats 1000000 in
theorem implEqualNames (v u : Value) (l m : List ByteArray) (w : World) (h : Holds Value.string w v l) (g : Holds Value.string w u m) (hl : l.length ≤ 140737488351232) (hm : m.length ≤ 140737488351232) :
    Calls Try.prog 71 #[.agg #[v], .agg #[u]] w fun e w' => e = .returned (.bool (eqB l m)) ∧ Below w.heap.size w w' := by
  obtain ⟨x, cx, rfl, hcx, hh⟩ := h.shape
  obtain ⟨y, cy, rfl, hcy, hg⟩ := g.shape
  have HH := Lib.hid hh; have HG := Lib.hid hg
  clear hh h hg g
  go_enter Try.func71, Try.ntmps71
  go_wp2_with fail
  have HB := Lib.hid (((Below.refl w.heap.size w).alloc (Nat.le_refl _) (.cells #[.slice x l.length cx] 30)).alloc (Nat.le_trans (Nat.le_refl _) (by simp)) (.cells #[.slice y m.length cy] 30))
  have HA := Lib.hid (HH.out.on HB.out); have HC := Lib.hid (HG.out.on HB.out)
  refine (libEqS _ _ l m _ HA.out HC.out hl hm).mono ?_
  rintro e w' ⟨rfl, hb⟩
  have HB2 := Lib.hid (HB.out.trans (hb.mono (by simp; omega))); clear hb
  go_wp2
  go_ret
  exact ⟨rfl, HB2.out⟩

set_option maxHeartbeats 1000000 in
theorem specEqualNames (v u : Value) (l m : List ByteArray) (w : World) (h : Holds Value.string w v l) (g : Holds Value.string w u m) (hl : l.length ≤ 140737488351232) (hm : m.length ≤ 140737488351232) :
    Calls Try.prog 69 #[.agg #[v], .agg #[u]] w fun e w' => e = .returned (.bool (eqB l m)) ∧ Below w.heap.size w w' := by
  obtain ⟨x, cx, rfl, hcx, hh⟩ := h.shape
  obtain ⟨y, cy, rfl, hcy, hg⟩ := g.shape
  have HH := Lib.hid hh; have HG := Lib.hid hg
  have HE := Lib.hid (eqB_cmp l m)
  clear hh h hg g
  go_enter Try.func69, Try.ntmps69
  go_wp2_with fail
  have HB := Lib.hid (((Below.refl w.heap.size w).alloc (Nat.le_refl _) (.cells #[.slice x l.length cx] 30)).alloc (Nat.le_trans (Nat.le_refl _) (by simp)) (.cells #[.slice y m.length cy] 30))
  have HA := Lib.hid (HH.out.on HB.out); have HC := Lib.hid (HG.out.on HB.out)
  refine (specCompareNames _ _ l m _ HA.out HC.out hl hm).mono ?_
  rintro e w' ⟨rfl, hb⟩
  have HB2 := Lib.hid (HB.out.trans (hb.mono (by simp; omega))); clear hb
  go_wp2
  go_ret
  exact ⟨ret_bool HE.out.symm, HB2.out⟩

def hpB (l m : List ByteArray) : Bool := decide (m.length ≤ l.length ∧ l.take m.length = m)
theorem hpB_short {l m : List ByteArray} (h : ¬ m.length ≤ l.length) : hpB l m = false := by unfold hpB; exact decide_eq_false (fun e => h e.1)
theorem hpB_take {l m : List ByteArray} (h : m.length ≤ l.length) : hpB l m = eqB (l.take m.length) m := by unfold hpB eqB; simp [h]
theorem trN_take {l : List ByteArray} {q : Nat} (h : q ≤ l.length) : trN l (q : Int) = l.take q := by
  unfold trN
  congr 1
  unfold trI Num.maxI Num.minI; split <;> split <;> omega

theorem keep2 {W w1 w2 : World} {a1 a2 : Addr} {u1 u2 : Value} (h : w1.cell? a1 = some u1 ∧ w1.cell? a2 = some u2 ∧ Below W.heap.size W w1) (hb : Below w1.heap.size w1 w2) : w2.cell? a1 = some u1 ∧ w2.cell? a2 = some u2 ∧ Below W.heap.size W w2 :=
  ⟨by rw [hb.cell (cell_lt h.1)]; exact h.1, by rw [hb.cell (cell_lt h.2.1)]; exact h.2.1, h.2.2.trans (hb.mono h.2.2.size)⟩

end Go.Proofs.Ytbooamnlocobfaa.Row
/- Contracts of AppendPart, the program's and the reference model's. No conditions but that lengths fit. -/
namespace Go.Proofs.Ytbooamnlocobfaa.Row
open Go.ChangeShapes Go.WideShapes Go.ChangeAt Go.RowKit Go.Instr
set_option linter.unusedVariables false
set_option maxRecDepth 100000

theorem bulk_append (l m : List ByteArray) : bulk (l ++ m) = bulk l + bulk m := by
  unfold bulk bulkTo
  rw [List.take_length, List.take_length, List.take_length, List.map_append, List.sum_append, List.length_append]
  omega
theorem bulk_one (s : ByteArray) : bulk [s] = 1 + s.size := by simp [bulk, bulkTo]
theorem bulk_cons (x : ByteArray) (l : List ByteArray) : bulk (x :: l) = 1 + x.size + bulk l := by
  have := bulk_append [x] l
  rw [bulk_one] at this
  exact this
theorem bulk_nil : bulk [] = 0 := by simp [bulk, bulkTo]
theorem bulk_valid {l : List ByteArray} (h : validN l = true) : bulk l ≤ 60 := by
  obtain ⟨h1, h2⟩ := validN_iff.1 h
  have key : ∀ l : List ByteArray, (∀ x ∈ l, validP x = true) → bulk l ≤ 9 * l.length := by
    intro l
    induction l with
    | nil => intro _; rw [bulk_nil]; simp
    | cons x r ih =>
      intro hx
      have h3 := ih (fun y hy => hx y (by simp [hy]))
      have h4 := (validP_iff.1 (hx x (by simp))).2.1
      rw [bulk_cons, List.length_cons]; omega
  have := key l h2
  omega
def appN (l : List ByteArray) (s : ByteArray) : List ByteArray := if validN (l ++ [s]) = true then l ++ [s] else l
theorem appN_yes {l : List ByteArray} {s : ByteArray} (h : validN (l ++ [s]) = true) : appN l s = l ++ [s] := if_pos h
theorem appN_no {l : List ByteArray} {s : ByteArray} (h : validN (l ++ [s]) = false) : appN l s = l := if_neg (by simp [h])

theorem appN_len (l : List ByteArray) (s : ByteArray) : (appN l s).length ≤ l.length + 1 := by
  unfold appN; split <;> simp
theorem ret_nb {v : Value} {a b : Bool} (h : a = b) : Ending.returned (.tuple #[v, .bool a]) = .returned (.tuple #[v, .bool b]) := by rw [h]
def vs2 (a b : Value) (j : Nat) : Value := if j = 0 then a else b
def ls2 (a b : List ByteArray) (j : Nat) : List ByteArray := if j = 0 then a else b
theorem cat2 (a b : List ByteArray) : cat (ls2 a b) 2 = a ++ b := by simp [cat, ls2]

set_option maxHeartbeats 1000000 in
theorem l4Copy (v : Value) (l : List ByteArray) (w : World) (h : Holds Value.string w v l) (hl : l.length ≤ 10000000) :
    Calls Try.prog 83 #[.agg #[v]] w (GivesN w l) := by
  obtain ⟨x, n, cap, rfl, hn, hcap, hh⟩ := h.shapeN
  rw [← hn] at hl
  have HB0 := Lib.hid ((((Below.refl w.heap.size w).alloc (Nat.le_refl _) (.cells #[.slice x n cap] 30)).alloc (by simp) (.cells #[.slice none 0 0] 30)).alloc (by simp; omega) (.cells #[] 9))
  have HN := Lib.hid hn
  have HT2 := Lib.hid (hh.on HB0.out)
  have HO := Lib.hid (own_empty Value.string 9 ((w.alloc (.cells #[.slice x n cap] 30)).alloc (.cells #[.slice none 0 0] 30)))
  simp only [World.size_alloc] at HO
  have HR := Lib.hid ((Ret.NC.new' (.slice none 0 0) 30 (w := w.alloc (.cells #[.slice x n cap] 30)) (n := w.heap.size + 1) (by simp)).alloc (.cells #[] 9))
  clear hh h hn
  go_enter Try.func83, Try.ntmps83
  go_wp2_with (at_builtin; refine wpList_app (enc := Value.string) (B := w.heap.size + 1 + 1) (l := []) (m := l) rfl _ _ rfl Try.underlying22 elemSTR rfl rfl rfl HO.out HT2.out oneStr (by rw [← HN.out]; simp; omega) (by rw [← HN.out]; unfold maxLen; simp; omega) (by simp) ?_)
  intro v3 w3 ho3 hg3
  obtain ⟨x3, n3, c3, rfl, hn3, hc3, ho3⟩ := ho3.shapeN
  clear hn3
  have HB4 := Lib.hid (HB0.out.grown hg3 (by simp; omega) (fun g hh => by have := (HO.out.lt g hh).1; omega))
  obtain ⟨hk2, hf2⟩ := HR.out.grown hg3 (by simp [Value.ownBlock])
  obtain ⟨q1, q2, q3⟩ := endN (w := w) (g := w.heap.size + 1) (by omega) (by omega) ho3 hk2 HB4.out
  have HQ1 := Lib.hid q1; have HQ2 := Lib.hid q2; have HQ3 := Lib.hid q3
  clear q1 q2 q3 ho3 hg3
  go_wp2
  refine bodyPost_ret (Ret.results_c rfl _ _ (w.heap.size + 1) [_] rfl aggN (Ret.one HQ1.out)) rfl ?_
  exact ⟨_, rfl, HQ2.out, HQ3.out⟩

end Go.Proofs.Ytbooamnlocobfaa.Row
/- Contracts of the model's functions on interests: AppendName. No conditions but that lengths fit. -/
namespace Go.Proofs.Ytbooamnlocobfaa.Row
open Go.ChangeShapes Go.WideShapes Go.ChangeAt Go.RowKit Go.Instr
set_option linter.unusedVariables false
set_option maxRecDepth 100000

/-- The parts' encodings, one behind the other. -/
def encPs (l : List ByteArray) : List Int := l.flatMap fun s => Var.var s.size ++ Sl.bytesOf s
def encN (l : List ByteArray) : List Int := Var.var l.length ++ encPs l
def appName (b : List Int) (l : List ByteArray) : List Int := if validN l = true then b ++ encN l else b
theorem encPs_next {l : List ByteArray} {k : Nat} (h : k < l.length) : encPs (l.take (k + 1)) = encPs (l.take k) ++ (Var.var (nth l k).size ++ Sl.bytesOf (nth l k)) := by
  unfold encPs
  rw [List.take_succ_eq_append_getElem h, List.flatMap_append, nth_eq h]
  simp
theorem encPs_len : ∀ l : List ByteArray, (encPs l).length ≤ 6 * bulk l
  | [] => by simp [encPs]
  | s :: r => by
    have h1 := encPs_len r
    have h2 := Var.var_len s.size
    have h3 : encPs (s :: r) = (Var.var s.size ++ Sl.bytesOf s) ++ encPs r := by simp [encPs]
    have h4 : bulk (s :: r) = 1 + s.size + bulk r := by simp [bulk_cons]
    rw [h3, List.length_append, List.length_append, Sl.bytesOf_length]
    omega
theorem bulk_take_le (l : List ByteArray) (k : Nat) : bulk (l.take k) ≤ bulk l := by
  have := bulk_append (l.take k) (l.drop k)
  rw [List.take_append_drop] at this
  omega
theorem size_bulk {l : List ByteArray} {k : Nat} (h : k < l.length) : (nth l k).size ≤ bulk l := by
  have h1 := bulk_append (l.take k) (l.drop k)
  rw [List.take_append_drop, List.drop_eq_getElem_cons h, bulk_cons, ← nth_eq h] at h1
  omega

set_option maxHeartbeats 2000000 in
theorem specAppendName (v u : Value) (b : List Int) (l : List ByteArray) (w : World) (h : Sl.Holds .u8 w v b) (g : Holds Value.string w u l) (hb : b.length ≤ 2000000) (hl : bulk l ≤ 1200000) :
    Calls Try.prog 48 #[v, .agg #[u]] w (Sl.GivesB w (appName b l)) := by
  obtain ⟨x, cx, rfl, hcx, hh⟩ := h.shape
  obtain ⟨y, q, cy, rfl, hq, hcy, hg⟩ := g.shapeN
  obtain ⟨m, hm⟩ : ∃ m, m = b.length := ⟨_, rfl⟩
  rw [← hm] at hcx hh hb ⊢
  have HM := Lib.hid hm; have HQ := Lib.hid hq
  have hb0 := (Below.refl w.heap.size w).alloc (Nat.le_refl _) (.cells #[.slice y q cy] 30)
  have hb1 := hb0.alloc (by simp) (.cells #[] 5)
  have HB1 := Lib.hid hb1
  have HH := Lib.hid (hh.on hb1)
  have HG := Lib.hid (hg.on hb1)
  have HX := Lib.hid ((Ret.Box.new w (.slice y q cy) 30).on ((Below.refl _ _).alloc (Nat.le_refl _) (.cells #[] 5)))
  have hoe := Sl.own_empty .u8 5 (w.alloc (.cells #[.slice y q cy] 30))
  rw [World.size_alloc] at hoe
  have HOE := Lib.hid hoe
  have HBL := Lib.hid hl
  have HG0 := Lib.hid hg
  have hql : q ≤ 1200000 := by rw [hq]; exact Nat.le_trans (bulk_len l) hl
  clear hh h g hg hm hq hb0 hb1 hoe
  go_enter Try.func48, Try.ntmps48
  go_wp2_with (at_builtin; refine Sl.wpList_app (k := .u8) (B := w.heap.size + 1) (l := []) (m := b) rfl _ _ rfl Try.underlying25 Sl.elemBYTE rfl rfl rfl HOE.out HH.out ?_ (by decide) ?_ ?_)
  · have := HM.out; simp; omega
  · simp
  intro v1 w1 ho hg
  have HB := Lib.hid (HB1.out.grown hg (by simp; omega) (fun g e => by cases e; exact Nat.le_succ _))
  have HO := Lib.hid (show Sl.Own 5 .u8 w.heap.size w1 v1 b from ho.mono (Nat.le_succ _))
  have HX1 := Lib.hid (HX.out.grown hg (by simp [Value.ownBlock]))
  have HG1 := Lib.hid (HG0.out.on HB.out)
  have hx1 := HX1.out.cell
  clear ho hg HX HOE HH HG
  obtain ⟨ok, hok⟩ : ∃ z, validN l = z := ⟨_, rfl⟩
  have HOK := Lib.hid hok
  go_wp2_with fail
  refine (specValidName _ l _ HG1.out (by omega)).mono ?_
  rintro e w2 ⟨rfl, hb2⟩
  rw [hok]
  have HB2 := Lib.hid (HB.out.trans (hb2.mono HB.out.size))
  have HO2 := Lib.hid (HO.out.on hb2)
  have HX2 := Lib.hid (HX1.out.on hb2)
  have hx2 := HX2.out.cell
  clear hb2 hok hx1
  cases ok with
  | false =>
    have HV : Hid (appName b l = b) := Lib.hid (by unfold appName; rw [if_neg (by rw [HOK.out]; simp)])
    go_wp2_with fail
    go_ret
    exact ⟨_, rfl, by rw [HV.out]; exact HO2.out, HB2.out⟩
  | true =>
    have HV : Hid (appName b l = b ++ encN l) := Lib.hid (by unfold appName; rw [if_pos HOK.out])
    go_wp2_with fail
    refine (Sl.specAppendVarint _ b q _ HO2.out.holds (by rw [← HM.out]; omega)).mono ?_
    rintro e w3 ⟨v3, rfl, ho3, hb3⟩
    have HO3 := Lib.hid (show Sl.Own 5 .u8 w.heap.size w3 v3 (b ++ Var.var q ++ encPs (l.take 0)) by rw [List.take_zero, show encPs [] = [] from rfl, List.append_nil]; exact ho3.mono HB2.out.size)
    have HB3 := Lib.hid (HB2.out.trans (hb3.mono HB2.out.size))
    have HX3 := Lib.hid (HX2.out.on hb3)
    clear ho3 hb3 hx2
    have hx3 := HX3.out.cell
    go_wp2_with fail
    go_loopw [5, 6] (fun tv iv wr => ∃ k : Nat, k ≤ q ∧ iv = .int .i64 k ∧ Hid (Sl.Own 5 .u8 w.heap.size wr tv (b ++ Var.var q ++ encPs (l.take k))) ∧ Hid (Below w.heap.size w wr) ∧ Hid (Ret.Box wr w.heap.size (.slice y q cy) 30)) (fun _ iv _ => q - (intOf iv).toNat)
    case atStart => exact ⟨0, Nat.zero_le _, rfl, HO3, HB3, HX3⟩
    case round =>
      obtain ⟨k, hk, rfl, hO, hB, hX⟩ := hrel
      have hxr := hX.out.cell
      by_cases hlt : k < q
      · obtain ⟨b0, off0, hy, hc⟩ := (HG0.out.on hB.out).at (j := k) (by rw [← HQ.out]; exact hlt)
        subst hy
        have hsz : (nth l k).size ≤ 1200000 := by
          have h2 := size_bulk (l := l) (k := k) (by rw [← HQ.out]; exact hlt)
          have h3 := HBL.out
          omega
        have hle : (encPs (l.take k)).length ≤ 7200000 := by
          have h1 := encPs_len (l.take k)
          have h2 := bulk_take_le l k
          have h3 := HBL.out
          omega
        have hll : (b ++ Var.var q ++ encPs (l.take k)).length ≤ 10000000 := by
          have h1 := Var.var_len q
          rw [List.length_append, List.length_append, ← HM.out]; omega
        have HN := Lib.hid (encPs_next (l := l) (k := k) (by rw [← HQ.out]; exact hlt))
        obtain ⟨cp, wc', e0, h0, b0'⟩ := Sl.conv_bytes wr (nth l k)
        have H0 := Lib.hid h0; have B0 := Lib.hid b0'
        have HLL := Lib.hid hll
        clear h0 b0' hle hll
        go_wp2_with fail
        refine (Sl.specAppendBytes _ _ (b ++ Var.var q ++ encPs (l.take k)) (Sl.bytesOf (nth l k)) wc' (hO.out.on B0.out).holds H0.out HLL.out (by rw [Sl.bytesOf_length]; omega)).mono ?_
        rintro e w4 ⟨v4, rfl, ho4, hb4⟩
        have HB4 := Lib.hid ((hB.out.trans (B0.out.mono hB.out.size)).trans (hb4.mono (Nat.le_trans hB.out.size B0.out.size)))
        have HO4 := Lib.hid (show Sl.Own 5 .u8 w.heap.size w4 v4 (b ++ Var.var q ++ encPs (l.take (k + 1))) by
          have h9 := ho4.mono (Nat.le_trans hB.out.size B0.out.size)
          rw [HN.out, ← List.append_assoc, ← Sl.bytesOf_length, ← List.append_assoc]
          exact h9)
        have HX4 := Lib.hid ((hX.out.on B0.out).on hb4)
        clear ho4 hb4 e0 hxr hc
        go_wp2_with fail
        go_roundw
        case rel => exact ⟨k + 1, by omega, by go_num, HO4, HB4, HX4⟩
        case measure => simp [intOf]; omega
      · obtain rfl : k = q := by omega
        clear hlt
        go_wp2_with fail
        go_ret
        refine ⟨_, rfl, ?_, hB.out⟩
        have h9 := hO.out
        rw [HQ.out, List.take_length] at h9
        rw [HV.out]
        unfold encN
        rw [← List.append_assoc]
        exact h9
end Go.Proofs.Ytbooamnlocobfaa.Row
/- Contracts of the helpers by which the laws measure, copy, compare, mark and look at data packets (a name, bytes, a name, two numbers). No conditions but that lengths fit. -/
namespace Go.Proofs.Ytbooamnlocobfaa.Row
open Go.ChangeShapes Go.WideShapes Go.ChangeAt Go.RowKit Go.Instr
set_option linter.unusedVariables false
set_option maxRecDepth 100000

abbrev Dt := List ByteArray × List Int × List ByteArray × Int × Int
/-- A packet's cells. -/
abbrev dc (a b c : Value) (f s : Int) : Array Value := #[a, b, c, .int .i64 f, .int .i64 s]
abbrev nil : Value := .slice none 0 0
theorem aggD : Ret.AggOf Try.prog 32 5 := ⟨by kernel_rfl, by kernel_rfl⟩
/-- What the call's own slices of a packet are: in blocks from B on, no two the same. -/
def DOwn (B : Nat) (w : World) (a b c : Value) (x : Dt) : Prop := Own 9 Value.string B w a x.1 ∧ Sl.Own 5 .u8 B w b x.2.1 ∧ Own 9 Value.string B w c x.2.2.1 ∧ Apart a b ∧ Apart a c ∧ Apart b c
def DHold (w : World) (a b c : Value) (x : Dt) : Prop := Holds Value.string w a x.1 ∧ Sl.Holds .u8 w b x.2.1 ∧ Holds Value.string w c x.2.2.1
theorem DHold.on {w w' : World} {a b c : Value} {x : Dt} (h : DHold w a b c x) (hb : Below w.heap.size w w') : DHold w' a b c x := ⟨h.1.on hb, h.2.1.on hb, h.2.2.on hb⟩
theorem DOwn.hold {B : Nat} {w : World} {a b c : Value} {x : Dt} (h : DOwn B w a b c x) : DHold w a b c x := by
  exact ⟨h.1.holds, h.2.1.holds, h.2.2.1.holds⟩
theorem DHold.shape {w : World} {a b c : Value} {x : Dt} (h : DHold w a b c x) : ∃ xa na ca xb nb cb xc nc cc, a = .slice xa na ca ∧ b = .slice xb nb cb ∧ c = .slice xc nc cc := by
  obtain ⟨xa, na, ca, rfl, -⟩ := h.1.shapeN
  obtain ⟨xb, cb, rfl, -⟩ := h.2.1.shape
  obtain ⟨xc, nc, cc, rfl, -⟩ := h.2.2.shapeN
  exact ⟨_, _, _, _, _, _, _, _, _, rfl, rfl, rfl⟩
theorem sl_own_set {k : IntKind} {e : TypeId} {B g i : Nat} {w : World} {v u : Value} {l : List Int} (h : Sl.Own e k B w v l) (hg : g < B) : Sl.Own e k B (w.setCell ⟨g, i, none⟩ u) v l := own_set (enc := Value.int k) h hg

set_option maxHeartbeats 4000000 in
theorem toData (a b c : Value) (x : Dt) (w : World) (h : DHold w a b c x) (h1 : x.1.length ≤ 100000000) (h2 : x.2.1.length ≤ 100000000) (h3 : x.2.2.1.length ≤ 100000000) :
    Calls Try.prog 13 #[.agg (dc a b c x.2.2.2.1 x.2.2.2.2)] w fun e w' => ∃ a' b' c', e = .returned (.agg (dc a' b' c' x.2.2.2.1 x.2.2.2.2)) ∧ DOwn w.heap.size w' a' b' c' x ∧ Below w.heap.size w w' := by
  obtain ⟨l, m, k, f, s⟩ := x
  simp only at h1 h2 h3 ⊢
  obtain ⟨xa, na, ca, xb, nb, cb, xc, nc, cc, rfl, rfl, rfl⟩ := h.shape
  have hb0 := (Below.refl w.heap.size w).alloc (Nat.le_refl _) (.cells (dc (.slice xa na ca) (.slice xb nb cb) (.slice xc nc cc) f s) 27)
  have hb1 := hb0.alloc (by simp) (.cells (dc nil nil nil 0 0) 32)
  have hb2 := hb1.alloc (by simp; omega) (.cells (dc nil nil nil 0 0) 32)
  have HB := Lib.hid hb2
  have H0 := Lib.hid h
  have HX := Lib.hid (((Ret.Blk.new w (dc (.slice xa na ca) (.slice xb nb cb) (.slice xc nc cc) f s) 27).on ((Below.refl _ _).alloc (Nat.le_refl _) (.cells (dc nil nil nil 0 0) 32))).on ((Below.refl _ _).alloc (Nat.le_refl _) (.cells (dc nil nil nil 0 0) 32)))
  have HR := Lib.hid ((Ret.Blk.new' (w := (w.alloc (.cells (dc (.slice xa na ca) (.slice xb nb cb) (.slice xc nc cc) f s) 27))) (n := w.heap.size + 1) (dc nil nil nil 0 0) 32 (by simp)).on ((Below.refl _ _).alloc (Nat.le_refl _) (.cells (dc nil nil nil 0 0) 32)))
  have HL := Lib.hid (Ret.Blk.new' (w := (w.alloc (.cells (dc (.slice xa na ca) (.slice xb nb cb) (.slice xc nc cc) f s) 27)).alloc (.cells (dc nil nil nil 0 0) 32)) (n := w.heap.size + 1 + 1) (dc nil nil nil 0 0) 32 (by simp))
  have hz0 : (((w.alloc (.cells (dc (.slice xa na ca) (.slice xb nb cb) (.slice xc nc cc) f s) 27)).alloc (.cells (dc nil nil nil 0 0) 32)).alloc (.cells (dc nil nil nil 0 0) 32)).heap.size = w.heap.size + 3 := by simp
  clear h hb0 hb1 hb2
  go_enter Try.func13, Try.ntmps13
  go_wp2_with fail
  refine (toName _ l _ (H0.out.on HB.out).1 h1).mono ?_
  rintro e w1 ⟨a1, rfl, ho1, hb1⟩
  obtain ⟨ya, ma, da, rfl, -, -, ho1⟩ := ho1.shapeN
  have hs1 := hb1.size
  rw [hz0] at ho1 hs1
  replace HX := Lib.hid (HX.out.on hb1); replace HR := Lib.hid (HR.out.on hb1); replace HL := Lib.hid (HL.out.on hb1)
  replace HB := Lib.hid (HB.out.trans (hb1.mono HB.out.size))
  have HO1 := Lib.hid ho1
  have HLA := Lib.hid (fun g hg => (ho1.lt g hg).2)
  clear ho1 hb1 hz0
  have q0 : w1.cell? ⟨w.heap.size, 0, none⟩ = some (.slice xa na ca) := HX.out.cell 0
  have q1 : w1.cell? ⟨w.heap.size, 1, none⟩ = some (.slice xb nb cb) := HX.out.cell 1
  have q2 : w1.cell? ⟨w.heap.size, 2, none⟩ = some (.slice xc nc cc) := HX.out.cell 2
  have q3 : w1.cell? ⟨w.heap.size, 3, none⟩ = some (.int .i64 f) := HX.out.cell 3
  have q4 : w1.cell? ⟨w.heap.size, 4, none⟩ = some (.int .i64 s) := HX.out.cell 4
  have p0 : w1.cell? ⟨w.heap.size + 1 + 1, 0, none⟩ = some (.slice none 0 0) := HL.out.cell 0
  have p1 : w1.cell? ⟨w.heap.size + 1 + 1, 1, none⟩ = some (.slice none 0 0) := HL.out.cell 1
  have p2 : w1.cell? ⟨w.heap.size + 1 + 1, 2, none⟩ = some (.slice none 0 0) := HL.out.cell 2
  have p3 : w1.cell? ⟨w.heap.size + 1 + 1, 3, none⟩ = some (.int .i64 0) := HL.out.cell 3
  have p4 : w1.cell? ⟨w.heap.size + 1 + 1, 4, none⟩ = some (.int .i64 0) := HL.out.cell 4
  have t0 := HL.out.frozen 0; have t1 := HL.out.frozen 1; have t2 := HL.out.frozen 2; have t3 := HL.out.frozen 3; have t4 := HL.out.frozen 4
  go_wp2_with fail
  clear q0 q1 q2 q3 q4 p0 p1 p2 p3 p4 t0 t1 t2 t3 t4
  replace HX := Lib.hid (HX.out.other (a := ⟨w.heap.size + 1 + 1, 0, none⟩) (by show w.heap.size + 1 + 1 ≠ w.heap.size; omega) (.slice ya ma da))
  replace HR := Lib.hid (HR.out.other (a := ⟨w.heap.size + 1 + 1, 0, none⟩) (by show w.heap.size + 1 + 1 ≠ w.heap.size + 1; omega) (.slice ya ma da))
  replace HL := Lib.hid (HL.out.set 0 (.slice ya ma da))
  replace HB := Lib.hid (HB.out.setCell (p := ⟨w.heap.size + 1 + 1, 0, none⟩) (by show w.heap.size ≤ w.heap.size + 1 + 1; omega) (.slice ya ma da))
  replace HO1 := Lib.hid (own_set (g := w.heap.size + 1 + 1) (i := 0) (u := .slice ya ma da) HO1.out (by omega))
  refine (Sl.toByteS _ m _ (H0.out.on HB.out).2.1 h2).mono ?_
  rintro e w2 ⟨b1, rfl, ho2, hb2⟩
  obtain ⟨yb, mb, db, rfl, -, -, ho2⟩ := Own.shapeN (enc := Value.int .u8) ho2
  replace ho2 : Sl.Own 5 .u8 _ w2 (.slice yb mb db) m := ho2
  have hs2 := hb2.size
  simp only [World.size_setCell] at hs2 ho2
  replace HX := Lib.hid (HX.out.on hb2); replace HR := Lib.hid (HR.out.on hb2); replace HL := Lib.hid (HL.out.on hb2)
  replace HO1 := Lib.hid (HO1.out.on hb2)
  replace HB := Lib.hid (HB.out.trans (hb2.mono HB.out.size))
  have HO2 := Lib.hid ho2
  have HLB := Lib.hid (fun g hg => (ho2.lt g hg).2)
  clear ho2 hb2
  have q0 : w2.cell? ⟨w.heap.size, 0, none⟩ = some (.slice xa na ca) := HX.out.cell 0
  have q1 : w2.cell? ⟨w.heap.size, 1, none⟩ = some (.slice xb nb cb) := HX.out.cell 1
  have q2 : w2.cell? ⟨w.heap.size, 2, none⟩ = some (.slice xc nc cc) := HX.out.cell 2
  have q3 : w2.cell? ⟨w.heap.size, 3, none⟩ = some (.int .i64 f) := HX.out.cell 3
  have q4 : w2.cell? ⟨w.heap.size, 4, none⟩ = some (.int .i64 s) := HX.out.cell 4
  have p0 : w2.cell? ⟨w.heap.size + 1 + 1, 0, none⟩ = some (.slice ya ma da) := HL.out.cell 0
  have p1 : w2.cell? ⟨w.heap.size + 1 + 1, 1, none⟩ = some (.slice none 0 0) := HL.out.cell 1
  have p2 : w2.cell? ⟨w.heap.size + 1 + 1, 2, none⟩ = some (.slice none 0 0) := HL.out.cell 2
  have p3 : w2.cell? ⟨w.heap.size + 1 + 1, 3, none⟩ = some (.int .i64 0) := HL.out.cell 3
  have p4 : w2.cell? ⟨w.heap.size + 1 + 1, 4, none⟩ = some (.int .i64 0) := HL.out.cell 4
  have t0 := HL.out.frozen 0; have t1 := HL.out.frozen 1; have t2 := HL.out.frozen 2; have t3 := HL.out.frozen 3; have t4 := HL.out.frozen 4
  go_wp2_with fail
  clear q0 q1 q2 q3 q4 p0 p1 p2 p3 p4 t0 t1 t2 t3 t4
  replace HX := Lib.hid (HX.out.other (a := ⟨w.heap.size + 1 + 1, 1, none⟩) (by show w.heap.size + 1 + 1 ≠ w.heap.size; omega) (.slice yb mb db))
  replace HR := Lib.hid (HR.out.other (a := ⟨w.heap.size + 1 + 1, 1, none⟩) (by show w.heap.size + 1 + 1 ≠ w.heap.size + 1; omega) (.slice yb mb db))
  replace HL := Lib.hid (HL.out.set 1 (.slice yb mb db))
  replace HB := Lib.hid (HB.out.setCell (p := ⟨w.heap.size + 1 + 1, 1, none⟩) (by show w.heap.size ≤ w.heap.size + 1 + 1; omega) (.slice yb mb db))
  replace HO1 := Lib.hid (own_set (g := w.heap.size + 1 + 1) (i := 1) (u := .slice yb mb db) HO1.out (by omega))
  replace HO2 := Lib.hid (sl_own_set (g := w.heap.size + 1 + 1) (i := 1) (u := .slice yb mb db) HO2.out (by omega))
  refine (toName _ k _ (H0.out.on HB.out).2.2 h3).mono ?_
  rintro e w3 ⟨c1, rfl, ho3, hb3⟩
  obtain ⟨yc, mc, dc_, rfl, -, -, ho3⟩ := ho3.shapeN
  have hs3 := hb3.size
  simp only [World.size_setCell] at hs3 ho3
  replace HX := Lib.hid (HX.out.on hb3); replace HR := Lib.hid (HR.out.on hb3); replace HL := Lib.hid (HL.out.on hb3)
  replace HO1 := Lib.hid (HO1.out.on hb3); replace HO2 := Lib.hid (HO2.out.on hb3)
  replace HB := Lib.hid (HB.out.trans (hb3.mono HB.out.size))
  have HO3 := Lib.hid ho3
  clear ho3 hb3
  have q0 : w3.cell? ⟨w.heap.size, 0, none⟩ = some (.slice xa na ca) := HX.out.cell 0
  have q1 : w3.cell? ⟨w.heap.size, 1, none⟩ = some (.slice xb nb cb) := HX.out.cell 1
  have q2 : w3.cell? ⟨w.heap.size, 2, none⟩ = some (.slice xc nc cc) := HX.out.cell 2
  have q3 : w3.cell? ⟨w.heap.size, 3, none⟩ = some (.int .i64 f) := HX.out.cell 3
  have q4 : w3.cell? ⟨w.heap.size, 4, none⟩ = some (.int .i64 s) := HX.out.cell 4
  have p0 : w3.cell? ⟨w.heap.size + 1 + 1, 0, none⟩ = some (.slice ya ma da) := HL.out.cell 0
  have p1 : w3.cell? ⟨w.heap.size + 1 + 1, 1, none⟩ = some (.slice yb mb db) := HL.out.cell 1
  have p2 : w3.cell? ⟨w.heap.size + 1 + 1, 2, none⟩ = some (.slice none 0 0) := HL.out.cell 2
  have p3 : w3.cell? ⟨w.heap.size + 1 + 1, 3, none⟩ = some (.int .i64 0) := HL.out.cell 3
  have p4 : w3.cell? ⟨w.heap.size + 1 + 1, 4, none⟩ = some (.int .i64 0) := HL.out.cell 4
  have t0 := HL.out.frozen 0; have t1 := HL.out.frozen 1; have t2 := HL.out.frozen 2; have t3 := HL.out.frozen 3; have t4 := HL.out.frozen 4
  have r0 : w3.cell? ⟨w.heap.size + 1, 0, none⟩ = some (.slice none 0 0) := HR.out.cell 0
  have r1 : w3.cell? ⟨w.heap.size + 1, 1, none⟩ = some (.slice none 0 0) := HR.out.cell 1
  have r2 : w3.cell? ⟨w.heap.size + 1, 2, none⟩ = some (.slice none 0 0) := HR.out.cell 2
  have r3 : w3.cell? ⟨w.heap.size + 1, 3, none⟩ = some (.int .i64 0) := HR.out.cell 3
  have r4 : w3.cell? ⟨w.heap.size + 1, 4, none⟩ = some (.int .i64 0) := HR.out.cell 4
  have u0 := HR.out.frozen 0; have u1 := HR.out.frozen 1; have u2 := HR.out.frozen 2; have u3 := HR.out.frozen 3; have u4 := HR.out.frozen 4
  have Z1 := Lib.hid ((((((((HR.out.other (a := ⟨w.heap.size + 1 + 1, 2, none⟩) (by show w.heap.size + 1 + 1 ≠ w.heap.size + 1; omega) (.slice yc mc dc_)).other (a := ⟨w.heap.size + 1 + 1, 3, none⟩) (by show w.heap.size + 1 + 1 ≠ w.heap.size + 1; omega) (.int .i64 f)).other (a := ⟨w.heap.size + 1 + 1, 4, none⟩) (by show w.heap.size + 1 + 1 ≠ w.heap.size + 1; omega) (.int .i64 s)).set 0 (.slice ya ma da)).set 1 (.slice yb mb db)).set 2 (.slice yc mc dc_)).set 3 (.int .i64 f)).set 4 (.int .i64 s))
  have Z2 := Lib.hid (own_set (g := w.heap.size + 1) (i := 4) (u := .int .i64 s) (own_set (g := w.heap.size + 1) (i := 3) (u := .int .i64 f) (own_set (g := w.heap.size + 1) (i := 2) (u := .slice yc mc dc_) (own_set (g := w.heap.size + 1) (i := 1) (u := .slice yb mb db) (own_set (g := w.heap.size + 1) (i := 0) (u := .slice ya ma da) (own_set (g := w.heap.size + 1 + 1) (i := 4) (u := .int .i64 s) (own_set (g := w.heap.size + 1 + 1) (i := 3) (u := .int .i64 f) (own_set (g := w.heap.size + 1 + 1) (i := 2) (u := .slice yc mc dc_) HO1.out (by omega)) (by omega)) (by omega)) (by omega)) (by omega)) (by omega)) (by omega)) (by omega))
  have Z3 := Lib.hid (sl_own_set (g := w.heap.size + 1) (i := 4) (u := .int .i64 s) (sl_own_set (g := w.heap.size + 1) (i := 3) (u := .int .i64 f) (sl_own_set (g := w.heap.size + 1) (i := 2) (u := .slice yc mc dc_) (sl_own_set (g := w.heap.size + 1) (i := 1) (u := .slice yb mb db) (sl_own_set (g := w.heap.size + 1) (i := 0) (u := .slice ya ma da) (sl_own_set (g := w.heap.size + 1 + 1) (i := 4) (u := .int .i64 s) (sl_own_set (g := w.heap.size + 1 + 1) (i := 3) (u := .int .i64 f) (sl_own_set (g := w.heap.size + 1 + 1) (i := 2) (u := .slice yc mc dc_) HO2.out (by omega)) (by omega)) (by omega)) (by omega)) (by omega)) (by omega)) (by omega)) (by omega))
  have Z4 := Lib.hid (own_set (g := w.heap.size + 1) (i := 4) (u := .int .i64 s) (own_set (g := w.heap.size + 1) (i := 3) (u := .int .i64 f) (own_set (g := w.heap.size + 1) (i := 2) (u := .slice yc mc dc_) (own_set (g := w.heap.size + 1) (i := 1) (u := .slice yb mb db) (own_set (g := w.heap.size + 1) (i := 0) (u := .slice ya ma da) (own_set (g := w.heap.size + 1 + 1) (i := 4) (u := .int .i64 s) (own_set (g := w.heap.size + 1 + 1) (i := 3) (u := .int .i64 f) (own_set (g := w.heap.size + 1 + 1) (i := 2) (u := .slice yc mc dc_) HO3.out (by omega)) (by omega)) (by omega)) (by omega)) (by omega)) (by omega)) (by omega)) (by omega))
  have Z5 := Lib.hid ((((((((HB.out.setCell (p := ⟨w.heap.size + 1 + 1, 2, none⟩) (by show w.heap.size ≤ w.heap.size + 1 + 1; omega) (.slice yc mc dc_)).setCell (p := ⟨w.heap.size + 1 + 1, 3, none⟩) (by show w.heap.size ≤ w.heap.size + 1 + 1; omega) (.int .i64 f)).setCell (p := ⟨w.heap.size + 1 + 1, 4, none⟩) (by show w.heap.size ≤ w.heap.size + 1 + 1; omega) (.int .i64 s)).setCell (p := ⟨w.heap.size + 1, 0, none⟩) (by show w.heap.size ≤ w.heap.size + 1; omega) (.slice ya ma da)).setCell (p := ⟨w.heap.size + 1, 1, none⟩) (by show w.heap.size ≤ w.heap.size + 1; omega) (.slice yb mb db)).setCell (p := ⟨w.heap.size + 1, 2, none⟩) (by show w.heap.size ≤ w.heap.size + 1; omega) (.slice yc mc dc_)).setCell (p := ⟨w.heap.size + 1, 3, none⟩) (by show w.heap.size ≤ w.heap.size + 1; omega) (.int .i64 f)).setCell (p := ⟨w.heap.size + 1, 4, none⟩) (by show w.heap.size ≤ w.heap.size + 1; omega) (.int .i64 s))
  go_wp2_with fail
  refine bodyPost_ret (Ret.results_c rfl _ _ (w.heap.size + 1) (dc (.slice ya ma da) (.slice yb mb db) (.slice yc mc dc_) f s).toList rfl aggD Z1.out.cells) rfl ?_
  have hlb := fun g hg => (Sl.Own.lt Z3.out g hg).1
  have hlc := fun g hg => (Own.lt Z4.out g hg).1
  exact ⟨_, _, _, rfl, ⟨Z2.out.mono (by omega), Sl.Own.mono Z3.out (by omega), Z4.out.mono (by omega), fun g e1 e2 => by have h5 := HLA.out g e1; have h6 := hlb g e2; omega, fun g e1 e2 => by have h5 := HLA.out g e1; have h6 := hlc g e2; omega, fun g e1 e2 => by have h5 := HLB.out g e1; have h6 := hlc g e2; omega⟩, Z5.out⟩

set_option maxHeartbeats 4000000 in
theorem eqData (a b c a2 b2 c2 : Value) (x y : Dt) (w : World) (q : Bool) (hq : decide (x = y) = q) (h : DHold w a b c x) (g : DHold w a2 b2 c2 y) (h1 : x.1.length ≤ 100000000) (h2 : x.2.1.length ≤ 100000000) (h3 : x.2.2.1.length ≤ 100000000) (g1 : y.1.length ≤ 100000000) (g2 : y.2.1.length ≤ 100000000) (g3 : y.2.2.1.length ≤ 100000000) :
    Calls Try.prog 15 #[.agg (dc a b c x.2.2.2.1 x.2.2.2.2), .agg (dc a2 b2 c2 y.2.2.2.1 y.2.2.2.2)] w fun e w' => e = .returned (.bool q) ∧ Below w.heap.size w w' := by
  obtain ⟨l, m, k, f, s⟩ := x
  obtain ⟨l2, m2, k2, f2, s2⟩ := y
  simp only at h1 h2 h3 g1 g2 g3 ⊢
  obtain ⟨xa, na, ca, xb, nb, cb, xc, nc, cc, rfl, rfl, rfl⟩ := h.shape
  obtain ⟨ua, va, oa, ub, vb, ob, uc, vc, oc, rfl, rfl, rfl⟩ := g.shape
  have hb0 := (Below.refl w.heap.size w).alloc (Nat.le_refl _) (.cells (dc (.slice xa na ca) (.slice xb nb cb) (.slice xc nc cc) f s) 32)
  have HB := Lib.hid (hb0.alloc (by simp) (.cells (dc (.slice ua va oa) (.slice ub vb ob) (.slice uc vc oc) f2 s2) 32))
  have H0 := Lib.hid h; have G0 := Lib.hid g
  have HX := Lib.hid ((Ret.Blk.new w (dc (.slice xa na ca) (.slice xb nb cb) (.slice xc nc cc) f s) 32).on ((Below.refl _ _).alloc (Nat.le_refl _) (.cells (dc (.slice ua va oa) (.slice ub vb ob) (.slice uc vc oc) f2 s2) 32)))
  have HY := Lib.hid (Ret.Blk.new' (w := w.alloc (.cells (dc (.slice xa na ca) (.slice xb nb cb) (.slice xc nc cc) f s) 32)) (n := w.heap.size + 1) (dc (.slice ua va oa) (.slice ub vb ob) (.slice uc vc oc) f2 s2) 32 (by simp))
  have HQ := Lib.hid hq
  clear h g hq hb0
  go_enter Try.func15, Try.ntmps15
  go_wp2_with fail
  refine (eqName _ _ l l2 _ (H0.out.on HB.out).1 (G0.out.on HB.out).1 (by omega) (by omega)).mono ?_
  rintro e w1 ⟨rfl, hb⟩
  replace HX := Lib.hid (HX.out.on hb); replace HY := Lib.hid (HY.out.on hb)
  replace HB := Lib.hid (HB.out.trans (hb.mono HB.out.size)); clear hb
  have q0 : w1.cell? ⟨w.heap.size, 0, none⟩ = some (.slice xa na ca) := HX.out.cell 0
  have q1 : w1.cell? ⟨w.heap.size, 1, none⟩ = some (.slice xb nb cb) := HX.out.cell 1
  have q2 : w1.cell? ⟨w.heap.size, 2, none⟩ = some (.slice xc nc cc) := HX.out.cell 2
  have q3 : w1.cell? ⟨w.heap.size, 3, none⟩ = some (.int .i64 f) := HX.out.cell 3
  have q4 : w1.cell? ⟨w.heap.size, 4, none⟩ = some (.int .i64 s) := HX.out.cell 4
  have p0 : w1.cell? ⟨w.heap.size + 1, 0, none⟩ = some (.slice ua va oa) := HY.out.cell 0
  have p1 : w1.cell? ⟨w.heap.size + 1, 1, none⟩ = some (.slice ub vb ob) := HY.out.cell 1
  have p2 : w1.cell? ⟨w.heap.size + 1, 2, none⟩ = some (.slice uc vc oc) := HY.out.cell 2
  have p3 : w1.cell? ⟨w.heap.size + 1, 3, none⟩ = some (.int .i64 f2) := HY.out.cell 3
  have p4 : w1.cell? ⟨w.heap.size + 1, 4, none⟩ = some (.int .i64 s2) := HY.out.cell 4
  by_cases e1 : l = l2
  · rw [eqB_true e1]
    go_wp2_with fail
    clear q0 q1 q2 q3 q4 p0 p1 p2 p3 p4
    refine (Sl.eqByteS _ _ m m2 _ (H0.out.on HB.out).2.1 (G0.out.on HB.out).2.1 h2 g2).mono ?_
    rintro e w2 ⟨rfl, hb⟩
    replace HX := Lib.hid (HX.out.on hb); replace HY := Lib.hid (HY.out.on hb)
    replace HB := Lib.hid (HB.out.trans (hb.mono HB.out.size)); clear hb
    have q0 : w2.cell? ⟨w.heap.size, 0, none⟩ = some (.slice xa na ca) := HX.out.cell 0
    have q1 : w2.cell? ⟨w.heap.size, 1, none⟩ = some (.slice xb nb cb) := HX.out.cell 1
    have q2 : w2.cell? ⟨w.heap.size, 2, none⟩ = some (.slice xc nc cc) := HX.out.cell 2
    have q3 : w2.cell? ⟨w.heap.size, 3, none⟩ = some (.int .i64 f) := HX.out.cell 3
    have q4 : w2.cell? ⟨w.heap.size, 4, none⟩ = some (.int .i64 s) := HX.out.cell 4
    have p0 : w2.cell? ⟨w.heap.size + 1, 0, none⟩ = some (.slice ua va oa) := HY.out.cell 0
    have p1 : w2.cell? ⟨w.heap.size + 1, 1, none⟩ = some (.slice ub vb ob) := HY.out.cell 1
    have p2 : w2.cell? ⟨w.heap.size + 1, 2, none⟩ = some (.slice uc vc oc) := HY.out.cell 2
    have p3 : w2.cell? ⟨w.heap.size + 1, 3, none⟩ = some (.int .i64 f2) := HY.out.cell 3
    have p4 : w2.cell? ⟨w.heap.size + 1, 4, none⟩ = some (.int .i64 s2) := HY.out.cell 4
    by_cases e2 : m = m2
    · rw [Sl.eqB_true e2]
      go_wp2_with fail
      clear q0 q1 q2 q3 q4 p0 p1 p2 p3 p4
      refine (eqName _ _ k k2 _ (H0.out.on HB.out).2.2 (G0.out.on HB.out).2.2 (by omega) (by omega)).mono ?_
      rintro e w3 ⟨rfl, hb⟩
      replace HX := Lib.hid (HX.out.on hb); replace HY := Lib.hid (HY.out.on hb)
      replace HB := Lib.hid (HB.out.trans (hb.mono HB.out.size)); clear hb
      have q0 : w3.cell? ⟨w.heap.size, 0, none⟩ = some (.slice xa na ca) := HX.out.cell 0
      have q1 : w3.cell? ⟨w.heap.size, 1, none⟩ = some (.slice xb nb cb) := HX.out.cell 1
      have q2 : w3.cell? ⟨w.heap.size, 2, none⟩ = some (.slice xc nc cc) := HX.out.cell 2
      have q3 : w3.cell? ⟨w.heap.size, 3, none⟩ = some (.int .i64 f) := HX.out.cell 3
      have q4 : w3.cell? ⟨w.heap.size, 4, none⟩ = some (.int .i64 s) := HX.out.cell 4
      have p0 : w3.cell? ⟨w.heap.size + 1, 0, none⟩ = some (.slice ua va oa) := HY.out.cell 0
      have p1 : w3.cell? ⟨w.heap.size + 1, 1, none⟩ = some (.slice ub vb ob) := HY.out.cell 1
      have p2 : w3.cell? ⟨w.heap.size + 1, 2, none⟩ = some (.slice uc vc oc) := HY.out.cell 2
      have p3 : w3.cell? ⟨w.heap.size + 1, 3, none⟩ = some (.int .i64 f2) := HY.out.cell 3
      have p4 : w3.cell? ⟨w.heap.size + 1, 4, none⟩ = some (.int .i64 s2) := HY.out.cell 4
      by_cases e3 : k = k2
      · rw [eqB_true e3]
        by_cases e4 : f = f2
        · have t1 : (f != f2) = false := by simp [e4]
          by_cases e5 : s = s2
          · have t2 : (s != s2) = false := by simp [e5]
            have HE : Hid (q = true) := Lib.hid (by rw [← HQ.out]; simp [e1, e2, e3, e4, e5])
            clear e1 e2 e3 e4 e5
            go_wp2
            go_ret
            exact ⟨ret_bool HE.out.symm, HB.out⟩
          · have t2 : (s != s2) = true := by simpa using e5
            have HE : Hid (q = false) := Lib.hid (by rw [← HQ.out]; simp [e5])
            clear e1 e2 e3 e4 e5
            go_wp2
            go_ret
            exact ⟨ret_bool HE.out.symm, HB.out⟩
        · have t1 : (f != f2) = true := by simpa using e4
          have HE : Hid (q = false) := Lib.hid (by rw [← HQ.out]; simp [e4])
          clear e4
          go_wp2
          go_ret
          exact ⟨ret_bool HE.out.symm, HB.out⟩
      · rw [eqB_false e3]
        have HE : Hid (q = false) := Lib.hid (by rw [← HQ.out]; simp [e3])
        clear e3
        go_wp2
        go_ret
        exact ⟨ret_bool HE.out.symm, HB.out⟩
    · rw [Sl.eqB_false e2]
      have HE : Hid (q = false) := Lib.hid (by rw [← HQ.out]; simp [e2])
      clear e2
      go_wp2
      go_ret
      exact ⟨ret_bool HE.out.symm, HB.out⟩
  · rw [eqB_false e1]
    have HE : Hid (q = false) := Lib.hid (by rw [← HQ.out]; simp [e1])
    clear e1
    go_wp2
    go_ret
    exact ⟨ret_bool HE.out.symm, HB.out⟩

theorem szByteS (x : Option Addr) (n cap : Nat) (w : World) (left : Int) (hn : n ≤ 9223372036854775807) (h0 : 0 ≤ left) (h1 : left ≤ 1048576) :
    Calls Try.prog 40 #[.slice x n cap, .int .i64 left] w fun e w' => e = .returned (.int .i64 (if (n : Int) ≤ left then left - n else -1)) ∧ w = w' := by
  by_cases h : (n : Int) ≤ left
  · rw [if_pos h]
    have h2 : ¬ left - (n : Int) < 0 := by omega
    go_enter Try.func40, Try.ntmps40
    go_wp2
    go_ret
    exact ⟨rfl, rfl⟩
  · rw [if_neg h]
    have h2 : left - (n : Int) < 0 := by omega
    go_enter Try.func40, Try.ntmps40
    go_wp2
    go_ret
    exact ⟨rfl, rfl⟩
def bulkD (x : Dt) : Nat := bulk x.1 + x.2.1.length + bulk x.2.2.1
def szD (x : Dt) (left : Int) : Int := if (bulkD x : Int) ≤ left then left - bulkD x else -1
theorem szD_fit {x : Dt} {left : Int} (h : (bulkD x : Int) ≤ left) : szD x left = left - bulkD x := if_pos h
theorem szD_not {x : Dt} {left : Int} (h : left < (bulkD x : Int)) : szD x left = -1 := if_neg (by omega)
set_option maxHeartbeats 2000000 in
theorem szData (a b c : Value) (x : Dt) (w : World) (left : Int) (h : DHold w a b c x) (h1 : x.1.length ≤ 9223372036854775807) (h2 : x.2.1.length ≤ 9223372036854775807) (h3 : x.2.2.1.length ≤ 9223372036854775807) (hs1 : ∀ y ∈ x.1, y.size ≤ maxLen) (hs3 : ∀ y ∈ x.2.2.1, y.size ≤ maxLen) (h0 : 0 ≤ left) (hl : left ≤ 1048576) :
    Calls Try.prog 11 #[.agg (dc a b c x.2.2.2.1 x.2.2.2.2), .int .i64 left] w fun e w' => e = .returned (.int .i64 (szD x left)) ∧ Below w.heap.size w w' := by
  obtain ⟨l, m, k, f, s⟩ := x
  simp only at h1 h2 h3 hs1 hs3 ⊢
  obtain ⟨xa, na, ca, xb, nb, cb, xc, nc, cc, rfl, rfl, rfl⟩ := h.shape
  obtain rfl : nb = m.length := Sl.Holds.lenEq h.2.1
  have HB := Lib.hid ((Below.refl w.heap.size w).alloc (Nat.le_refl _) (.cells (dc (.slice xa na ca) (.slice xb m.length cb) (.slice xc nc cc) f s) 27))
  have H0 := Lib.hid h; have S1 := Lib.hid hs1; have S3 := Lib.hid hs3
  have HX := Lib.hid (Ret.Blk.new w (dc (.slice xa na ca) (.slice xb m.length cb) (.slice xc nc cc) f s) 27)
  clear h hs1 hs3
  go_enter Try.func11, Try.ntmps11
  go_wp2_with fail
  refine (szName _ l _ left (H0.out.on HB.out).1 h1 S1.out h0 hl).mono ?_
  rintro e w1 ⟨rfl, hb⟩
  replace HX := Lib.hid (HX.out.on hb)
  replace HB := Lib.hid (HB.out.trans (hb.mono HB.out.size)); clear hb
  have q0 : w1.cell? ⟨w.heap.size, 0, none⟩ = some (.slice xa na ca) := HX.out.cell 0
  have q1 : w1.cell? ⟨w.heap.size, 1, none⟩ = some (.slice xb m.length cb) := HX.out.cell 1
  have q2 : w1.cell? ⟨w.heap.size, 2, none⟩ = some (.slice xc nc cc) := HX.out.cell 2
  have q3 : w1.cell? ⟨w.heap.size, 3, none⟩ = some (.int .i64 f) := HX.out.cell 3
  have q4 : w1.cell? ⟨w.heap.size, 4, none⟩ = some (.int .i64 s) := HX.out.cell 4
  by_cases t1 : (bulk l : Int) ≤ left
  · rw [szL_fit t1]
    have g1 : ¬ left - (bulk l : Int) < 0 := by omega
    go_wp2_with fail
    clear q0 q1 q2 q3 q4
    refine (szByteS _ _ _ _ (left - (bulk l : Int)) h2 (by omega) (by omega)).mono ?_
    rintro e w2 ⟨rfl, rfl⟩
    have q0 : w1.cell? ⟨w.heap.size, 0, none⟩ = some (.slice xa na ca) := HX.out.cell 0
    have q1 : w1.cell? ⟨w.heap.size, 1, none⟩ = some (.slice xb m.length cb) := HX.out.cell 1
    have q2 : w1.cell? ⟨w.heap.size, 2, none⟩ = some (.slice xc nc cc) := HX.out.cell 2
    have q3 : w1.cell? ⟨w.heap.size, 3, none⟩ = some (.int .i64 f) := HX.out.cell 3
    have q4 : w1.cell? ⟨w.heap.size, 4, none⟩ = some (.int .i64 s) := HX.out.cell 4
    by_cases t2 : (m.length : Int) ≤ left - (bulk l : Int)
    · rw [if_pos t2]
      have g2 : ¬ left - (bulk l : Int) - (m.length : Int) < 0 := by omega
      go_wp2_with fail
      clear q0 q1 q2 q3 q4
      refine (szName _ k _ (left - (bulk l : Int) - (m.length : Int)) (H0.out.on HB.out).2.2 h3 S3.out (by omega) (by omega)).mono ?_
      rintro e w3 ⟨rfl, hb⟩
      replace HX := Lib.hid (HX.out.on hb)
      replace HB := Lib.hid (HB.out.trans (hb.mono HB.out.size)); clear hb
      have q0 : w3.cell? ⟨w.heap.size, 0, none⟩ = some (.slice xa na ca) := HX.out.cell 0
      have q1 : w3.cell? ⟨w.heap.size, 1, none⟩ = some (.slice xb m.length cb) := HX.out.cell 1
      have q2 : w3.cell? ⟨w.heap.size, 2, none⟩ = some (.slice xc nc cc) := HX.out.cell 2
      have q3 : w3.cell? ⟨w.heap.size, 3, none⟩ = some (.int .i64 f) := HX.out.cell 3
      have q4 : w3.cell? ⟨w.heap.size, 4, none⟩ = some (.int .i64 s) := HX.out.cell 4
      by_cases t3 : (bulk k : Int) ≤ left - (bulk l : Int) - (m.length : Int)
      · rw [szL_fit t3]
        have g3 : ¬ left - (bulk l : Int) - (m.length : Int) - (bulk k : Int) < 0 := by omega
        have HZ : Hid (szD (l, m, k, f, s) left = left - (bulk l : Int) - (m.length : Int) - (bulk k : Int)) := Lib.hid (by rw [szD_fit (by show ((bulk l + m.length + bulk k : Nat) : Int) ≤ left; omega)]; show left - ((bulk l + m.length + bulk k : Nat) : Int) = _; omega)
        go_wp2
        go_ret
        exact ⟨ret_int HZ.out.symm, HB.out⟩
      · rw [szL_not (by omega)]
        have hz : szD (l, m, k, f, s) left = -1 := szD_not (by show left < ((bulk l + m.length + bulk k : Nat) : Int); omega)
        have HZ := Lib.hid hz; clear hz
        go_wp2
        go_ret
        exact ⟨ret_int HZ.out.symm, HB.out⟩
    · rw [if_neg t2]
      have hz : szD (l, m, k, f, s) left = -1 := szD_not (by show left < ((bulk l + m.length + bulk k : Nat) : Int); omega)
      have HZ := Lib.hid hz; clear hz
      go_wp2
      go_ret
      exact ⟨ret_int HZ.out.symm, HB.out⟩
  · rw [szL_not (l := l) (left := left) (by omega)]
    have hz : szD (l, m, k, f, s) left = -1 := szD_not (by show left < ((bulk l + m.length + bulk k : Nat) : Int); omega)
    have HZ := Lib.hid hz; clear hz
    go_wp2
    go_ret
    exact ⟨ret_int HZ.out.symm, HB.out⟩

def advD (x : Dt) : Nat := x.1.length + x.2.1.length + x.2.2.1.length
theorem advD_big {x : Dt} {n : Nat} (h : bulkD x ≤ n) : advD x ≤ n := by have h1 := bulk_len x.1; have h2 := bulk_len x.2.2.1; unfold bulkD at h; unfold advD; omega
theorem advD_bulk (x : Dt) : advD x ≤ bulkD x := by have h1 := bulk_len x.1; have h2 := bulk_len x.2.2.1; unfold advD bulkD; omega
/-- A packet whose parts are marked. -/
def mkD (k : Int) (x : Dt) : Dt := (marks markT k x.1.length, Sl.marks .u8 (k + x.1.length) x.2.1.length, marks markT (k + x.1.length + x.2.1.length) x.2.2.1.length, x.2.2.2)
set_option maxHeartbeats 2000000 in
theorem markData (B E : Nat) (a b c : Value) (x : Dt) (w : World) (k : Int) (h : DOwn B w a b c x) (hE : (∀ g, a.ownBlock = some g → g < E) ∧ (∀ g, b.ownBlock = some g → g < E) ∧ ∀ g, c.ownBlock = some g → g < E) (hl : advD x ≤ 100000000) (h0 : 0 ≤ k) (h1 : k ≤ 1000000000) :
    Calls Try.prog 19 #[.agg (dc a b c x.2.2.2.1 x.2.2.2.2), .int .i64 k] w fun e w' => e = .returned (.int .i64 (k + (advD x : Int))) ∧ DOwn B w' a b c (mkD k x) ∧ Wrote B E w w' := by
  obtain ⟨l, m, n, f, s⟩ := x
  obtain ⟨xa, na, ca, xb, nb, cb, xc, nc, cc, rfl, rfl, rfl⟩ := h.hold.shape
  obtain ⟨oa, ob, oc, ab, ac, bc⟩ := h
  have hl' : l.length + m.length + n.length ≤ 100000000 := hl
  simp only at oa ob oc ⊢
  have hal := (Below.refl w.heap.size w).alloc (Nat.le_refl _) (.cells (dc (.slice xa na ca) (.slice xb nb cb) (.slice xc nc cc) f s) 32)
  have HW := Lib.hid (Wrote.ofBelow (B := B) (E := E) hal)
  have HX := Lib.hid (Ret.Blk.new w (dc (.slice xa na ca) (.slice xb nb cb) (.slice xc nc cc) f s) 32)
  have OA := Lib.hid (oa.on hal); have OB := Lib.hid (Own.on (enc := Value.int .u8) ob hal); have OC := Lib.hid (oc.on hal)
  have LA := Lib.hid (fun g hg => And.intro (oa.lt g hg).1 (And.intro (oa.lt g hg).2 (hE.1 g hg)))
  have LB := Lib.hid (fun g hg => And.intro (ob.lt g hg).1 (And.intro (ob.lt g hg).2 (hE.2.1 g hg)))
  have LC := Lib.hid (fun g hg => And.intro (oc.lt g hg).1 (And.intro (oc.lt g hg).2 (hE.2.2 g hg)))
  have AB := Lib.hid ab; have AC := Lib.hid ac; have BC := Lib.hid bc
  clear oa ob oc ab ac bc hE hal hl
  go_enter Try.func19, Try.ntmps19
  go_wp2_with fail
  refine (markName B _ l _ k OA.out (by omega) h0 (by omega)).mono ?_
  rintro e w1 ⟨rfl, ho, hg⟩
  have OA1 := Lib.hid ho
  have OB1 := Lib.hid (Own.grown (enc := Value.int .u8) OB.out hg (apart_or AB.out.symm))
  have OC1 := Lib.hid (OC.out.grown hg (apart_or AC.out.symm))
  have HX1 := Lib.hid (HX.out.grown hg (fun e => by have h5 := (LA.out _ e.symm).2.1; omega))
  have HW1 := Lib.hid (HW.out.trans (Wrote.of hg (fun g hg => ⟨(LA.out g hg).1, (LA.out g hg).2.2⟩)))
  clear ho hg
  have q0 : w1.cell? ⟨w.heap.size, 0, none⟩ = some (.slice xa na ca) := HX1.out.cell 0
  have q1 : w1.cell? ⟨w.heap.size, 1, none⟩ = some (.slice xb nb cb) := HX1.out.cell 1
  have q2 : w1.cell? ⟨w.heap.size, 2, none⟩ = some (.slice xc nc cc) := HX1.out.cell 2
  have q3 : w1.cell? ⟨w.heap.size, 3, none⟩ = some (.int .i64 f) := HX1.out.cell 3
  have q4 : w1.cell? ⟨w.heap.size, 4, none⟩ = some (.int .i64 s) := HX1.out.cell 4
  go_wp2_with fail
  clear q0 q1 q2 q3 q4
  refine (Sl.markByteS B _ m _ (k + (l.length : Int)) OB1.out (by omega) (by omega) (by omega)).mono ?_
  rintro e w2 ⟨rfl, ho, hg⟩
  have OB2 := Lib.hid ho
  have OA2 := Lib.hid (OA1.out.grown hg (apart_or AB.out))
  have OC2 := Lib.hid (OC1.out.grown hg (apart_or BC.out.symm))
  have HX2 := Lib.hid (HX1.out.grown hg (fun e => by have h5 := (LB.out _ e.symm).2.1; omega))
  have HW2 := Lib.hid (HW1.out.trans (Wrote.of hg (fun g hg => ⟨(LB.out g hg).1, (LB.out g hg).2.2⟩)))
  clear ho hg
  have q0 : w2.cell? ⟨w.heap.size, 0, none⟩ = some (.slice xa na ca) := HX2.out.cell 0
  have q1 : w2.cell? ⟨w.heap.size, 1, none⟩ = some (.slice xb nb cb) := HX2.out.cell 1
  have q2 : w2.cell? ⟨w.heap.size, 2, none⟩ = some (.slice xc nc cc) := HX2.out.cell 2
  have q3 : w2.cell? ⟨w.heap.size, 3, none⟩ = some (.int .i64 f) := HX2.out.cell 3
  have q4 : w2.cell? ⟨w.heap.size, 4, none⟩ = some (.int .i64 s) := HX2.out.cell 4
  go_wp2_with fail
  clear q0 q1 q2 q3 q4
  refine (markName B _ n _ (k + (l.length : Int) + (m.length : Int)) OC2.out (by omega) (by omega) (by omega)).mono ?_
  rintro e w3 ⟨rfl, ho, hg⟩
  have OC3 := Lib.hid ho
  have OA3 := Lib.hid (OA2.out.grown hg (apart_or AC.out))
  have OB3 := Lib.hid (Own.grown (enc := Value.int .u8) OB2.out hg (apart_or BC.out))
  have HW3 := Lib.hid (HW2.out.trans (Wrote.of hg (fun g hg => ⟨(LC.out g hg).1, (LC.out g hg).2.2⟩)))
  clear ho hg
  go_wp2_with fail
  go_ret
  refine ⟨ret_int (by show _ = k + ((l.length + m.length + n.length : Nat) : Int); omega), ⟨OA3.out, OB3.out, OC3.out, AB.out, AC.out, BC.out⟩, HW3.out⟩

set_option maxHeartbeats 2000000 in
theorem heldData (a b c : Value) (w : World) (k : Int) (x : Dt) (h : DHold w a b c (mkD k x)) (hl : advD x ≤ 100000000) (h0 : 0 ≤ k) (h1 : k ≤ 1000000000) :
    Calls Try.prog 24 #[.agg (dc a b c x.2.2.2.1 x.2.2.2.2), .int .i64 k] w fun e w' => e = .returned (.int .i64 (k + (advD x : Int))) ∧ Below w.heap.size w w' := by
  obtain ⟨l, m, n, f, s⟩ := x
  obtain ⟨xa, na, ca, xb, nb, cb, xc, nc, cc, rfl, rfl, rfl⟩ := h.shape
  have hl' : l.length + m.length + n.length ≤ 100000000 := hl
  have HB := Lib.hid ((Below.refl w.heap.size w).alloc (Nat.le_refl _) (.cells (dc (.slice xa na ca) (.slice xb nb cb) (.slice xc nc cc) f s) 32))
  have H0 := Lib.hid h
  have HX := Lib.hid (Ret.Blk.new w (dc (.slice xa na ca) (.slice xb nb cb) (.slice xc nc cc) f s) 32)
  clear h hl
  go_enter Try.func24, Try.ntmps24
  go_wp2_with fail
  refine (heldName _ _ k l.length (H0.out.on HB.out).1 (by omega) h0 (by omega)).mono ?_
  rintro e w1 ⟨rfl, hb⟩
  replace HX := Lib.hid (HX.out.on hb)
  replace HB := Lib.hid (HB.out.trans (hb.mono HB.out.size)); clear hb
  have q0 : w1.cell? ⟨w.heap.size, 0, none⟩ = some (.slice xa na ca) := HX.out.cell 0
  have q1 : w1.cell? ⟨w.heap.size, 1, none⟩ = some (.slice xb nb cb) := HX.out.cell 1
  have q2 : w1.cell? ⟨w.heap.size, 2, none⟩ = some (.slice xc nc cc) := HX.out.cell 2
  have q3 : w1.cell? ⟨w.heap.size, 3, none⟩ = some (.int .i64 f) := HX.out.cell 3
  have q4 : w1.cell? ⟨w.heap.size, 4, none⟩ = some (.int .i64 s) := HX.out.cell 4
  have t1 : ¬ k + (l.length : Int) < 0 := by omega
  go_wp2_with fail
  clear q0 q1 q2 q3 q4
  refine (Sl.heldByteS _ _ (k + (l.length : Int)) m.length (H0.out.on HB.out).2.1 (by omega) (by omega) (by omega)).mono ?_
  rintro e w2 ⟨rfl, rfl⟩
  have q0 : w1.cell? ⟨w.heap.size, 0, none⟩ = some (.slice xa na ca) := HX.out.cell 0
  have q1 : w1.cell? ⟨w.heap.size, 1, none⟩ = some (.slice xb nb cb) := HX.out.cell 1
  have q2 : w1.cell? ⟨w.heap.size, 2, none⟩ = some (.slice xc nc cc) := HX.out.cell 2
  have q3 : w1.cell? ⟨w.heap.size, 3, none⟩ = some (.int .i64 f) := HX.out.cell 3
  have q4 : w1.cell? ⟨w.heap.size, 4, none⟩ = some (.int .i64 s) := HX.out.cell 4
  have t2 : ¬ k + (l.length : Int) + (m.length : Int) < 0 := by omega
  go_wp2_with fail
  clear q0 q1 q2 q3 q4
  refine (heldName _ _ (k + (l.length : Int) + (m.length : Int)) n.length (H0.out.on HB.out).2.2 (by omega) (by omega) (by omega)).mono ?_
  rintro e w3 ⟨rfl, hb⟩
  replace HB := Lib.hid (HB.out.trans (hb.mono HB.out.size)); clear hb
  have t3 : ¬ k + (l.length : Int) + (m.length : Int) + (n.length : Int) < 0 := by omega
  go_wp2_with fail
  go_ret
  exact ⟨ret_int (by show _ = k + ((l.length + m.length + n.length : Nat) : Int); omega), HB.out⟩
end Go.Proofs.Ytbooamnlocobfaa.Row
/- Data packets in the words of the exact laws: the kind; the laws' helpers for it; a packet that came in as an argument. No conditions but that lengths fit. -/
namespace Go.Proofs.Ytbooamnlocobfaa.Row
open Go.ChangeShapes Go.WideShapes Go.ChangeAt Go.RowKit Go.Instr
set_option linter.unusedVariables false
set_option maxRecDepth 100000

theorem u8one (x : Int) : (Value.int .u8 x).oneCell' = true := rfl
def kBs : Kd (List Int) (Rw Int) := kS 5 (Value.int .u8) u8one
def kD : Kd Dt (Rw ByteArray × Rw Int × Rw ByteArray × Int × Int) := (kNm 9).pair (kBs.pair ((kNm 9).pair (kInt.pair kInt)))
section
variable {w : World} {a b c V : Value} {x : Dt} {B E : Nat}
theorem kD_at (h : kD.At w V x) : ∃ a b c, V = .agg (dc a b c x.2.2.2.1 x.2.2.2.2) ∧ DHold w a b c x := by
  obtain ⟨⟨r, q, t, f, s⟩, rfl, rfl, h⟩ := h
  exact ⟨r.v, q.v, t.v, rfl, kNm_at (e := 9) ⟨r, rfl, rfl, h.1⟩, kS_at (h1 := u8one) (e := 5) ⟨q, rfl, rfl, h.2.1⟩, kNm_at (e := 9) ⟨t, rfl, rfl, h.2.2.1⟩⟩
theorem kD_of (h : DHold w a b c x) : kD.At w (.agg (dc a b c x.2.2.2.1 x.2.2.2.2)) x := by
  obtain ⟨l, m, k, f, s⟩ := x
  obtain ⟨r, rfl, e1, h1⟩ := kNm_of (e := 9) h.1
  obtain ⟨q, rfl, e2, h2⟩ := kS_of (enc := Value.int .u8) (h1 := u8one) (e := 5) h.2.1
  obtain ⟨t, rfl, e3, h3⟩ := kNm_of (e := 9) h.2.2
  exact ⟨(r, q, t, f, s), rfl, Prod.ext e1 (Prod.ext e2 (Prod.ext e3 rfl)), h1, h2, h3, trivial, trivial⟩
theorem nodup3 {u v t : Option Nat} : (u.toList ++ (v.toList ++ t.toList)).Nodup ↔ (∀ g, u = some g → v ≠ some g) ∧ (∀ g, u = some g → t ≠ some g) ∧ (∀ g, v = some g → t ≠ some g) := by
  cases u <;> cases v <;> cases t <;> simp <;> (try constructor) <;> (try intro h) <;> (try omega)
theorem kD_blocks (r : Rw ByteArray) (q : Rw Int) (t : Rw ByteArray) (f s : Int) : kD.blocks (r, q, t, f, s) = r.v.ownBlock.toList ++ (q.v.ownBlock.toList ++ t.v.ownBlock.toList) := by
  show (kNm 9).blocks r ++ (kBs.blocks q ++ ((kNm 9).blocks t ++ ([] ++ []))) = _
  rw [kNm_blocks, kNm_blocks, List.append_nil, List.append_nil]
  unfold kBs
  rw [kS_blocks]
theorem kD_mk (h : DOwn B w a b c x) (hE : (∀ g, a.ownBlock = some g → g < E) ∧ (∀ g, b.ownBlock = some g → g < E) ∧ ∀ g, c.ownBlock = some g → g < E) : kD.In B E w (.agg (dc a b c x.2.2.2.1 x.2.2.2.2)) x := by
  obtain ⟨l, m, k, f, s⟩ := x
  obtain ⟨o1, o2, o3, ab, ac, bc⟩ := h
  obtain ⟨r, rfl, e1, h1, -⟩ := kNm_mk o1 hE.1
  obtain ⟨q, rfl, e2, h2, -⟩ := kS_mk (h1 := u8one) (e := 5) (enc := Value.int .u8) o2 hE.2.1
  obtain ⟨t, rfl, e3, h3, -⟩ := kNm_mk o3 hE.2.2
  refine ⟨(r, q, t, f, s), rfl, Prod.ext e1 (Prod.ext e2 (Prod.ext e3 rfl)), ⟨h1, h2, h3, trivial, trivial⟩, ?_, ?_⟩
  · rw [kD_blocks]; exact nodup3.2 ⟨ab, ac, bc⟩
  · rw [kD_blocks]
    intro g hg
    rcases List.mem_append.1 hg with hg | hg
    · exact hE.1 g (show r.v.ownBlock = some g by simpa using hg)
    · rcases List.mem_append.1 hg with hg | hg
      · exact hE.2.1 g (show q.v.ownBlock = some g by simpa using hg)
      · exact hE.2.2 g (show t.v.ownBlock = some g by simpa using hg)
theorem kD_own (h : DOwn B w a b c x) : kD.In B w.heap.size w (.agg (dc a b c x.2.2.2.1 x.2.2.2.2)) x := kD_mk h ⟨fun g hg => (h.1.lt g hg).2, fun g hg => (Sl.Own.lt h.2.1 g hg).2, fun g hg => (h.2.2.1.lt g hg).2⟩
theorem kD_in (h : kD.In B E w V x) : ∃ a b c, V = .agg (dc a b c x.2.2.2.1 x.2.2.2.2) ∧ DOwn B w a b c x ∧ (∀ g, a.ownBlock = some g → g < E) ∧ (∀ g, b.ownBlock = some g → g < E) ∧ ∀ g, c.ownBlock = some g → g < E := by
  obtain ⟨⟨r, q, t, f, s⟩, rfl, rfl, h, hn, hl⟩ := h
  rw [kD_blocks] at hn hl
  obtain ⟨ab, ac, bc⟩ := nodup3.1 hn
  have la : ∀ g, r.v.ownBlock = some g → g < E := fun g hg => hl g (List.mem_append_left _ (by simp [hg]))
  have lb : ∀ g, q.v.ownBlock = some g → g < E := fun g hg => hl g (List.mem_append_right _ (List.mem_append_left _ (by simp [hg])))
  have lc : ∀ g, t.v.ownBlock = some g → g < E := fun g hg => hl g (List.mem_append_right _ (List.mem_append_right _ (by simp [hg])))
  have nd : ∀ u : Option Nat, u.toList.Nodup := fun u => by cases u <;> simp
  have i1 := kNm_in (E := E) (e := 9) ⟨r, rfl, rfl, h.1, by rw [kNm_blocks]; exact nd _, by rw [kNm_blocks]; intro g hg; exact la g (by simpa using hg)⟩
  have i2 := kS_in (E := E) (h1 := u8one) (e := 5) (enc := Value.int .u8) ⟨q, rfl, rfl, h.2.1, by rw [kS_blocks]; exact nd _, by rw [kS_blocks]; intro g hg; exact lb g (by simpa using hg)⟩
  have i3 := kNm_in (E := E) (e := 9) ⟨t, rfl, rfl, h.2.2.1, by rw [kNm_blocks]; exact nd _, by rw [kNm_blocks]; intro g hg; exact lc g (by simpa using hg)⟩
  exact ⟨r.v, q.v, t.v, rfl, ⟨i1.1, i2.1, i3.1, ab, ac, bc⟩, la, lb, lc⟩
theorem kD_shape (h : kD.In B E w V x) : ∃ xa na ca xb nb cb xc nc cc, V = .agg #[.slice xa na ca, .slice xb nb cb, .slice xc nc cc, .int .i64 x.2.2.2.1, .int .i64 x.2.2.2.2] ∧ kD.In B E w (.agg #[.slice xa na ca, .slice xb nb cb, .slice xc nc cc, .int .i64 x.2.2.2.1, .int .i64 x.2.2.2.2]) x := by
  obtain ⟨a, b, c, rfl, ho, -⟩ := kD_in h
  obtain ⟨xa, na, ca, xb, nb, cb, xc, nc, cc, rfl, rfl, rfl⟩ := ho.hold.shape
  exact ⟨_, _, _, _, _, _, _, _, _, rfl, h⟩
theorem kD_shapeA (h : kD.At w V x) : ∃ xa na ca xb nb cb xc nc cc, V = .agg #[.slice xa na ca, .slice xb nb cb, .slice xc nc cc, .int .i64 x.2.2.2.1, .int .i64 x.2.2.2.2] ∧ kD.At w (.agg #[.slice xa na ca, .slice xb nb cb, .slice xc nc cc, .int .i64 x.2.2.2.1, .int .i64 x.2.2.2.2]) x := by
  obtain ⟨a, b, c, rfl, ho⟩ := kD_at h
  obtain ⟨xa, na, ca, xb, nb, cb, xc, nc, cc, rfl, rfl, rfl⟩ := ho.shape
  exact ⟨_, _, _, _, _, _, _, _, _, rfl, h⟩
end
/-- Its parts' sizes and its numbers fit. -/
def WfD (x : Dt) : Prop := (∀ y ∈ x.1, y.size ≤ maxLen) ∧ (∀ y ∈ x.2.1, (Lit.int .u8 y).wf = true) ∧ (∀ y ∈ x.2.2.1, y.size ≤ maxLen) ∧ (Lit.int .i64 x.2.2.2.1).wf = true ∧ (Lit.int .i64 x.2.2.2.2).wf = true
theorem szDK (V : Value) (x : Dt) (w : World) (left : Int) (h : kD.At w V x) (hl : x.1.length ≤ 9223372036854775807 ∧ x.2.1.length ≤ 9223372036854775807 ∧ x.2.2.1.length ≤ 9223372036854775807) (hs : WfD x) (h0 : 0 ≤ left) (h1 : left ≤ 1048576) :
    Calls Try.prog 11 #[V, .int .i64 left] w fun e w' => e = .returned (.int .i64 (szD x left)) ∧ Below w.heap.size w w' := by
  obtain ⟨a, b, c, rfl, h9⟩ := kD_at h
  exact szData a b c x w left h9 hl.1 hl.2.1 hl.2.2 hs.1 hs.2.2.1 h0 h1
theorem toDK (V : Value) (x : Dt) (w : World) (h : kD.At w V x) (hl : bulkD x ≤ 100000000) :
    Calls Try.prog 13 #[V] w fun e w' => ∃ U, e = .returned U ∧ kD.In w.heap.size w'.heap.size w' U x ∧ Below w.heap.size w w' := by
  obtain ⟨a, b, c, rfl, h9⟩ := kD_at h
  have h1 := bulk_len x.1
  have h2 := bulk_len x.2.2.1
  unfold bulkD at hl
  exact (toData a b c x w h9 (by omega) (by omega) (by omega)).mono fun e w' ⟨a, b, c, p, q, r⟩ => ⟨_, p, kD_own q, r⟩
theorem sameDK (V U : Value) (x : Dt) (w : World) (h : kD.At w V x) (g : kD.At w U x) (hl : advD x ≤ 100000000) :
    Calls Try.prog 15 #[V, U] w fun e w' => e = .returned (.bool true) ∧ Below w.heap.size w w' := by
  obtain ⟨a, b, c, rfl, h9⟩ := kD_at h
  obtain ⟨a2, b2, c2, rfl, g9⟩ := kD_at g
  unfold advD at hl
  exact eqData a b c a2 b2 c2 x x w true (by simp) h9 g9 (by omega) (by omega) (by omega) (by omega) (by omega) (by omega)
theorem markDK (B E : Nat) (V : Value) (x : Dt) (w : World) (k : Int) (h : kD.In B E w V x) (hl : advD x ≤ 100000000) (h0 : 0 ≤ k) (h1 : k ≤ 1000000000) :
    Calls Try.prog 19 #[V, .int .i64 k] w fun e w' => e = .returned (.int .i64 (k + (advD x : Int))) ∧ kD.In B E w' V (mkD k x) ∧ Wrote B E w w' := by
  obtain ⟨a, b, c, rfl, ho, hE⟩ := kD_in h
  exact (markData B E a b c x w k ho hE hl h0 h1).mono fun e w' ⟨p, q, r⟩ => ⟨p, kD_mk (x := mkD k x) q hE, r⟩
theorem heldDK (V : Value) (w : World) (k : Int) (x : Dt) (h : kD.At w V (mkD k x)) (hl : advD x ≤ 100000000) (h0 : 0 ≤ k) (h1 : k ≤ 1000000000) :
    Calls Try.prog 24 #[V, .int .i64 k] w fun e w' => e = .returned (.int .i64 (k + (advD x : Int))) ∧ Below w.heap.size w w' := by
  obtain ⟨a, b, c, rfl, h9⟩ := kD_at h
  exact heldData a b c w k x h9 hl h0 h1

/-- A slice of bytes as it is read. -/
theorem open_bytes1 {H : Type} {enc : TypeId × Value → H} {P : Program} {w : World} {b2 n : Nat} {held : Bool} {e s : TypeId} {cs : List Value} {y0 : DataW H × List MemPlace} (he : P.underlying e = some (.slice s)) (hs : P.underlying s = some (.int .u8)) (hcs : P.cellsOf s = 1)
    (h0 : DataW.trod enc P w b2 (fun _ => true) held n e cs = some y0) : ∃ (ad : Option Addr) (k c : Nat) (l : List Int), cs = [.slice ad k c] ∧ Sl.Holds .u8 w (.slice ad k c) l ∧ (∀ x ∈ l, (Lit.int .u8 x).wf = true) ∧ l.length ≤ 9223372036854775807 := by
  have hmx : maxLen = 9223372036854775807 := rfl
  rcases open_ints he hs hcs h0 with ⟨hc, hx⟩ | ⟨a, len', cap', zs, hc, hb, hl, hm, hn, hx, hcell, hwz⟩
  · exact ⟨none, 0, 0, [], hc, Sl.Holds.nil _ _, by simp, by simp⟩
  · simp only [if_true] at hn
    have hlen : (zs.take len').length = len' := by rw [List.length_take]; omega
    refine ⟨some a, len', cap', zs.take len', hc, ⟨some a, cap', by rw [hlen], by rw [hlen]; exact hl, ?_⟩, fun n hnn => hwz n (List.mem_of_mem_take hnn), by rw [hlen, ← hmx]; exact Nat.le_trans hl hm⟩
    by_cases h0 : len' = 0
    · left; subst h0; simp
    · right
      obtain ⟨b, off, spot⟩ := a
      have h1 := hcell 0 (by omega)
      have hs : spot = none := by simpa [Addr.add] using World.cell?_spot h1
      subst hs
      refine ⟨b, off, rfl, fun i hi => ?_⟩
      rw [hlen] at hi
      have h2 := hcell i (by omega)
      rw [Go.WideShapes.add_plain] at h2
      rw [h2]
      simp only [Sl.nth, List.getD, List.getElem?_take, if_pos hi]
theorem five {α : Type} {cs : Array α} (h : cs.size = 5) : ∃ c0 c1 c2 c3 c4, cs = #[c0, c1, c2, c3, c4] := by
  obtain ⟨l⟩ := cs
  match l, h with
  | [c0, c1, c2, c3, c4], _ => exact ⟨c0, c1, c2, c3, c4, rfl⟩
/-- A packet as it came in. -/
theorem open_data {H : Type} {enc : TypeId × Value → H} {P : Program} {w : World} {base b2 : Nat} {held : Bool} {t ep eb : TypeId} {v : Value} {d : DataW H} {p : List MemPlace} {f0 f1 f2 f3 f4 g0 : Field}
    (he : P.underlying t = some (.struct #[f0, f1, f2, f3, f4])) (hN : P.underlying f0.type = some (.struct #[g0])) (hN2 : P.underlying f2.type = some (.struct #[g0])) (hg : P.underlying g0.type = some (.slice ep)) (hs : P.underlying ep = some .string) (hB : P.underlying f1.type = some (.slice eb)) (hb : P.underlying eb = some (.int .u8)) (hI3 : P.underlying f3.type = some (.int .i64)) (hI4 : P.underlying f4.type = some (.int .i64))
    (ho0 : f0.offset = 0) (ho1 : f1.offset = 1) (ho2 : f2.offset = 2) (ho3 : f3.offset = 3) (ho4 : f4.offset = 4) (hog : g0.offset = 0) (hc0 : P.cellsOf f0.type = 1) (hc1 : P.cellsOf f1.type = 1) (hc2 : P.cellsOf f2.type = 1) (hc3 : P.cellsOf f3.type = 1) (hc4 : P.cellsOf f4.type = 1) (hcg : P.cellsOf g0.type = 1) (hcs : P.cellsOf ep = 1) (hcb : P.cellsOf eb = 1) (hC : P.cellsOf t = 5)
    (hv : Value.okWide P w .any base t v) (h : DataW.Trod enc P w b2 (fun _ => true) held t v d p) :
    ∃ x, kD.At w v x ∧ WfD x ∧ x.1.length ≤ 9223372036854775807 ∧ x.2.1.length ≤ 9223372036854775807 ∧ x.2.2.1.length ≤ 9223372036854775807 := by
  obtain ⟨cs, rfl, hcz⟩ := okWide_struct he hv
  obtain ⟨fuel, hfu⟩ := h
  obtain ⟨xs, n2, -, -, -, hlen, hf⟩ := DataW.trod_struct he hfu
  have hlen5 : xs.length = 5 := hlen
  obtain ⟨y0, y1, y2, y3, y4, rfl⟩ : ∃ y0 y1 y2 y3 y4, xs = [y0, y1, y2, y3, y4] := by
    match xs, hlen5 with
    | [y0, y1, y2, y3, y4], _ => exact ⟨y0, y1, y2, y3, y4, rfl⟩
  have q0 := hf 0 f0 rfl
  have q1 := hf 1 f1 rfl
  have q2 := hf 2 f2 rfl
  have q3 := hf 3 f3 rfl
  have q4 := hf 4 f4 rfl
  simp only [List.getElem?_cons_zero, List.getElem?_cons_succ] at q0 q1 q2 q3 q4
  rw [ho0, hc0] at q0
  rw [ho1, hc1] at q1
  rw [ho2, hc2] at q2
  rw [ho3, hc3] at q3
  rw [ho4, hc4] at q4
  obtain ⟨z0, n3, -, -, q0⟩ := trod_struct1 hN q0
  rw [hog, hcg] at q0
  obtain ⟨z2, n4, -, -, q2⟩ := trod_struct1 hN2 q2
  rw [hog, hcg] at q2
  obtain ⟨a1, k1, c1, l, e0, hh, hz, hln⟩ := open_strs1 hg hs hcs q0
  obtain ⟨a2, k2, c2, m, e1, hh2, hz2, hln2⟩ := open_bytes1 hB hb hcb q1
  obtain ⟨a3, k3, c3, k, e2, hh3, hz3, hln3⟩ := open_strs1 hg hs hcs q2
  obtain ⟨v3, e3, -, w3⟩ := DataW.trod_int hI3 q3
  obtain ⟨v4, e4, -, w4⟩ := DataW.trod_int hI4 q4
  obtain ⟨u0, u1, u2, u3, u4, rfl⟩ := five (hcz.trans hC)
  simp [Value.cells] at e0 e1 e2 e3 e4
  subst e0 e1 e2 e3 e4
  exact ⟨(l, m, k, v3, v4), kD_of (x := (l, m, k, v3, v4)) ⟨hh, hh2, hh3⟩, ⟨hz, hz2, hz3, w3, w4⟩, hln, hln2, hln3⟩
end Go.Proofs.Ytbooamnlocobfaa.Row
/- Contracts of the model's functions on interests: validity, copy, equality, the hop limit. No conditions but that lengths fit. -/
namespace Go.Proofs.Ytbooamnlocobfaa.Row
open Go.ChangeShapes Go.WideShapes Go.ChangeAt Go.RowKit Go.Instr
set_option linter.unusedVariables false
set_option maxRecDepth 100000

abbrev Wt := List ByteArray × Int × Int × Int
def validW (x : Wt) : Bool := validN x.1 && decide (0 < x.1.length) && decide (0 ≤ x.2.1 ∧ x.2.1 ≤ 1000000) && decide (0 ≤ x.2.2.1 ∧ x.2.2.1 ≤ 16) && decide (1 ≤ x.2.2.2 ∧ x.2.2.2 ≤ 20)
theorem validW_no1 {x : Wt} (h : validN x.1 = false) : validW x = false := by simp [validW, h]
theorem validW_no2 {x : Wt} (h : ¬ 0 < x.1.length) : validW x = false := by
  have : decide (0 < x.1.length) = false := by simpa using h
  simp [validW, this]
theorem validW_no3 {x : Wt} (h : ¬ (0 ≤ x.2.1 ∧ x.2.1 ≤ 1000000)) : validW x = false := by
  have : decide (0 ≤ x.2.1 ∧ x.2.1 ≤ 1000000) = false := decide_eq_false h
  unfold validW; rw [this]; simp
theorem validW_no4 {x : Wt} (h : ¬ (0 ≤ x.2.2.1 ∧ x.2.2.1 ≤ 16)) : validW x = false := by
  have : decide (0 ≤ x.2.2.1 ∧ x.2.2.1 ≤ 16) = false := decide_eq_false h
  unfold validW; rw [this]; simp
theorem validW_no5 {x : Wt} (h : ¬ (1 ≤ x.2.2.2 ∧ x.2.2.2 ≤ 20)) : validW x = false := by
  have : decide (1 ≤ x.2.2.2 ∧ x.2.2.2 ≤ 20) = false := decide_eq_false h
  unfold validW; rw [this]; simp
theorem validW_yes {x : Wt} (h1 : validN x.1 = true) (h2 : 0 < x.1.length) (h3 : 0 ≤ x.2.1 ∧ x.2.1 ≤ 1000000) (h4 : 0 ≤ x.2.2.1 ∧ x.2.2.1 ≤ 16) (h5 : 1 ≤ x.2.2.2 ∧ x.2.2.2 ≤ 20) : validW x = true := by
  simp [validW, h1, h2, h3, h4, h5]

/-- A result that is an interest whose name is the call's own. -/
def GivesW (w : World) (x : Wt) (e : Ending) (w' : World) : Prop := ∃ v', e = .returned (.agg (wc v' x.2.1 x.2.2.1 x.2.2.2)) ∧ Own 9 Value.string w.heap.size w' v' x.1 ∧ Below w.heap.size w w'
def GivesWB (w : World) (x : Wt) (z : Bool) (e : Ending) (w' : World) : Prop := ∃ v', e = .returned (.tuple #[.agg (wc v' x.2.1 x.2.2.1 x.2.2.2), .bool z]) ∧ Own 9 Value.string w.heap.size w' v' x.1 ∧ Below w.heap.size w w'

def decW (x : Wt) : Wt := if x.2.2.1 < 1 then x else (x.1, x.2.1, x.2.2.1 - 1, x.2.2.2)
def decOk (x : Wt) : Bool := decide (1 ≤ x.2.2.1)
/-- A row of the call's own is left by a store into a variable that was not there when the row was made. -/
theorem own_set' {α : Type} [Inhabited α] {enc : α → Value} {e : TypeId} {B g i : Nat} {w : World} {v u : Value} {l : List α} (h : Own e enc B w v l) (hg : ∀ b, v.ownBlock = some b → b < g) : Own e enc B (w.setCell ⟨g, i, none⟩ u) v l := by
  refine h.grown (Ret.grownBy_set w ⟨g, i, none⟩ u) ?_
  cases hv : v.ownBlock with
  | none => exact Or.inl rfl
  | some b => exact Or.inr fun e => absurd (hg b hv) (by have h2 : b = g := by simpa using e
                                                         omega)

end Go.Proofs.Ytbooamnlocobfaa.Row
