/- Contracts and mathematics, joined: Part, Valid, NameMath, Let, VPat, VPat2, Bind. No conditions but those that each states. -/
import Derived.Test.YtkojeajjappchaaGreatB1
import Derived.Test.YtkojeajjappchaaGreatB2
import Derived.Laws.RangeAny
import Derived.Lib.Join
/- Contracts of ValidPart and ValidName, the program's and the reference model's: a part is right where its size is 1 to 8 and each byte is a small letter, a digit or a minus; a name where each part is and there are at most 6. No conditions but that lengths fit. -/
namespace Go.Proofs.YtkojeajjappchaaGreat.Row
open Go.ChangeShapes Go.WideShapes Go.ChangeAt Go.RowKit Go.Instr
set_option linter.unusedVariables false
set_option maxRecDepth 100000

def okR (r : Int) : Prop := (97 ≤ r ∧ r ≤ 122) ∨ (48 ≤ r ∧ r ≤ 57) ∨ r = 45
instance (r : Int) : Decidable (okR r) := by unfold okR; infer_instance
def okTo (s : ByteArray) (k : Nat) : Prop := ∀ j (h : j < s.size), j < k → okR ((s[j]'h).toNat : Int)
instance (s : ByteArray) (k : Nat) : Decidable (okTo s k) := by unfold okTo; infer_instance
def validP (s : ByteArray) : Bool := decide (1 ≤ s.size ∧ s.size ≤ 8 ∧ okTo s s.size)
theorem okTo_zero (s : ByteArray) : okTo s 0 := fun j h h2 => absurd h2 (by omega)
theorem okTo_succ {s : ByteArray} {k : Nat} (h : okTo s k) (hk : k < s.size) (hc : okR ((s[k]'hk).toNat : Int)) : okTo s (k + 1) := fun j h1 h2 => by
  by_cases e : j = k
  · subst e; exact hc
  · exact h j h1 (by omega)
theorem validP_true {s : ByteArray} (h1 : 1 ≤ s.size) (h2 : s.size ≤ 8) (h : okTo s s.size) : validP s = true := by simp [validP, h1, h2, h]
theorem validP_size {s : ByteArray} (h : ¬ (1 ≤ s.size ∧ s.size ≤ 8)) : validP s = false := by
  unfold validP; exact decide_eq_false (fun e => h ⟨e.1, e.2.1⟩)
theorem validP_byte {s : ByteArray} {k : Nat} (hk : k < s.size) (hc : ¬ okR ((s[k]'hk).toNat : Int)) : validP s = false := by
  unfold validP; exact decide_eq_false (fun e => hc (e.2.2 k hk hk))
theorem validP_iff {s : ByteArray} : validP s = true ↔ 1 ≤ s.size ∧ s.size ≤ 8 ∧ okTo s s.size := by unfold validP; exact decide_eq_true_iff

theorem rune_ok {s : ByteArray} {pos : Nat} (h : pos < s.size) (hr : okR ((Utf8.decode s pos).1 : Int)) : okR ((s[pos]'h).toNat : Int) ∧ (Utf8.decode s pos).2 = 1 := by
  by_cases ha : (s[pos]'h).toNat < 128
  · rw [decode_ascii s pos h ha] at hr ⊢
    exact ⟨hr, rfl⟩
  · have := (decode_high s pos h (by omega)).1
    unfold okR at hr; omega
theorem rune_not {s : ByteArray} {pos : Nat} (h : pos < s.size) (hr : ¬ okR ((Utf8.decode s pos).1 : Int)) : ¬ okR ((s[pos]'h).toNat : Int) := by
  by_cases ha : (s[pos]'h).toNat < 128
  · rwa [decode_ascii s pos h ha] at hr
  · unfold okR; omega

set_option maxHeartbeats 1000000 in
theorem isPartRune (r : Int) (w : World) : Calls Tryz.prog 103 #[.int .i32 r] w fun e w' => e = .returned (.bool (decide (okR r))) ∧ w = w' := by
  have HT := fun (h : okR r) => (decide_eq_true h).symm
  have HF := fun (h : ¬ okR r) => (decide_eq_false h).symm
  have HT := Lib.hid HT; have HF := Lib.hid HF
  by_cases h1 : 97 ≤ r ∧ r ≤ 122
  · obtain ⟨h1a, h1b⟩ := h1
    go_enter Tryz.func103, Tryz.ntmps103
    go_wp2
    go_ret
    exact ⟨ret_bool (HT.out (by unfold okR; omega)), rfl⟩
  · by_cases h2 : 48 ≤ r ∧ r ≤ 57
    · obtain ⟨h2a, h2b⟩ := h2
      have h1a : ¬ 97 ≤ r := by omega
      go_enter Tryz.func103, Tryz.ntmps103
      go_wp2
      go_ret
      exact ⟨ret_bool (HT.out (by unfold okR; omega)), rfl⟩
    · by_cases h3 : r = 45
      · subst h3
        go_enter Tryz.func103, Tryz.ntmps103
        go_wp2
        go_ret
        exact ⟨ret_bool (HT.out (by unfold okR; omega)), rfl⟩
      · have HF2 := Lib.hid (HF.out (by unfold okR; omega))
        have h3b : (r == 45) = false := by simpa using h3
        clear h3 HF HT
        by_cases h1a : 97 ≤ r
        · have h1b : ¬ r ≤ 122 := by omega
          have h2b : ¬ r ≤ 57 := by omega
          clear h1 h2
          go_enter Tryz.func103, Tryz.ntmps103
          go_wp2
          go_ret
          exact ⟨ret_bool HF2.out, rfl⟩
        · clear h1
          by_cases h2a : 48 ≤ r
          · have h2b : ¬ r ≤ 57 := by omega
            clear h2
            go_enter Tryz.func103, Tryz.ntmps103
            go_wp2
            go_ret
            exact ⟨ret_bool HF2.out, rfl⟩
          · clear h2
            go_enter Tryz.func103, Tryz.ntmps103
            go_wp2
            go_ret
            exact ⟨ret_bool HF2.out, rfl⟩

set_option maxHeartbeats 1000000 in
theorem implValidPart (s : ByteArray) (w : World) (hl : s.size ≤ 140737488351232) :
    Calls Tryz.prog 94 #[.string s] w fun e w' => e = .returned (.bool (validP s)) ∧ Below w.heap.size w w' := by
  go_enter Tryz.func94, Tryz.ntmps94
  go_wp2
  go_loopw [] (fun w' => ∃ pos : Nat, pos ≤ s.size ∧ w' = w.iter s pos ∧ Hid (okTo s pos)) (fun w' => s.size - w'.iterPos w.heap.size)
  case atStart => exact ⟨0, by omega, rfl, Lib.hid (okTo_zero s)⟩
  case round =>
    obtain ⟨pos, hpl, rfl, ho⟩ := hrel
    by_cases hp : pos < s.size
    · have hnx : ∀ ty, (Instr.next (.pointer (some ⟨w.heap.size, 0, none⟩)) true ty).run Tryz.prog (w.iter s pos) = _ := fun ty => run_next_any w s pos ty hp
      by_cases hr : okR ((Utf8.decode s pos).1 : Int)
      · obtain ⟨h1, h2⟩ := rune_ok hp hr
        have HO := Lib.hid (okTo_succ ho.out hp h1)
        have HR := Lib.hid (decide_eq_true hr)
        rw [h2] at hnx
        clear hr h1 h2
        go_wp2_with fail
        refine (isPartRune _ _).mono ?_
        rintro e w2 ⟨rfl, rfl⟩
        rw [HR.out]
        go_wp2
        go_roundw
        case rel => exact ⟨pos + 1, by omega, rfl, HO⟩
        case measure => simp; omega
      · have HV := Lib.hid (validP_byte hp (rune_not hp hr))
        have HR := Lib.hid (decide_eq_false hr)
        clear hr
        go_wp2_with fail
        refine (isPartRune _ _).mono ?_
        rintro e w2 ⟨rfl, rfl⟩
        rw [HR.out]
        go_wp2
        go_ret
        exact ⟨ret_bool HV.out.symm, (Below.refl _ _).alloc (Nat.le_refl _) _⟩
    · obtain rfl : pos = s.size := by omega
      have hnx : ∀ ty, (Instr.next (.pointer (some ⟨w.heap.size, 0, none⟩)) true ty).run Tryz.prog (w.iter s s.size) = _ := fun ty => run_next_end w s s.size ty hp
      go_wp2_with fail
      refine (Num.implInRange _ _ _ _).mono ?_
      rintro e w2 ⟨rfl, rfl⟩
      go_wp2
      go_ret
      refine ⟨ret_bool ?_, (Below.refl _ _).alloc (Nat.le_refl _) _⟩
      have := ho.out
      simp only [Num.inB, validP, this, and_true]
      congr 1
      apply propext
      omega

set_option maxHeartbeats 1000000 in
theorem specValidPart (s : ByteArray) (w : World) (hl : s.size ≤ 140737488351232) :
    Calls Tryz.prog 73 #[.string s] w fun e w' => e = .returned (.bool (validP s)) ∧ w = w' := by
  by_cases hsz : 1 ≤ s.size ∧ s.size ≤ 8
  · obtain ⟨hs1, hs8⟩ := hsz
    go_enter Tryz.func73, Tryz.ntmps73
    go_wp2_with fail
    refine (Num.specIn_true (by omega) (by omega) _).mono ?_
    rintro e w2 ⟨rfl, rfl⟩
    go_wp2
    go_loop [3] (fun iv => ∃ k : Nat, k ≤ s.size ∧ iv = .int .i64 k ∧ Hid (okTo s k)) (fun iv => s.size - (intOf iv).toNat)
    case atStart => exact ⟨0, by omega, rfl, Lib.hid (okTo_zero s)⟩
    case round =>
      obtain ⟨k, hk, rfl, ho⟩ := hrel
      by_cases hlt : k < s.size
      · have hb := (s[k]'hlt).toNat_lt
        have hb0 : (0 : Int) ≤ ((s[k]'hlt).toNat : Int) := by omega
        have hb1 : ((s[k]'hlt).toNat : Int) ≤ 255 := by omega
        have HOK := Lib.hid (fun hc => okTo_succ ho.out hlt hc)
        have HNO := Lib.hid (fun hc => validP_byte hlt hc)
        clear hb
        go_wp2_with fail
        by_cases h1 : 97 ≤ ((s[k]'hlt).toNat : Int) ∧ ((s[k]'hlt).toNat : Int) ≤ 122
        · refine (Num.specIn_true h1.1 h1.2 _).mono ?_
          rintro e w2 ⟨rfl, rfl⟩
          have HO2 := Lib.hid (HOK.out (by unfold okR; omega))
          clear HOK HNO h1
          go_wp2
          go_round
          case rel => exact ⟨k + 1, by omega, by go_num, HO2⟩
          case measure => simp [intOf]; omega
        · refine (Num.specIn_false h1 _).mono ?_
          rintro e w2 ⟨rfl, rfl⟩
          go_wp2_with fail
          by_cases h2 : 48 ≤ ((s[k]'hlt).toNat : Int) ∧ ((s[k]'hlt).toNat : Int) ≤ 57
          · refine (Num.specIn_true h2.1 h2.2 _).mono ?_
            rintro e w2 ⟨rfl, rfl⟩
            have HO2 := Lib.hid (HOK.out (by unfold okR; omega))
            clear HOK HNO h1 h2
            go_wp2
            go_round
            case rel => exact ⟨k + 1, by omega, by go_num, HO2⟩
            case measure => simp [intOf]; omega
          · refine (Num.specIn_false h2 _).mono ?_
            rintro e w2 ⟨rfl, rfl⟩
            by_cases h3 : (s[k]'hlt).toNat = 45
            · have h3b : (((s[k]'hlt).toNat : Int) != 45) = false := by simp [h3]
              have HO2 := Lib.hid (HOK.out (by unfold okR; omega))
              clear HOK HNO h1 h2
              go_wp2
              go_round
              case rel => exact ⟨k + 1, by omega, by go_num, HO2⟩
              case measure => simp [intOf]; omega
            · have h3b : (((s[k]'hlt).toNat : Int) != 45) = true := by simp; omega
              have HV := Lib.hid (HNO.out (by unfold okR; omega))
              clear HOK HNO h1 h2 h3
              go_wp2
              go_ret
              exact ⟨ret_bool HV.out.symm, rfl⟩
      · obtain rfl : k = s.size := by omega
        have HV := Lib.hid (validP_true hs1 hs8 ho.out)
        go_wp2
        go_ret
        exact ⟨ret_bool HV.out.symm, rfl⟩
  · have HV := Lib.hid (validP_size hsz)
    go_enter Tryz.func73, Tryz.ntmps73
    go_wp2_with fail
    refine (Num.specIn_false (by omega) _).mono ?_
    rintro e w2 ⟨rfl, rfl⟩
    go_wp2
    go_ret
    exact ⟨ret_bool HV.out.symm, rfl⟩

end Go.Proofs.YtkojeajjappchaaGreat.Row
/- Contracts of ValidName, the program's and the reference model's: a name is right where each part is and there are at most 6. No conditions but that lengths fit. -/
namespace Go.Proofs.YtkojeajjappchaaGreat.Row
open Go.ChangeShapes Go.WideShapes Go.ChangeAt Go.RowKit Go.Instr
set_option linter.unusedVariables false
set_option maxRecDepth 100000

def validN (l : List ByteArray) : Bool := decide (l.length ≤ 6 ∧ ∀ x ∈ l, validP x = true)
def allV (l : List ByteArray) (k : Nat) : Prop := ∀ j, j < k → validP (nth l j) = true
theorem allV_zero (l : List ByteArray) : allV l 0 := fun j h => absurd h (by omega)
theorem allV_succ {l : List ByteArray} {k : Nat} (h : allV l k) (hc : validP (nth l k) = true) : allV l (k + 1) := fun j h1 => by
  by_cases e : j = k
  · subst e; exact hc
  · exact h j (by omega)
theorem validN_not {l : List ByteArray} {k : Nat} (hk : k < l.length) (hc : validP (nth l k) = false) : validN l = false := by
  unfold validN
  refine decide_eq_false (fun e => ?_)
  have := e.2 (nth l k) (by rw [nth_eq hk]; exact List.getElem_mem _)
  rw [hc] at this; cases this
theorem validN_all {l : List ByteArray} (h : allV l l.length) : validN l = decide (l.length ≤ 6) := by
  have : ∀ x ∈ l, validP x = true := by
    intro x hx
    obtain ⟨j, hj, rfl⟩ := List.getElem_of_mem hx
    have := h j hj
    rwa [nth_eq hj] at this
  unfold validN
  congr 1
  exact propext ⟨fun e => e.1, fun e => ⟨e, this⟩⟩
theorem validN_iff {l : List ByteArray} : validN l = true ↔ l.length ≤ 6 ∧ ∀ x ∈ l, validP x = true := by unfold validN; exact decide_eq_true_iff
theorem size_nth {l : List ByteArray} {m : Nat} (h : bulk l ≤ m) {k : Nat} (hk : k < l.length) : (nth l k).size ≤ m := by
  have h1 := bulkTo_succ l hk
  have h2 := bulkTo_le l (k + 1)
  omega

set_option maxHeartbeats 1000000 in
theorem implValidName (v : Value) (l : List ByteArray) (w : World) (h : Holds Value.string w v l) (hl : bulk l ≤ 100000000) :
    Calls Tryz.prog 81 #[.agg #[v]] w fun e w' => e = .returned (.bool (validN l)) ∧ Below w.heap.size w w' := by
  obtain ⟨x, cap, rfl, hcap, hh⟩ := h.shape
  have hll := bigLen hl
  have HS := Lib.hid (fun k (hk : k < l.length) => size_nth hl hk)
  obtain ⟨n, hn⟩ : ∃ n, n = l.length := ⟨_, rfl⟩
  rw [← hn] at hcap hh hll ⊢
  have HN := Lib.hid hn
  have HH := Lib.hid hh
  have HB0 := Lib.hid ((Below.refl w.heap.size w).alloc (Nat.le_refl _) (.cells #[.slice x n cap] 29))
  have HC0 := Lib.hid (Ret.cell_at (w := w) (u := .slice x n cap) (t := 29) (n := w.heap.size) rfl)
  clear hn h hh hl
  go_enter Tryz.func81, Tryz.ntmps81
  go_wp2_with fail
  go_loopw [8] (fun i wr => ∃ k : Nat, k ≤ n ∧ i = .int .i64 k ∧ Hid (allV l k) ∧ Hid (Below w.heap.size w wr) ∧ Hid (wr.cell? ⟨w.heap.size, 0, none⟩ = some (.slice x n cap))) (fun i _ => n - (intOf i).toNat)
  case atStart => exact ⟨0, Nat.zero_le _, rfl, Lib.hid (allV_zero _), HB0, HC0⟩
  case round =>
    obtain ⟨k, hk, rfl, ha, hb, hc0⟩ := hrel
    by_cases hlt : k < n
    · have hlen := HN.out
      obtain ⟨b, off, rfl, hc⟩ := (HH.out.on hb.out).at (j := k) (by omega)
      have hsz := HS.out k (by omega)
      clear hlen
      go_wp2_with fail
      refine (implValidPart _ _ (by omega)).mono ?_
      rintro e w2 ⟨rfl, hb2⟩
      have HB2 := Lib.hid (hb.out.trans (hb2.mono hb.out.size))
      have HC2 := Lib.hid ((hb2.cell (cell_lt hc0.out)).trans hc0.out)
      clear hb2 hc
      by_cases hv : validP (nth l k) = true
      · rw [hv]
        have HA2 := Lib.hid (allV_succ ha.out hv)
        clear hv
        go_wp2
        go_roundw
        case rel => exact ⟨k + 1, by omega, by go_num, HA2, HB2, HC2⟩
        case measure => simp [intOf]; omega
      · have hv2 : validP (nth l k) = false := by simpa using hv
        rw [hv2]
        have HV := Lib.hid (validN_not (by have := HN.out; omega) hv2)
        clear hv hv2
        go_wp2
        go_ret
        exact ⟨ret_bool HV.out.symm, HB2.out⟩
    · obtain rfl : k = n := by omega
      have HV := Lib.hid (validN_all (HN.out ▸ ha.out))
      have hc0 := hc0.out
      clear hlt
      go_wp2
      go_ret
      refine ⟨ret_bool ?_, hb.out⟩
      rw [HV.out, ← HN.out]
      simp
      omega

set_option maxHeartbeats 1000000 in
theorem specValidName (v : Value) (l : List ByteArray) (w : World) (h : Holds Value.string w v l) (hl : bulk l ≤ 100000000) :
    Calls Tryz.prog 62 #[.agg #[v]] w fun e w' => e = .returned (.bool (validN l)) ∧ Below w.heap.size w w' := by
  obtain ⟨x, cap, rfl, hcap, hh⟩ := h.shape
  have hll := bigLen hl
  have HS := Lib.hid (fun k (hk : k < l.length) => size_nth hl hk)
  obtain ⟨n, hn⟩ : ∃ n, n = l.length := ⟨_, rfl⟩
  rw [← hn] at hcap hh hll ⊢
  have HN := Lib.hid hn
  have HH := Lib.hid hh
  have HB0 := Lib.hid ((Below.refl w.heap.size w).alloc (Nat.le_refl _) (.cells #[.slice x n cap] 29))
  have HC0 := Lib.hid (Ret.cell_at (w := w) (u := .slice x n cap) (t := 29) (n := w.heap.size) rfl)
  clear hn h hh hl
  go_enter Tryz.func62, Tryz.ntmps62
  go_wp2_with fail
  go_loopw [3] (fun i wr => ∃ k : Nat, k ≤ n ∧ i = .int .i64 k ∧ Hid (allV l k) ∧ Hid (Below w.heap.size w wr) ∧ Hid (wr.cell? ⟨w.heap.size, 0, none⟩ = some (.slice x n cap))) (fun i _ => n - (intOf i).toNat)
  case atStart => exact ⟨0, Nat.zero_le _, rfl, Lib.hid (allV_zero _), HB0, HC0⟩
  case round =>
    obtain ⟨k, hk, rfl, ha, hb, hc0⟩ := hrel
    by_cases hlt : k < n
    · have hlen := HN.out
      obtain ⟨b, off, rfl, hc⟩ := (HH.out.on hb.out).at (j := k) (by omega)
      have hsz := HS.out k (by omega)
      have hc1 := hc0.out
      clear hlen
      go_wp2_with fail
      refine (specValidPart _ _ (by omega)).mono ?_
      rintro e w2 ⟨rfl, rfl⟩
      clear hc
      by_cases hv : validP (nth l k) = true
      · rw [hv]
        have HA2 := Lib.hid (allV_succ ha.out hv)
        clear hv
        go_wp2
        go_roundw
        case rel => exact ⟨k + 1, by omega, by go_num, HA2, hb, hc0⟩
        case measure => simp [intOf]; omega
      · have hv2 : validP (nth l k) = false := by simpa using hv
        rw [hv2]
        have HV := Lib.hid (validN_not (by have := HN.out; omega) hv2)
        clear hv hv2
        go_wp2
        go_ret
        exact ⟨ret_bool HV.out.symm, hb.out⟩
    · obtain rfl : k = n := by omega
      have HV := Lib.hid (validN_all (HN.out ▸ ha.out))
      have hc0 := hc0.out
      clear hlt
      go_wp2
      go_ret
      refine ⟨ret_bool ?_, hb.out⟩
      rw [HV.out, ← HN.out]
      simp
      omega

end Go.Proofs.YtkojeajjappchaaGreat.Row
/- Plain mathematics of names and their texts, no program in sight: a text is split at its slashes; joined again it is the text; a joined list of parts without slashes is split into the parts; runes and bytes. No conditions. -/
namespace Go.Proofs.YtkojeajjappchaaGreat.Row
open Go.ChangeShapes Go.WideShapes Go.ChangeAt Go.RowKit Go.Instr
set_option linter.unusedVariables false
set_option maxRecDepth 100000

def bl (s : ByteArray) : List UInt8 := s.data.toList
def mk (l : List UInt8) : ByteArray := ⟨l.toArray⟩
theorem mk_bl (s : ByteArray) : mk (bl s) = s := by
  show ByteArray.mk (s.data.toList.toArray) = s
  rw [Array.toArray_toList]
theorem bl_mk (l : List UInt8) : bl (mk l) = l := by
  show (l.toArray).toList = l
  rfl
theorem bl_length (s : ByteArray) : (bl s).length = s.size := by
  show s.data.toList.length = s.data.size
  exact Array.length_toList
theorem bl_inj {a b : ByteArray} (h : bl a = bl b) : a = b := by rw [← mk_bl a, ← mk_bl b, h]
theorem bl_get (s : ByteArray) (i : Nat) (h : i < s.size) : (bl s)[i]'(by rw [bl_length]; exact h) = s[i]'h := by
  simp [bl]; rfl
theorem bl_append (a b : ByteArray) : bl (a ++ b) = bl a ++ bl b := by
  unfold bl
  simp only [ByteArray.data_append, Array.toList_append]
theorem mk_append (a b : List UInt8) : mk a ++ mk b = mk (a ++ b) := by apply bl_inj; rw [bl_append, bl_mk, bl_mk, bl_mk]
theorem mk_size (l : List UInt8) : (mk l).size = l.length := by
  show l.toArray.size = l.length
  exact List.size_toArray

/-! ### splitting at slashes -/
def goS (cur : List UInt8) : List UInt8 → List (List UInt8)
  | [] => [cur]
  | c :: t => if c = 47 then cur :: goS [] t else goS (cur ++ [c]) t
theorem goS_ne : ∀ (t cur : List UInt8), goS cur t ≠ []
  | [], cur => by simp [goS]
  | c :: t, cur => by
    unfold goS; split
    · simp
    · exact goS_ne t _
theorem goS_free : ∀ (p cur rest : List UInt8), (∀ c ∈ p, c ≠ 47) → goS cur (p ++ rest) = goS (cur ++ p) rest
  | [], cur, rest, _ => by simp
  | c :: p, cur, rest, h => by
    have hc := h c (by simp)
    rw [List.cons_append, goS, if_neg hc, goS_free p _ rest (fun d hd => h d (by simp [hd]))]
    simp
theorem join_cons2 (x y : List UInt8) (r : List (List UInt8)) : Lib.join (x :: y :: r) [47] = x ++ 47 :: Lib.join (y :: r) [47] := by
  rw [Lib.join_cons, Lib.join_cons]
  simp [Lib.joinTail]
/-- Joined again, the pieces are the text. -/
theorem join_goS : ∀ (t cur : List UInt8), Lib.join (goS cur t) [47] = cur ++ t
  | [], cur => by simp [goS, Lib.join_one]
  | c :: t, cur => by
    unfold goS; split
    · rename_i h
      obtain ⟨y, r, hy⟩ : ∃ y r, goS [] t = y :: r := by
        cases hg : goS [] t with
        | nil => exact absurd hg (goS_ne t [])
        | cons y r => exact ⟨y, r, rfl⟩
      have := join_goS t []
      rw [hy] at this ⊢
      rw [join_cons2, this, h]; simp
    · rw [join_goS t]; simp
/-- Parts without slashes, joined, are split into the parts. -/
theorem goS_join : ∀ (P : List (List UInt8)), P ≠ [] → (∀ p ∈ P, ∀ c ∈ p, c ≠ 47) → goS [] (Lib.join P [47]) = P
  | [], h, _ => absurd rfl h
  | [x], _, hf => by
    have := goS_free x [] [] (hf x (by simp))
    rw [List.append_nil] at this
    rw [Lib.join_one, this]; simp [goS]
  | x :: y :: r, _, hf => by
    rw [join_cons2, goS_free x [] _ (hf x (by simp)), goS, if_pos rfl, goS_join (y :: r) (by simp) (fun p hp => hf p (by simp [hp]))]
    simp

/-! ### texts of names -/
def fmtL (l : List ByteArray) : List UInt8 := 47 :: Lib.join (l.map bl) [47]
def fmtS (l : List ByteArray) : ByteArray := mk (fmtL l)
def splitB (s : ByteArray) : List ByteArray := (goS [] (bl s)).map mk
def fullB (s : ByteArray) : Bool := decide (s.size ≠ 0)
def partsB (s : ByteArray) : List ByteArray := (splitB s).filter fullB
def pOk (s : ByteArray) : Bool := validN (partsB s) && decide (fmtS (partsB s) = s)
def pN (s : ByteArray) : List ByteArray := if pOk s = true then partsB s else []
theorem map_bl_mk (L : List (List UInt8)) : (L.map mk).map bl = L := by
  rw [List.map_map]
  have : (bl ∘ mk) = id := funext fun l => bl_mk l
  rw [this, List.map_id]
theorem map_mk_bl (L : List ByteArray) : (L.map bl).map mk = L := by
  rw [List.map_map]
  have : (mk ∘ bl) = id := funext fun l => mk_bl l
  rw [this, List.map_id]

theorem valid_free {p : ByteArray} (h : validP p = true) : ∀ c ∈ bl p, c ≠ 47 := by
  intro c hc e
  obtain ⟨i, hi, rfl⟩ := List.getElem_of_mem hc
  rw [bl_length] at hi
  have h1 := (validP_iff.1 h).2.2 i hi hi
  rw [bl_get p i hi] at e
  rw [e] at h1
  simp [okR] at h1
theorem valid_full {p : ByteArray} (h : validP p = true) : fullB p = true := by
  have := (validP_iff.1 h).1
  unfold fullB; exact decide_eq_true (by omega)
theorem filter_valid {l : List ByteArray} (h : validN l = true) : l.filter fullB = l := by
  rw [List.filter_eq_self]
  exact fun p hp => valid_full ((validN_iff.1 h).2 p hp)
theorem free_of_valid {l : List ByteArray} (h : validN l = true) : ∀ p ∈ l.map bl, ∀ c ∈ p, c ≠ 47 := by
  intro p hp
  obtain ⟨q, hq, rfl⟩ := List.mem_map.1 hp
  exact valid_free ((validN_iff.1 h).2 q hq)

theorem fmtS_nil : fmtS [] = mk [47] := by simp [fmtS, fmtL, Lib.join_nil]
/-- The text of a right name that has parts is split into the empty piece and the parts. -/
theorem split_fmt {l : List ByteArray} (h : validN l = true) (hl : l ≠ []) : splitB (fmtS l) = mk [] :: l := by
  unfold splitB fmtS fmtL
  rw [bl_mk, goS, if_pos rfl, goS_join (l.map bl) (by simpa using hl) (free_of_valid h), List.map_cons, map_mk_bl]
theorem parts_fmt {l : List ByteArray} (h : validN l = true) : partsB (fmtS l) = l := by
  by_cases hl : l = []
  · subst hl
    rw [fmtS_nil]
    unfold partsB splitB
    rw [bl_mk]
    simp [goS, fullB, mk_size]
  · unfold partsB
    rw [split_fmt h hl, List.filter_cons_of_neg (by simp [fullB, mk_size]), filter_valid h]
theorem pOk_fmt {l : List ByteArray} (h : validN l = true) : pOk (fmtS l) = true := by
  unfold pOk; rw [parts_fmt h, h]; simp
theorem pN_fmt {l : List ByteArray} (h : validN l = true) : pN (fmtS l) = l := by
  unfold pN; rw [if_pos (pOk_fmt h), parts_fmt h]
theorem pOk_iff {s : ByteArray} : pOk s = true ↔ validN (partsB s) = true ∧ fmtS (partsB s) = s := by unfold pOk; simp
theorem pN_yes {s : ByteArray} (h : pOk s = true) : pN s = partsB s := if_pos h
theorem pN_no {s : ByteArray} (h : pOk s = false) : pN s = [] := if_neg (by simp [h])
theorem valid_pN (s : ByteArray) : validN (pN s) = true := by
  cases h : pOk s with
  | true => rw [pN_yes h]; exact (pOk_iff.1 h).1
  | false => rw [pN_no h]; decide

/-- The reference model's way: what the pieces are asked. -/
theorem pOk_slash : pOk (mk [47]) = true ∧ pN (mk [47]) = [] := by
  have h : validN [] = true := by decide
  rw [← fmtS_nil]
  exact ⟨pOk_fmt h, pN_fmt h⟩
theorem split_yes {s : ByteArray} {rest : List ByteArray} (h : splitB s = mk [] :: rest) (hr : rest ≠ []) (hv : validN rest = true) : pOk s = true ∧ pN s = rest := by
  have hs : fmtS rest = s := by
    apply bl_inj
    have h1 : goS [] (bl s) = [] :: rest.map bl := by
      have := congrArg (List.map bl) h
      unfold splitB at this
      rw [map_bl_mk, List.map_cons, bl_mk] at this
      exact this
    have h2 := join_goS (bl s) []
    rw [h1] at h2
    obtain ⟨y, r, rfl⟩ : ∃ y r, rest = y :: r := by
      cases rest with
      | nil => exact absurd rfl hr
      | cons y r => exact ⟨y, r, rfl⟩
    rw [List.map_cons, join_cons2, ← List.map_cons] at h2
    unfold fmtS fmtL
    rw [bl_mk]
    exact h2
  rw [← hs]
  exact ⟨pOk_fmt hv, pN_fmt hv⟩
theorem split_no {s : ByteArray} (h47 : s ≠ mk [47]) (h : ∀ rest, splitB s = mk [] :: rest → rest ≠ [] → validN rest = false) : pOk s = false := by
  cases hp : pOk s with
  | false => rfl
  | true =>
    obtain ⟨h1, h2⟩ := pOk_iff.1 hp
    by_cases he : partsB s = []
    · rw [he, fmtS_nil] at h2
      exact absurd h2.symm h47
    · have h3 := split_fmt h1 he
      rw [h2] at h3
      have h4 := h _ h3 he
      rw [h1] at h4; cases h4

/-! ### runs of bytes and runes -/
def seg (s : ByteArray) (f i : Nat) : List UInt8 := ((bl s).drop f).take (i - f)
def rest (s : ByteArray) (i : Nat) : List UInt8 := (bl s).drop i
theorem rest_end (s : ByteArray) : rest s s.size = [] := by unfold rest; rw [← bl_length]; simp
theorem rest_cons (s : ByteArray) {i : Nat} (h : i < s.size) : rest s i = s[i]'h :: rest s (i + 1) := by
  unfold rest
  rw [List.drop_eq_getElem_cons (by rw [bl_length]; exact h), bl_get s i h]
theorem seg_self (s : ByteArray) (i : Nat) : seg s i i = [] := by simp [seg]
theorem seg_succ (s : ByteArray) {f i : Nat} (hf : f ≤ i) (h : i < s.size) : seg s f (i + 1) = seg s f i ++ [s[i]'h] := by
  unfold seg
  have e : i + 1 - f = (i - f) + 1 := by omega
  rw [e, List.take_add_one, List.getElem?_drop, show f + (i - f) = i by omega, List.getElem?_eq_getElem (by rw [bl_length]; exact h), bl_get s i h]
  rfl
theorem seg_length (s : ByteArray) {f i : Nat} (hf : f ≤ i) (h : i ≤ s.size) : (seg s f i).length = i - f := by
  unfold seg; rw [List.length_take, List.length_drop, bl_length]; omega
theorem extract_seg (s : ByteArray) (f i : Nat) : s.extract f i = mk (seg s f i) := by
  conv => lhs; rw [← mk_bl s]
  exact ByteArray.extract_mk (bl s) f i
theorem goS_slash (s : ByteArray) {f i : Nat} (h : i < s.size) (hc : s[i]'h = 47) : goS (seg s f i) (rest s i) = seg s f i :: goS (seg s (i + 1) (i + 1)) (rest s (i + 1)) := by
  rw [rest_cons s h, goS, if_pos hc, seg_self]
theorem goS_byte (s : ByteArray) {f i : Nat} (hf : f ≤ i) (h : i < s.size) (hc : s[i]'h ≠ 47) : goS (seg s f i) (rest s i) = goS (seg s f (i + 1)) (rest s (i + 1)) := by
  rw [rest_cons s h, goS, if_neg hc, seg_succ s hf h]
theorem goS_end (s : ByteArray) (f : Nat) : goS (seg s f s.size) (rest s s.size) = [seg s f s.size] := by rw [rest_end]; rfl
theorem goS_bytes (s : ByteArray) {f i : Nat} (hf : f ≤ i) : ∀ m, (hm : i + m ≤ s.size) → (∀ j (hj : j < m), s[i + j]'(by omega) ≠ 47) → goS (seg s f i) (rest s i) = goS (seg s f (i + m)) (rest s (i + m))
  | 0, _, _ => rfl
  | m + 1, hm, hc => by
    rw [goS_bytes s hf m (by omega) (fun j hj => hc j (by omega)), goS_byte s (by omega) (by omega) (hc m (by omega))]
    rfl

theorem decode_cont (s : ByteArray) (pos j : Nat) (h1 : 1 ≤ j) (h2 : j < (Utf8.decode s pos).2) : ∃ h : pos + j < s.size, 128 ≤ (s[pos + j]'h).toNat := by
  have key : ∀ k, (pos + k < s.size ∧ (s.get! (pos + k)).toNat / 64 = 2) → ∃ h : pos + k < s.size, 128 ≤ (s[pos + k]'h).toNat := by
    rintro k ⟨hk, hq⟩
    refine ⟨hk, ?_⟩
    have e := get_at s (pos + k) hk
    rw [Nat.add_zero] at e
    rw [← e]; omega
  simp only [Utf8.decode] at h2
  repeat' split at h2
  all_goals (try simp only [Bool.and_eq_true, decide_eq_true_eq, beq_iff_eq] at *)
  all_goals (try (exfalso; omega))
  all_goals
    have hj : j = 1 ∨ j = 2 ∨ j = 3 := by omega
    rcases hj with rfl | rfl | rfl
  all_goals first
    | (exfalso; omega)
    | (refine key _ ⟨?_, ?_⟩ <;> omega)

end Go.Proofs.YtkojeajjappchaaGreat.Row
/- What a pattern's parts are: a variable (a question mark and a letter), the program's and the model's test of it; the texts * and **; which parts are right. No conditions but that lengths fit. -/
namespace Go.Proofs.YtkojeajjappchaaGreat.Row
open Go.ChangeShapes Go.WideShapes Go.ChangeAt Go.RowKit Go.Instr
set_option linter.unusedVariables false
set_option maxRecDepth 100000

def letterP (s : ByteArray) : Bool := decide (∃ h : s.size = 2, (s[0]'(by omega)).toNat = 63 ∧ 97 ≤ (s[1]'(by omega)).toNat ∧ (s[1]'(by omega)).toNat ≤ 122)
theorem letterP_size {s : ByteArray} (h : ¬ s.size = 2) : letterP s = false := decide_eq_false fun ⟨e, _⟩ => h e
theorem letterP_0 {s : ByteArray} (h : s.size = 2) (h0 : ¬ (s[0]'(by omega)).toNat = 63) : letterP s = false := decide_eq_false fun ⟨e, h1, _⟩ => h0 h1
theorem letterP_1 {s : ByteArray} (h : s.size = 2) (h0 : ¬ (97 ≤ (s[1]'(by omega)).toNat ∧ (s[1]'(by omega)).toNat ≤ 122)) : letterP s = false := decide_eq_false fun ⟨e, _, h1⟩ => h0 h1
theorem letterP_yes {s : ByteArray} (h : s.size = 2) (h0 : (s[0]'(by omega)).toNat = 63) (h1 : 97 ≤ (s[1]'(by omega)).toNat ∧ (s[1]'(by omega)).toNat ≤ 122) : letterP s = true := decide_eq_true ⟨h, h0, h1⟩
theorem letterP_iff {s : ByteArray} : letterP s = true ↔ ∃ h : s.size = 2, (s[0]'(by omega)).toNat = 63 ∧ 97 ≤ (s[1]'(by omega)).toNat ∧ (s[1]'(by omega)).toNat ≤ 122 := by unfold letterP; exact decide_eq_true_iff

set_option maxHeartbeats 1000000 in
theorem isVariable (s : ByteArray) (w : World) (hl : s.size ≤ 140737488351232) :
    Calls Tryz.prog 71 #[.string s] w fun e w' => e = .returned (.bool (letterP s)) ∧ w = w' := by
  by_cases h2 : s.size = 2
  · have hb0 := (s[0]'(by omega)).toNat_lt
    have hb1 := (s[1]'(by omega)).toNat_lt
    by_cases h0 : (s[0]'(by omega)).toNat = 63
    · by_cases ha : 97 ≤ (s[1]'(by omega)).toNat
      · by_cases hz : (s[1]'(by omega)).toNat ≤ 122
        · have HV := Lib.hid (letterP_yes h2 h0 ⟨ha, hz⟩)
          have t0 : (((s[0]'(by omega)).toNat : Int) == 63) = true := by simp [h0]
          clear h0
          go_enter Tryz.func71, Tryz.ntmps71
          go_wp2
          go_ret
          refine ⟨ret_bool ?_, rfl⟩
          rw [HV.out]; exact decide_eq_true (by omega)
        · have HV := Lib.hid (letterP_1 h2 (fun e => hz e.2))
          have t0 : (((s[0]'(by omega)).toNat : Int) == 63) = true := by simp [h0]
          clear h0
          go_enter Tryz.func71, Tryz.ntmps71
          go_wp2
          go_ret
          refine ⟨ret_bool ?_, rfl⟩
          rw [HV.out]; exact decide_eq_false (by omega)
      · have HV := Lib.hid (letterP_1 h2 (fun e => ha e.1))
        have t0 : (((s[0]'(by omega)).toNat : Int) == 63) = true := by simp [h0]
        clear h0
        go_enter Tryz.func71, Tryz.ntmps71
        go_wp2
        go_ret
        exact ⟨ret_bool HV.out.symm, rfl⟩
    · have HV := Lib.hid (letterP_0 h2 h0)
      have t0 : (((s[0]'(by omega)).toNat : Int) == 63) = false := by simp; omega
      clear h0
      go_enter Tryz.func71, Tryz.ntmps71
      go_wp2
      go_ret
      exact ⟨ret_bool HV.out.symm, rfl⟩
  · have HV := Lib.hid (letterP_size h2)
    have t0 : (((s.size : Nat) : Int) == 2) = false := by simp; omega
    clear h2
    go_enter Tryz.func71, Tryz.ntmps71
    go_wp2
    go_ret
    exact ⟨ret_bool HV.out.symm, rfl⟩

set_option maxHeartbeats 1000000 in
theorem l5Letter (s : ByteArray) (w : World) (hl : s.size ≤ 140737488351232) :
    Calls Tryz.prog 48 #[.string s] w fun e w' => e = .returned (.bool (letterP s)) ∧ w = w' := by
  by_cases h2 : s.size = 2
  · have hb0 := (s[0]'(by omega)).toNat_lt
    have hb1 := (s[1]'(by omega)).toNat_lt
    by_cases h0 : (s[0]'(by omega)).toNat = 63
    · have t0 : (((s[0]'(by omega)).toNat : Int) == 63) = true := by simp [h0]
      by_cases ha : 97 ≤ (s[1]'(by omega)).toNat ∧ (s[1]'(by omega)).toNat ≤ 122
      · have HV := Lib.hid (letterP_yes h2 h0 ha)
        have ha1 : (97 : Int) ≤ ((s[1]'(by omega)).toNat : Int) := by omega
        have ha2 : ((s[1]'(by omega)).toNat : Int) ≤ 122 := by omega
        clear h0 ha
        go_enter Tryz.func48, Tryz.ntmps48
        go_wp2_with fail
        refine (Num.specIn_true ha1 ha2 _).mono ?_
        rintro e w2 ⟨rfl, rfl⟩
        go_wp2
        go_ret
        exact ⟨ret_bool HV.out.symm, rfl⟩
      · have HV := Lib.hid (letterP_1 h2 ha)
        have hn : ¬ ((97 : Int) ≤ ((s[1]'(by omega)).toNat : Int) ∧ ((s[1]'(by omega)).toNat : Int) ≤ 122) := by omega
        have HNN := Lib.hid hn
        clear h0 ha hn
        go_enter Tryz.func48, Tryz.ntmps48
        go_wp2_with fail
        refine (Num.specIn_false HNN.out _).mono ?_
        rintro e w2 ⟨rfl, rfl⟩
        go_wp2
        go_ret
        exact ⟨ret_bool HV.out.symm, rfl⟩
    · have HV := Lib.hid (letterP_0 h2 h0)
      have t0 : (((s[0]'(by omega)).toNat : Int) == 63) = false := by simp; omega
      clear h0
      go_enter Tryz.func48, Tryz.ntmps48
      go_wp2
      go_ret
      exact ⟨ret_bool HV.out.symm, rfl⟩
  · have HV := Lib.hid (letterP_size h2)
    have t0 : (((s.size : Nat) : Int) == 2) = false := by simp; omega
    clear h2
    go_enter Tryz.func48, Tryz.ntmps48
    go_wp2
    go_ret
    exact ⟨ret_bool HV.out.symm, rfl⟩

end Go.Proofs.YtkojeajjappchaaGreat.Row
/- ValidPattern, the program's and the model's, and what the program makes of a pattern's parts (interface values). No conditions but that lengths fit. -/
namespace Go.Proofs.YtkojeajjappchaaGreat.Row
open Go.ChangeShapes Go.WideShapes Go.ChangeAt Go.RowKit Go.Instr
set_option linter.unusedVariables false
set_option maxRecDepth 100000

def starB : ByteArray := { data := #[42] }
def star2B : ByteArray := { data := #[42, 42] }
theorem star_tl (s : ByteArray) : (s.toList == [42]) = decide (s = starB) := by
  by_cases h : s = starB
  · rw [decide_eq_true h, h]
    have : starB.toList = [42] := ByteArray.toList_mk [42]
    simp [this]
  · rw [decide_eq_false h]
    have : s.toList ≠ [42] := fun e => h (toList_inj (by rw [e]; exact (ByteArray.toList_mk [42]).symm))
    simpa using this
theorem star2_tl (s : ByteArray) : (s.toList == [42, 42]) = decide (s = star2B) := by
  by_cases h : s = star2B
  · rw [decide_eq_true h, h]
    have : star2B.toList = [42, 42] := ByteArray.toList_mk [42, 42]
    simp [this]
  · rw [decide_eq_false h]
    have : s.toList ≠ [42, 42] := fun e => h (toList_inj (by rw [e]; exact (ByteArray.toList_mk [42, 42]).symm))
    simpa using this
theorem star_yes {s : ByteArray} (h : s = starB) : (s.toList == [42]) = true := by rw [star_tl]; exact decide_eq_true h
theorem star_no {s : ByteArray} (h : ¬ s = starB) : (s.toList == [42]) = false := by rw [star_tl]; exact decide_eq_false h
theorem star2_yes {s : ByteArray} (h : s = star2B) : (s.toList == [42, 42]) = true := by rw [star2_tl]; exact decide_eq_true h
theorem star2_no {s : ByteArray} (h : ¬ s = star2B) : (s.toList == [42, 42]) = false := by rw [star2_tl]; exact decide_eq_false h
theorem star_size : starB.size = 1 := rfl
theorem star2_size : star2B.size = 2 := rfl
theorem star_validP : validP starB = false := validP_byte (k := 0) (by decide) (by rw [show (starB[0]'(by decide)).toNat = 42 from rfl]; unfold okR; omega)
theorem star2_validP : validP star2B = false := validP_byte (k := 0) (by decide) (by rw [show (star2B[0]'(by decide)).toNat = 42 from rfl]; unfold okR; omega)
theorem star_letterP : letterP starB = false := letterP_size (by decide)
theorem star2_letterP : letterP star2B = false := letterP_0 rfl (by rw [show (star2B[0]'(by decide)).toNat = 42 from rfl]; omega)
theorem star_ne : starB ≠ star2B := fun h => by have := congrArg ByteArray.size h; simp [star_size, star2_size] at this
theorem letter_validP {s : ByteArray} (h : letterP s = true) : validP s = false := by
  obtain ⟨h2, h0, _⟩ := letterP_iff.1 h
  exact validP_byte (k := 0) (by omega) (by rw [h0]; unfold okR; omega)
theorem valid_letterP {s : ByteArray} (h : validP s = true) : letterP s = false := by
  cases hl : letterP s with
  | false => rfl
  | true => rw [letter_validP hl] at h; cases h
theorem valid_ne {s : ByteArray} (h : validP s = true) : s ≠ starB ∧ s ≠ star2B := ⟨fun e => (by rw [e, star_validP] at h; cases h), fun e => (by rw [e, star2_validP] at h; cases h)⟩
theorem letter_ne {s : ByteArray} (h : letterP s = true) : s ≠ starB ∧ s ≠ star2B := ⟨fun e => (by rw [e, star_letterP] at h; cases h), fun e => (by rw [e, star2_letterP] at h; cases h)⟩

/-- Whether a text is a part of a pattern; whether it is the last one. -/
def elemP (s : ByteArray) (last : Bool) : Bool := validP s || decide (s = starB) || letterP s || (decide (s = star2B) && last)
def validPat (l : List ByteArray) : Bool := decide (l.length ≤ 6 ∧ ∀ j, j < l.length → elemP (nth l j) (decide (j + 1 = l.length)) = true)
def allE (l : List ByteArray) (k : Nat) : Prop := ∀ j, j < k → elemP (nth l j) (decide (j + 1 = l.length)) = true
theorem allE_zero (l : List ByteArray) : allE l 0 := fun j h => absurd h (by omega)
theorem allE_succ {l : List ByteArray} {k : Nat} (h : allE l k) (hc : elemP (nth l k) (decide (k + 1 = l.length)) = true) : allE l (k + 1) := fun j h1 => by
  by_cases e : j = k
  · subst e; exact hc
  · exact h j (by omega)
theorem validPat_not {l : List ByteArray} {k : Nat} (hk : k < l.length) (hc : elemP (nth l k) (decide (k + 1 = l.length)) = false) : validPat l = false := by
  refine decide_eq_false (fun e => ?_)
  have := e.2 k hk
  rw [hc] at this; cases this
theorem validPat_all {l : List ByteArray} (h : allE l l.length) : validPat l = decide (l.length ≤ 6) := by
  unfold validPat
  congr 1
  exact propext ⟨fun e => e.1, fun e => ⟨e, h⟩⟩
theorem validPat_long {l : List ByteArray} (h : ¬ l.length ≤ 6) : validPat l = false := decide_eq_false (fun e => h e.1)
theorem validPat_iff {l : List ByteArray} : validPat l = true ↔ l.length ≤ 6 ∧ ∀ j, j < l.length → elemP (nth l j) (decide (j + 1 = l.length)) = true := by unfold validPat; exact decide_eq_true_iff
theorem elemP_iff {s : ByteArray} {b : Bool} : elemP s b = true ↔ validP s = true ∨ s = starB ∨ letterP s = true ∨ (s = star2B ∧ b = true) := by simp [elemP, or_assoc]
theorem elemP_no {s : ByteArray} {b : Bool} (h1 : validP s = false) (h2 : ¬ s = starB) (h3 : letterP s = false) (h4 : ¬ (s = star2B ∧ b = true)) : elemP s b = false := by
  cases h : elemP s b with
  | false => rfl
  | true =>
    rcases elemP_iff.1 h with h | h | h | h
    · rw [h1] at h; cases h
    · exact absurd h h2
    · rw [h3] at h; cases h
    · exact absurd h h4

/-- The value that the program makes of a part. -/
def encPt (s : ByteArray) : Value :=
  if validP s = true then .iface 129 (.agg #[.string s]) else if s = starB then .iface 130 (.agg #[]) else if letterP s = true then .iface 132 (.agg #[.string s]) else .iface 116 (.agg #[])
theorem encPt_lit {s : ByteArray} (h : validP s = true) : encPt s = .iface 129 (.agg #[.string s]) := if_pos h
theorem encPt_any {s : ByteArray} (h : s = starB) : encPt s = .iface 130 (.agg #[]) := by
  unfold encPt
  rw [if_neg (by rw [h, star_validP]; simp), if_pos h]
theorem encPt_var {s : ByteArray} (h : letterP s = true) : encPt s = .iface 132 (.agg #[.string s]) := by
  unfold encPt
  rw [if_neg (by rw [letter_validP h]; simp), if_neg (letter_ne h).1, if_pos h]
theorem encPt_rest {s : ByteArray} (h : s = star2B) : encPt s = .iface 116 (.agg #[]) := by
  unfold encPt
  rw [if_neg (by rw [h, star2_validP]; simp), if_neg (by rw [h]; exact fun e => star_ne e.symm), if_neg (by rw [h, star2_letterP]; simp)]
theorem onePt (s : ByteArray) : (encPt s).oneCell' = true := by
  unfold encPt
  repeat' split
  all_goals rfl
theorem encPt_form (s : ByteArray) : ∃ t v, encPt s = .iface t v := by
  unfold encPt
  repeat' split
  all_goals exact ⟨_, _, rfl⟩
theorem holds_one' {α : Type} [Inhabited α] (enc : α → Value) (e : TypeId) (w : World) (x : α) {u : Value} (h : enc x = u) : Holds enc (w.alloc (.cells #[u] e)) (.slice (some ⟨w.heap.size, 0, none⟩) 1 1) [x] := by subst h; exact holds_one enc e w x
theorem elemPT : Elem Tryz.prog 106 .nilIface 16 := by unfold Elem; kernel_rfl

set_option maxHeartbeats 1000000 in
theorem readPart (s : ByteArray) (b : Bool) (w : World) (hl : s.size ≤ 140737488351232) :
    Calls Tryz.prog 86 #[.string s, .bool b] w fun e w' => e = .returned (.tuple #[if elemP s b = true then encPt s else .nilIface, .bool (elemP s b)]) ∧ Below w.heap.size w w' := by
  by_cases hv : validP s = true
  · have he : elemP s b = true := elemP_iff.2 (Or.inl hv)
    rw [he, if_pos rfl, encPt_lit hv]
    have HV := Lib.hid hv
    clear hv he
    go_enter Tryz.func86, Tryz.ntmps86
    go_wp2_with fail
    refine (implValidPart _ _ hl).mono ?_
    rintro e w1 ⟨rfl, hb⟩
    rw [HV.out]
    go_wp2
    go_ret2
    exact ⟨rfl, hb⟩
  · have hv : validP s = false := by simpa using hv
    have HV := Lib.hid hv
    by_cases hs : s = starB
    · have he : elemP s b = true := elemP_iff.2 (Or.inr (Or.inl hs))
      rw [he, if_pos rfl, encPt_any hs]
      have HQ := Lib.hid (star_yes hs)
      clear hv he hs
      go_enter Tryz.func86, Tryz.ntmps86
      go_wp2_with fail
      refine (implValidPart _ _ hl).mono ?_
      rintro e w1 ⟨rfl, hb⟩
      rw [HV.out]
      have hq := HQ.out
      go_wp2
      go_ret2
      exact ⟨rfl, hb⟩
    · by_cases hx : letterP s = true
      · have he : elemP s b = true := elemP_iff.2 (Or.inr (Or.inr (Or.inl hx)))
        rw [he, if_pos rfl, encPt_var hx]
        have HQ := Lib.hid (star_no hs)
        have HX := Lib.hid hx
        clear hv he hs hx
        go_enter Tryz.func86, Tryz.ntmps86
        go_wp2_with fail
        refine (implValidPart _ _ hl).mono ?_
        rintro e w1 ⟨rfl, hb⟩
        rw [HV.out]
        have hq := HQ.out
        go_wp2_with fail
        refine (isVariable _ _ hl).mono ?_
        rintro e w2 ⟨rfl, rfl⟩
        rw [HX.out]
        go_wp2
        go_ret2
        exact ⟨rfl, hb⟩
      · have hx : letterP s = false := by simpa using hx
        by_cases h2 : s = star2B ∧ b = true
        · have he : elemP s b = true := elemP_iff.2 (Or.inr (Or.inr (Or.inr h2)))
          rw [he, if_pos rfl, encPt_rest h2.1]
          have HQ := Lib.hid (star_no hs)
          have HX := Lib.hid hx
          have HQ2 := Lib.hid (star2_yes h2.1)
          obtain ⟨-, rfl⟩ := h2
          clear hv he hs hx
          go_enter Tryz.func86, Tryz.ntmps86
          go_wp2_with fail
          refine (implValidPart _ _ hl).mono ?_
          rintro e w1 ⟨rfl, hb⟩
          rw [HV.out]
          have hq := HQ.out
          go_wp2_with fail
          refine (isVariable _ _ hl).mono ?_
          rintro e w2 ⟨rfl, rfl⟩
          rw [HX.out]
          have hq2 := HQ2.out
          go_wp2
          go_ret2
          exact ⟨rfl, hb⟩
        · have he : elemP s b = false := elemP_no hv hs hx h2
          rw [he, if_neg (by simp)]
          have HQ := Lib.hid (star_no hs)
          have HX := Lib.hid hx
          have HQ2 := Lib.hid (show ((s.toList == [42, 42]) && b) = false by
            cases b with
            | false => simp
            | true => rw [star2_no (fun e => h2 ⟨e, rfl⟩)]; rfl)
          clear hv he hs hx
          go_enter Tryz.func86, Tryz.ntmps86
          go_wp2_with fail
          refine (implValidPart _ _ hl).mono ?_
          rintro e w1 ⟨rfl, hb⟩
          rw [HV.out]
          have hq := HQ.out
          go_wp2_with fail
          refine (isVariable _ _ hl).mono ?_
          rintro e w2 ⟨rfl, rfl⟩
          rw [HX.out]
          cases hc : (s.toList == [42, 42]) with
          | false =>
            go_wp2
            go_ret2
            exact ⟨rfl, hb⟩
          | true =>
            have hq2 := HQ2.out
            rw [hc] at hq2
            have hbf : b = false := by simpa using hq2
            subst hbf
            clear hq2
            go_wp2
            go_ret2
            exact ⟨rfl, hb⟩


theorem ret_two {v : Value} {a b : Bool} (h : a = b) : Ending.returned (.tuple #[v, .bool a]) = .returned (.tuple #[v, .bool b]) := by rw [h]
theorem last_is {k n : Nat} {l : List ByteArray} (h : n = l.length) : (((k : Nat) : Int) == ((n : Nat) : Int) - 1) = decide (k + 1 = l.length) := by
  by_cases e : k + 1 = l.length
  · rw [decide_eq_true e]; simp; omega
  · rw [decide_eq_false e]; simp; omega
def ifP (c : Bool) (l : List ByteArray) : List ByteArray := if c = true then l else []
set_option maxHeartbeats 2000000 in
theorem readParts (v : Value) (l : List ByteArray) (w : World) (h : Holds Value.string w v l) (hs : bulk l ≤ 100000000) :
    Calls Tryz.prog 68 #[.agg #[v]] w fun e w' => ∃ v', e = .returned (.tuple #[v', .bool (validPat l)]) ∧ Own 106 encPt w.heap.size w' v' (ifP (validPat l) l) ∧ Below w.heap.size w w' := by
  obtain ⟨x, n, cap, rfl, hn, hcap, hh⟩ := h.shapeN
  have hll := bigLen hs
  have HS := Lib.hid (fun k (hk : k < l.length) => size_nth hs hk)
  rw [← hn] at hll
  have HN := Lib.hid hn
  have HH := Lib.hid hh
  have HB0 := Lib.hid ((Below.refl w.heap.size w).alloc (Nat.le_refl _) (.cells #[.slice x n cap] 26))
  have HC0 := Lib.hid (Ret.Box.new w (.slice x n cap) 26)
  by_cases h6 : n ≤ 6
  · clear hn h hh hs
    obtain ⟨i0, hi, hz0, hz1, hz2⟩ := info_parts elemPT
    have HI := Lib.hid hi; have HZ0 := Lib.hid hz0; have HZ1 := Lib.hid hz1; have HZ2 := Lib.hid hz2
    clear hi hz0 hz1 hz2
    go_enter Tryz.func68, Tryz.ntmps68
    go_wp2_with (at_make; refine wpList_make_own _ rfl _ _ 91 rfl (w.heap.size + 1) 106 i0 .nilIface 1 Tryz.underlying91 HI.out HZ0.out HZ1.out _ _ _ n rfl rfl rfl (by rw [HZ2.out]; omega) (by unfold maxLen; omega) (by simp) ?_)
    intro w1 hown hgrow
    have HO := Lib.hid (show Own 106 encPt (w.heap.size + 1) w1 (.slice (some ⟨w.heap.size + 1, 0, none⟩) 0 n) [] from hown)
    have HC1 := Lib.hid (HC0.out.grown hgrow (by simp))
    have HB1 := Lib.hid (HB0.out.grown hgrow (by simp) (fun g hg => by cases hg))
    clear hown hgrow
    have hc1 := HC1.out.cell
    go_wp2_with fail
    clear hc1
    go_loopw [4, 20] (fun pv i wr => ∃ k : Nat, k ≤ n ∧ i = .int .i64 k ∧ Hid (Own 106 encPt (w.heap.size + 1) wr pv (l.take k)) ∧ Hid (allE l k) ∧ Hid (Ret.Box wr w.heap.size (.slice x n cap) 26) ∧ Hid (Below w.heap.size w wr)) (fun _ i _ => n - (intOf i).toNat)
    case atStart => exact ⟨0, Nat.zero_le _, rfl, HO, Lib.hid (allE_zero l), HC1, HB1⟩
    case round =>
      obtain ⟨k, hk, rfl, ho, ha, hc, hb⟩ := hrel
      by_cases hlt : k < n
      · have hlen := HN.out
        obtain ⟨b, off, rfl, hd⟩ := (HH.out.on hb.out).at (j := k) (by omega)
        have hsz := HS.out k (by omega)
        have hc1 := hc.out.cell
        clear hlen
        go_wp2_with fail
        rw [show (((k : Nat) : Int) == ((n : Nat) : Int) - 1) = decide (k + 1 = l.length) from last_is HN.out]
        refine (readPart _ _ _ (by omega)).mono ?_
        rintro e w2 ⟨rfl, hb2⟩
        have HB2 := Lib.hid (hb.out.trans (hb2.mono hb.out.size))
        have HC2 := Lib.hid (hc.out.on hb2)
        have HO2 := Lib.hid (ho.out.on hb2)
        clear hb2 hd hc1 hsz
        cases he : elemP (nth l k) (decide (k + 1 = l.length)) with
        | false =>
          have HV := Lib.hid (validPat_not (by have := HN.out; omega) he)
          rw [if_neg (by simp)]
          clear he
          go_wp2
          go_ret2
          exact ⟨_, ret_two HV.out.symm, by rw [HV.out]; exact Own.nil _ _ _ _, HB2.out⟩
        | true =>
          have HA2 := Lib.hid (allE_succ ha.out he)
          obtain ⟨t5, v5, h5⟩ := encPt_form (nth l k)
          rw [if_pos rfl, h5]
          have H5 := Lib.hid h5
          clear he h5
          have hlen : (l.take k).length = k := by rw [List.length_take]; have := HN.out; omega
          have HL := Lib.hid hlen
          have HX := Lib.hid (show l.take k ++ [nth l k] = l.take (k + 1) by rw [nth_eq (by have := HN.out; omega)]; exact (List.take_succ_eq_append_getElem (by have := HN.out; omega)).symm)
          have HO3 := Lib.hid (HO2.out.on ((Below.refl _ _).alloc (Nat.le_refl _) (.cells #[.iface t5 v5] 106)))
          have HC3 := Lib.hid (HC2.out.on ((Below.refl _ _).alloc (Nat.le_refl _) (.cells #[.iface t5 v5] 106)))
          have HB3 := Lib.hid (HB2.out.alloc HB2.out.size (.cells #[.iface t5 v5] 106))
          have HSZ := Lib.hid (HC2.out.lt)
          clear hlen
          go_wp2_with (at_builtin; refine wpList_app (enc := encPt) (B := w.heap.size + 1) (l := l.take k) (m := [nth l k]) rfl _ _ rfl Tryz.underlying91 elemPT rfl rfl rfl HO3.out (holds_one' encPt 106 _ _ H5.out) onePt (by rw [HL.out]; simp; omega) (by rw [HL.out]; unfold maxLen; simp; omega) (by have := HSZ.out; simp; omega) ?_)
          intro v2 w3 ho3 hg3
          have HO4 := Lib.hid (HX.out ▸ ho3)
          have HC4 := Lib.hid (HC3.out.grown hg3 (fun e => by have := (HO3.out.lt _ e.symm).1; omega))
          have HB4 := Lib.hid (HB3.out.grown hg3 (by have := HSZ.out; simp; omega) (fun g hh => by have := (HO3.out.lt g hh).1; omega))
          clear ho3 hg3
          go_wp2_with fail
          go_roundw
          case rel => exact ⟨k + 1, by omega, by go_num, HO4, HA2, HC4, HB4⟩
          case measure => simp [intOf]; omega
      · obtain rfl : k = n := by omega
        have HV := Lib.hid (show validPat l = true by rw [validPat_all (HN.out ▸ ha.out)]; exact decide_eq_true (by have := HN.out; omega))
        clear hlt
        go_wp2
        go_ret2
        refine ⟨_, ret_two HV.out.symm, ?_, hb.out⟩
        rw [HV.out]
        have := ho.out.mono (Nat.le_succ _)
        rw [HN.out, List.take_length] at this
        exact this
  · have HV := Lib.hid (validPat_long (l := l) (by omega))
    have h7 : (6 : Int) < (n : Int) := by omega
    rw [HV.out]
    clear hn h hh hs h6
    go_enter Tryz.func68, Tryz.ntmps68
    go_wp2
    go_ret2
    exact ⟨_, rfl, Own.nil _ _ _ _, HB0.out⟩
end Go.Proofs.YtkojeajjappchaaGreat.Row
/- Contracts of ValidPattern, the program's and the model's. No conditions but that lengths fit. -/
namespace Go.Proofs.YtkojeajjappchaaGreat.Row
open Go.ChangeShapes Go.WideShapes Go.ChangeAt Go.RowKit Go.Instr
set_option linter.unusedVariables false
set_option maxRecDepth 100000

set_option maxHeartbeats 1000000 in
theorem implValidPattern (v : Value) (l : List ByteArray) (w : World) (h : Holds Value.string w v l) (hl : bulk l ≤ 100000000) :
    Calls Tryz.prog 45 #[.agg #[v]] w fun e w' => e = .returned (.bool (validPat l)) ∧ Below w.heap.size w w' := by
  obtain ⟨x, n, cap, rfl, hn, hcap, hh⟩ := h.shapeN
  have HL := Lib.hid hl
  have HH := Lib.hid (hh.on ((Below.refl w.heap.size w).alloc (Nat.le_refl _) (.cells #[.slice x n cap] 26)))
  have HB0 := Lib.hid ((Below.refl w.heap.size w).alloc (Nat.le_refl _) (.cells #[.slice x n cap] 26))
  clear hn h hh hl
  go_enter Tryz.func45, Tryz.ntmps45
  go_wp2_with fail
  refine (readParts _ l _ HH.out HL.out).mono ?_
  rintro e w1 ⟨v1, rfl, ho, hb⟩
  have HB1 := Lib.hid (HB0.out.trans (hb.mono HB0.out.size))
  clear ho hb
  go_wp2
  go_ret
  exact ⟨rfl, HB1.out⟩

set_option maxHeartbeats 2000000 in
theorem specValidPattern (v : Value) (l : List ByteArray) (w : World) (h : Holds Value.string w v l) (hl : bulk l ≤ 100000000) :
    Calls Tryz.prog 47 #[.agg #[v]] w fun e w' => e = .returned (.bool (validPat l)) ∧ Below w.heap.size w w' := by
  obtain ⟨x, n, cap, rfl, hn, hcap, hh⟩ := h.shapeN
  have hll := bigLen hl
  have HS := Lib.hid (fun k (hk : k < l.length) => size_nth hl hk)
  rw [← hn] at hll
  have HN := Lib.hid hn
  have HH := Lib.hid hh
  have HB0 := Lib.hid ((Below.refl w.heap.size w).alloc (Nat.le_refl _) (.cells #[.slice x n cap] 26))
  have HC0 := Lib.hid (Ret.Box.new w (.slice x n cap) 26)
  clear hn h hh hl
  go_enter Tryz.func47, Tryz.ntmps47
  go_wp2_with fail
  go_loopw [3] (fun i wr => ∃ k : Nat, k ≤ n ∧ i = .int .i64 k ∧ Hid (allE l k) ∧ Hid (Ret.Box wr w.heap.size (.slice x n cap) 26) ∧ Hid (Below w.heap.size w wr)) (fun i _ => n - (intOf i).toNat)
  case atStart => exact ⟨0, Nat.zero_le _, rfl, Lib.hid (allE_zero l), HC0, HB0⟩
  case round =>
    obtain ⟨k, hk, rfl, ha, hc, hb⟩ := hrel
    have hc1 := hc.out.cell
    by_cases hlt : k < n
    · have hlen := HN.out
      obtain ⟨b, off, rfl, hd⟩ := (HH.out.on hb.out).at (j := k) (by omega)
      have hsz := HS.out k (by omega)
      clear hlen
      have HE := Lib.hid (fun (he : elemP (nth l k) (decide (k + 1 = l.length)) = true) => allE_succ ha.out he)
      by_cases hv : validP (nth l k) = true
      · have HA := Lib.hid (HE.out (elemP_iff.2 (Or.inl hv)))
        have HV := Lib.hid hv
        clear HE hv
        go_wp2_with fail
        refine (specValidPart _ _ (by omega)).mono ?_
        rintro e w2 ⟨rfl, rfl⟩
        rw [HV.out]
        go_wp2_with fail
        go_roundw
        case rel => exact ⟨k + 1, by omega, by go_num, HA, hc, hb⟩
        case measure => simp [intOf]; omega
      · have hv : validP (nth l k) = false := by simpa using hv
        have HV := Lib.hid hv
        by_cases hs : nth l k = starB
        · have HA := Lib.hid (HE.out (elemP_iff.2 (Or.inr (Or.inl hs))))
          have HQ := Lib.hid (show ((nth l k).toList == [42]) = true from star_yes hs)
          clear HE hv hs
          go_wp2_with fail
          refine (specValidPart _ _ (by omega)).mono ?_
          rintro e w2 ⟨rfl, rfl⟩
          rw [HV.out]
          have hq := HQ.out
          go_wp2_with fail
          go_roundw
          case rel => exact ⟨k + 1, by omega, by go_num, HA, hc, hb⟩
          case measure => simp [intOf]; omega
        · have HQ := Lib.hid (show ((nth l k).toList == [42]) = false from star_no hs)
          by_cases hx : letterP (nth l k) = true
          · have HA := Lib.hid (HE.out (elemP_iff.2 (Or.inr (Or.inr (Or.inl hx)))))
            have HX := Lib.hid hx
            clear HE hv hs hx
            go_wp2_with fail
            refine (specValidPart _ _ (by omega)).mono ?_
            rintro e w2 ⟨rfl, rfl⟩
            rw [HV.out]
            have hq := HQ.out
            go_wp2_with fail
            refine (l5Letter _ _ (by omega)).mono ?_
            rintro e w2 ⟨rfl, rfl⟩
            rw [HX.out]
            go_wp2_with fail
            go_roundw
            case rel => exact ⟨k + 1, by omega, by go_num, HA, hc, hb⟩
            case measure => simp [intOf]; omega
          · have hx : letterP (nth l k) = false := by simpa using hx
            have HX := Lib.hid hx
            by_cases h2 : nth l k = star2B
            · have HQ2 := Lib.hid (star2_yes h2)
              by_cases hlast : k + 1 = n
              · have HA := Lib.hid (HE.out (elemP_iff.2 (Or.inr (Or.inr (Or.inr ⟨h2, decide_eq_true (by have := HN.out; omega)⟩)))))
                have hl1 : ¬ ((k : Int) < (n : Int) - 1) := by omega
                clear HE hv hs hx h2
                go_wp2_with fail
                refine (specValidPart _ _ (by omega)).mono ?_
                rintro e w2 ⟨rfl, rfl⟩
                rw [HV.out]
                have hq := HQ.out
                go_wp2_with fail
                refine (l5Letter _ _ (by omega)).mono ?_
                rintro e w2 ⟨rfl, rfl⟩
                rw [HX.out]
                have hq2 := HQ2.out
                go_wp2_with fail
                go_roundw
                case rel => exact ⟨k + 1, by omega, by go_num, HA, hc, hb⟩
                case measure => simp [intOf]; omega
              · have HN2 := Lib.hid (validPat_not (l := l) (k := k) (by have := HN.out; omega) (elemP_no hv hs hx (fun e => by have := of_decide_eq_true e.2; have := HN.out; omega)))
                have hl1 : ((k : Int) < (n : Int) - 1) := by omega
                clear HE hv hs hx h2
                go_wp2_with fail
                refine (specValidPart _ _ (by omega)).mono ?_
                rintro e w2 ⟨rfl, rfl⟩
                rw [HV.out]
                have hq := HQ.out
                go_wp2_with fail
                refine (l5Letter _ _ (by omega)).mono ?_
                rintro e w2 ⟨rfl, rfl⟩
                rw [HX.out]
                have hq2 := HQ2.out
                go_wp2_with fail
                go_ret
                exact ⟨ret_bool HN2.out.symm, hb.out⟩
            · have HN2 := Lib.hid (validPat_not (l := l) (k := k) (by have := HN.out; omega) (elemP_no hv hs hx (fun e => h2 e.1)))
              have HQ2 := Lib.hid (star2_no h2)
              clear HE hv hs hx h2
              go_wp2_with fail
              refine (specValidPart _ _ (by omega)).mono ?_
              rintro e w2 ⟨rfl, rfl⟩
              rw [HV.out]
              have hq := HQ.out
              go_wp2_with fail
              refine (l5Letter _ _ (by omega)).mono ?_
              rintro e w2 ⟨rfl, rfl⟩
              rw [HX.out]
              have hq2 := HQ2.out
              go_wp2_with fail
              go_ret
              exact ⟨ret_bool HN2.out.symm, hb.out⟩
    · obtain rfl : k = n := by omega
      have HV := Lib.hid (validPat_all (HN.out ▸ ha.out))
      clear hlt
      go_wp2
      go_ret
      refine ⟨ret_bool ?_, hb.out⟩
      rw [HV.out, ← HN.out]
      simp
      omega

end Go.Proofs.YtkojeajjappchaaGreat.Row
/- Contracts of the helpers by which the laws measure, copy, compare, mark and look at slices of bindings (two strings each). No conditions but that lengths fit. -/
namespace Go.Proofs.YtkojeajjappchaaGreat.Row
open Go.ChangeShapes Go.WideShapes Go.ChangeAt Go.RowKit Go.Instr
set_option linter.unusedVariables false
set_option maxRecDepth 100000

/-- A binding: its letter and its value. -/
def encBd (x : ByteArray × ByteArray) : List Value := [.string x.1, .string x.2]
theorem szBd : Sz encBd 2 := fun _ => rfl
theorem kindBd : Kind Tryz.prog 88 encBd (.agg #[.string ByteArray.empty, .string ByteArray.empty]) 2 32 where
  elem := by unfold ElemK; kernel_rfl
  zs := rfl
  pos := by decide
  size := szBd
  one := by intro x u hu; simp [encBd] at hu; rcases hu with rfl | rfl <;> rfl
theorem bdAt {w : World} {x : Option Addr} {n cap : Nat} {l : List (ByteArray × ByteArray)} (h : HoldsK encBd 2 w (.slice x n cap) l) {k : Nat} (hk : k < l.length) :
    ∃ b off, x = some ⟨b, off, none⟩ ∧ w.cell? ⟨b, off + k * 2, none⟩ = some (.string (nth l k).1) ∧ w.cell? ⟨b, off + k * 2 + 1, none⟩ = some (.string (nth l k).2) := by
  obtain ⟨b, off, hx, hc⟩ := h.at szBd hk
  exact ⟨b, off, hx, by have := hc 0 (by decide); simpa [encBd] using this, by have := hc 1 (by decide); simpa [encBd, Nat.add_assoc] using this⟩

/-- Length and sizes of a list of bindings together, up to place k. -/
def bulk2To (l : List (ByteArray × ByteArray)) (k : Nat) : Nat := l.length + ((l.take k).map (fun x => x.1.size + x.2.size)).sum
def bulk2 (l : List (ByteArray × ByteArray)) : Nat := bulk2To l l.length
def szL2 (l : List (ByteArray × ByteArray)) (left : Int) : Int := if (bulk2 l : Int) ≤ left then left - bulk2 l else -1
/-! ### comparing -/
def eqBd (l m : List (ByteArray × ByteArray)) : Bool := decide (l = m)
theorem tl_dec (a b : ByteArray) : (!(a.toList == b.toList)) = !(decide (a = b)) := by
  by_cases h : a = b
  · rw [tl_eq h]; simp [h]
  · rw [tl_ne h]; simp [h]

/-! ### marking -/
/-- The elements that a marking writes: from k on, two numbers an element. -/
def mark2 (k : Int) : Nat → List (ByteArray × ByteArray)
  | 0 => []
  | n + 1 => mark2 k n ++ [(markT (k + 2 * n), markT (k + 2 * n + 1))]
def marked2 (k : Int) (l : List (ByteArray × ByteArray)) (j : Nat) : List (ByteArray × ByteArray) := mark2 k j ++ l.drop j
end Go.Proofs.YtkojeajjappchaaGreat.Row
