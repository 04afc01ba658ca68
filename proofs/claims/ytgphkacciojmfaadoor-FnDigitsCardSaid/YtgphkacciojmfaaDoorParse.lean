/- Contracts of ParseInt, the reference model's and the program's: the number from 0 to 10^12 whose numeral the text is, and true; otherwise 0 and false. What was in memory stays as it was. -/
import Derived.Test.YtgphkacciojmfaaDoorText
import Derived.Test.YtgphkacciojmfaaDoorNum
import Derived.Lib.SmallJoins
import Derived.Lib.AtoiAllCases
namespace Go.Proofs.YtgphkacciojmfaaDoor.Text
open Go.ChangeShapes Go.WideShapes Go.ChangeAt Go.RowKit Go.Instr
set_option linter.unusedVariables false

theorem decFrom_lt : ∀ (l : List UInt8) (acc m : Nat), Lib.decFrom acc l = some m → m < (acc + 1) * 10 ^ l.length
  | [], acc, m, h => by simp [Lib.decFrom] at h; subst h; simp
  | b :: r, acc, m, h => by
    simp only [Lib.decFrom] at h
    cases hb : Lib.digitVal b with
    | none => simp [hb] at h
    | some d =>
      simp only [hb] at h
      have h1 := decFrom_lt r _ m h
      have h2 : d ≤ 9 := by
        unfold Lib.digitVal at hb
        split at hb
        · simp at hb; omega
        · simp at hb
      have h3 : (acc * 10 + d + 1) * 10 ^ r.length ≤ (acc + 1) * 10 * 10 ^ r.length := Nat.mul_le_mul_right _ (by omega)
      have h4 : (acc + 1) * 10 ^ (b :: r).length = (acc + 1) * 10 * 10 ^ r.length := by
        rw [List.length_cons, Nat.pow_succ, Nat.mul_assoc, Nat.mul_comm 10]
      omega

theorem dec_small {l : List UInt8} {m : Nat} (h : Lib.decFrom 0 l = some m) (hl : l.length ≤ 13) : m ≤ 10000000000000 := by
  have h1 := decFrom_lt l 0 m h
  have h2 : 10 ^ l.length ≤ 10 ^ 13 := Nat.pow_le_pow_right (by omega) hl
  have h3 : (10 : Nat) ^ 13 = 10000000000000 := by decide
  omega

theorem take_snoc (s : ByteArray) (k : Nat) (h : k < s.size) : s.data.toList.take (k + 1) = s.data.toList.take k ++ [s[k]] := by
  rw [List.take_succ_eq_append_getElem (by simpa using h)]; rfl

theorem dec_step {s : ByteArray} {k m : Nat} (h : k < s.size) (hm : Lib.decFrom 0 (s.data.toList.take k) = some m) (h1 : 48 ≤ (s[k].toNat : Int)) (h2 : (s[k].toNat : Int) ≤ 57) :
    Lib.decFrom 0 (s.data.toList.take (k + 1)) = some (10 * m + (s[k].toNat - 48)) := by
  rw [take_snoc s k h, Dec.decFrom_append, hm]
  have : Lib.digitVal s[k] = some (s[k].toNat - 48) := by
    unfold Lib.digitVal; rw [if_pos (by omega)]
  simp [this]; omega

theorem mem_at {s : ByteArray} {k : Nat} (h : k < s.size) : s[k] ∈ s.data.toList := by
  have : s[k] = s.data[k]'h := rfl
  rw [this]; simp

theorem hsz13 (s : ByteArray) : s.data.size = s.size := rfl
theorem str_ne {l : List UInt8} {s : ByteArray} (h : ¬ l = s.data.toList) : ((str l).toList == s.toList) = false := by
  rw [ByteArray.toList_eq, ByteArray.toList_eq]
  simpa [str] using h

set_option maxHeartbeats 1000000 in
theorem specParse_yes (s : ByteArray) (v : Int) (w : World) (h : Dec.IsNum v s.data.toList) :
    Calls Tryd.prog 11 #[.string s] w fun e w' => e = .returned (.tuple #[.int .i64 v, .bool true]) ∧ Below w.heap.size w w' := by
  have hlen := h.len
  have hsz : s.data.toList.length = s.size := Array.length_toList
  rw [hsz] at hlen
  obtain ⟨l1, l2⟩ := hlen
  have H := Lib.hid h; clear h hsz
  go_enter Tryd.func11, Tryd.ntmps11
  go_wp2_with fail
  refine (Num.specIn_true (by omega) (by omega) _).mono ?_
  rintro e w' ⟨rfl, rfl⟩
  go_wp2_with fail
  go_loop [4, 5] (fun nv iv => ∃ k m : Nat, k ≤ s.size ∧ m ≤ 10000000000000 ∧ iv = .int .i64 k ∧ nv = .int .i64 m ∧ Hid (Lib.decFrom 0 (s.data.toList.take k) = some m)) (fun _ iv => s.size - (intOf iv).toNat)
  case atStart => exact ⟨0, 0, by omega, by omega, rfl, rfl, Lib.hid (by simp [Lib.decFrom])⟩
  case round =>
    obtain ⟨k, m, hk, hm, rfl, rfl, hd⟩ := hrel
    by_cases hlt : k < s.size
    · have hdig := H.out.digit _ (mem_at hlt)
      have d1 : 48 ≤ (s[k].toNat : Int) := by omega
      have d2 : (s[k].toNat : Int) ≤ 57 := by omega
      clear hdig
      go_wp2_with fail
      refine (Num.specIn_true (by omega) (by omega) _).mono ?_
      rintro e w' ⟨rfl, rfl⟩
      have hds := dec_step hlt hd.out d1 d2
      have hdm := dec_small hds (by simp; omega)
      have HD := Lib.hid hds; clear hds
      go_wp2_with fail
      go_round
      case rel => exact ⟨k + 1, 10 * m + (s[k].toNat - 48), by omega, hdm, by go_num, by congr 1; omega, HD⟩
      case measure => simp [intOf]; omega
    · obtain rfl : k = s.size := by omega
      have hv : v = (m : Int) := by
        have e1 := H.out.dec
        have e2 := hd.out
        rw [List.take_of_length_le (by simp)] at e2
        rw [e1] at e2
        have := H.out.1
        have := Option.some.inj e2
        omega
      subst hv
      have hle : decide ((1000000000000 : Int) < (m : Int)) = false := by
        have := H.out.2.1
        simpa using this
      have hs := specFormat (m : Int) w (wf_of (by omega) (by omega))
      have hstr : str (Lib.itoa (m : Int)) = s := by rw [H.out.2.2]; rfl
      rw [hstr] at hs
      have HS := Lib.hid hs; clear hs hstr hlt
      go_wp2_with fail
      refine HS.out.mono ?_
      rintro e w' ⟨rfl, hb⟩
      go_wp2
      go_ret2
      exact ⟨rfl, hb⟩

set_option maxHeartbeats 1000000 in
theorem specParse_no (s : ByteArray) (w : World) (h : ∀ v, ¬ Dec.IsNum v s.data.toList) :
    Calls Tryd.prog 11 #[.string s] w fun e w' => e = .returned (.tuple #[.int .i64 0, .bool false]) ∧ Below w.heap.size w w' := by
  have H := Lib.hid h; clear h
  by_cases hlen : (1 : Int) ≤ (s.size : Int) ∧ (s.size : Int) ≤ 13
  · obtain ⟨l1, l2⟩ := hlen
    go_enter Tryd.func11, Tryd.ntmps11
    go_wp2_with fail
    refine (Num.specIn_true l1 l2 _).mono ?_
    rintro e w' ⟨rfl, rfl⟩
    go_wp2_with fail
    go_loop [4, 5] (fun nv iv => ∃ k m : Nat, k ≤ s.size ∧ m ≤ 10000000000000 ∧ iv = .int .i64 k ∧ nv = .int .i64 m ∧ Hid (Lib.decFrom 0 (s.data.toList.take k) = some m)) (fun _ iv => s.size - (intOf iv).toNat)
    case atStart => exact ⟨0, 0, by omega, by omega, rfl, rfl, Lib.hid (by simp [Lib.decFrom])⟩
    case round =>
      obtain ⟨k, m, hk, hm, rfl, rfl, hd⟩ := hrel
      by_cases hlt : k < s.size
      · by_cases hdig : 48 ≤ (s[k].toNat : Int) ∧ (s[k].toNat : Int) ≤ 57
        · obtain ⟨d1, d2⟩ := hdig
          have hds := dec_step hlt hd.out d1 d2
          have hdm := dec_small hds (by simp; omega)
          have HD := Lib.hid hds; clear hds
          go_wp2_with fail
          refine (Num.specIn_true d1 d2 _).mono ?_
          rintro e w' ⟨rfl, rfl⟩
          go_wp2_with fail
          go_round
          case rel => exact ⟨k + 1, 10 * m + (s[k].toNat - 48), by omega, hdm, by go_num, by congr 1; omega, HD⟩
          case measure => simp [intOf]; omega
        · have hc := Num.specIn_false hdig w
          have HC := Lib.hid hc; clear hc hdig
          have u0 : 0 ≤ (s[k].toNat : Int) := by omega
          have u1 : (s[k].toNat : Int) ≤ 255 := by have := s[k].toNat_lt; omega
          go_wp2_with fail
          refine HC.out.mono ?_
          rintro e w' ⟨rfl, rfl⟩
          go_wp2_with fail
          go_ret2
          exact ⟨rfl, Below.refl _ _⟩
      · obtain rfl : k = s.size := by omega
        have hd2 := hd.out
        rw [List.take_of_length_le (by simp)] at hd2
        have HD2 := Lib.hid hd2; clear hd2 hd
        by_cases hle : (m : Int) ≤ 1000000000000
        · have hle1 : decide ((1000000000000 : Int) < (m : Int)) = false := by simpa using hle
          have hs := specFormat (m : Int) w (wf_of (by omega) (by omega))
          have hne := str_ne (fun e => H.out (m : Int) ⟨by omega, hle, e⟩)
          have HS := Lib.hid hs; clear hs hlt
          go_wp2_with fail
          refine HS.out.mono ?_
          rintro e w' ⟨rfl, hb⟩
          go_wp2
          go_ret2
          exact ⟨rfl, hb⟩
        · have hgt : decide ((1000000000000 : Int) < (m : Int)) = true := by simpa using hle
          clear hlt
          go_wp2
          go_ret2
          exact ⟨rfl, Below.refl _ _⟩
  · have hc := Num.specIn_false hlen w
    have HC := Lib.hid hc; clear hc hlen
    go_enter Tryd.func11, Tryd.ntmps11
    go_wp2_with fail
    refine HC.out.mono ?_
    rintro e w' ⟨rfl, rfl⟩
    go_wp2_with fail
    go_ret2
    exact ⟨rfl, Below.refl _ _⟩

theorem implParse_yes (s : ByteArray) (v : Int) (w : World) (h : Dec.IsNum v s.data.toList) (ht : Tab w) :
    Calls Tryd.prog 9 #[.string s] w fun e w' => e = .returned (.tuple #[.int .i64 v, .bool true]) ∧ Below w.heap.size w w' := by
  have hlen := h.len
  have hsz : s.data.toList.length = s.size := Array.length_toList
  have hc := Tryd.strconv_Atoi_ok s (by omega) v h.atoi w
  have hstr : str (Lib.itoa v) = s := by rw [h.2.2]; rfl
  have b0 := h.1
  have b1 := h.2.1
  have hf := fun w' hb => implFormat v w' (wf_of (by omega) (by omega)) (ht.on hb)
  rw [hstr] at hf
  have HC := Lib.hid hc; have HF := Lib.hid hf; clear hc hf h hlen hsz hstr ht
  go_enter Tryd.func9, Tryd.ntmps9
  go_wp2_with fail
  refine HC.out.mono ?_
  rintro e w' ⟨rfl, hw⟩
  have hb : Below w.heap.size w w' := by
    rcases hw with rfl | ⟨t, rfl⟩
    · exact Below.refl _ _
    · exact Joins.below_bytesWorld _ _ _ _ (Nat.le_refl _)
  have HB := Lib.hid hb; clear hb hw
  go_wp2_with fail
  refine (Num.implIn_true b0 b1 _).mono ?_
  rintro e w'' ⟨rfl, rfl⟩
  go_wp2_with fail
  refine (HF.out _ HB.out).mono ?_
  rintro e w'' ⟨rfl, hb2⟩
  go_wp2
  go_ret2
  exact ⟨rfl, HB.out.trans (hb2.mono HB.out.size)⟩

theorem implParse_no (s : ByteArray) (w : World) (hl : s.size ≤ 281474976710656) (h : ∀ v, ¬ Dec.IsNum v s.data.toList) (ht : Tab w) (he : Errs w) :
    Calls Tryd.prog 9 #[.string s] w fun e w' => e = .returned (.tuple #[.int .i64 0, .bool false]) ∧ Below w.heap.size w w' := by
  obtain ⟨⟨t1, p1, e1⟩, ⟨t2, p2, e2⟩⟩ := he
  rcases ha : Lib.atoiAll s.data.toList with v | _ | _
  · obtain ⟨b1, b2⟩ := Lib.atoiAll_bounds ha
    have hc := Tryd.strconv_Atoi_ok s (by omega) v ha w
    have hf := fun w' hb => implFormat v w' (wf_of b1 b2) (ht.on hb)
    have HC := Lib.hid hc; have HF := Lib.hid hf; clear hc hf ha e1 e2 ht hl
    by_cases hr : 0 ≤ v ∧ v ≤ 1000000000000
    · have hne := str_ne (fun e => h v ⟨hr.1, hr.2, e⟩)
      obtain ⟨r0, r1⟩ := hr
      have HNE := Lib.hid hne; clear hne h
      go_enter Tryd.func9, Tryd.ntmps9
      go_wp2_with fail
      refine HC.out.mono ?_
      rintro e w' ⟨rfl, hw⟩
      have hb : Below w.heap.size w w' := by
        rcases hw with rfl | ⟨t, rfl⟩
        · exact Below.refl _ _
        · exact Joins.below_bytesWorld _ _ _ _ (Nat.le_refl _)
      have HB := Lib.hid hb; clear hb hw
      go_wp2_with fail
      refine (Num.implIn_true r0 r1 _).mono ?_
      rintro e w'' ⟨rfl, rfl⟩
      go_wp2_with fail
      refine (HF.out _ HB.out).mono ?_
      rintro e w'' ⟨rfl, hb2⟩
      have hne := HNE.out
      go_wp2
      go_ret2
      exact ⟨rfl, HB.out.trans (hb2.mono HB.out.size)⟩
    · have hi := fun w' => Num.implIn_false hr w'
      have HI := Lib.hid hi; clear hi hr h
      go_enter Tryd.func9, Tryd.ntmps9
      go_wp2_with fail
      refine HC.out.mono ?_
      rintro e w' ⟨rfl, hw⟩
      have hb : Below w.heap.size w w' := by
        rcases hw with rfl | ⟨t, rfl⟩
        · exact Below.refl _ _
        · exact Joins.below_bytesWorld _ _ _ _ (Nat.le_refl _)
      have HB := Lib.hid hb; clear hb hw
      go_wp2_with fail
      refine (HI.out _).mono ?_
      rintro e w'' ⟨rfl, rfl⟩
      go_wp2
      go_ret2
      exact ⟨rfl, HB.out⟩
  · have hc := Any.strconv_Atoi_syntax_var Tryd.laysC172 s hl ha t1 p1 w e1
    have HC := Lib.hid hc; clear hc ha e1 e2 h ht hl
    go_enter Tryd.func9, Tryd.ntmps9
    go_wp2_with fail
    refine HC.out.mono ?_
    rintro e w' ⟨N, rfl, hN, hcell, hb⟩
    have HB := Lib.hid hb; clear hb hcell hN
    go_wp2
    go_ret2
    exact ⟨rfl, HB.out⟩
  · have hc := Tryd.strconv_Atoi_range_var s hl ha t2 p2 w e2
    have HC := Lib.hid hc; clear hc ha e1 e2 h ht hl
    go_enter Tryd.func9, Tryd.ntmps9
    go_wp2_with fail
    refine HC.out.mono ?_
    rintro e w' ⟨N, rfl, hN, hcell, hb⟩
    have HB := Lib.hid hb; clear hb hcell hN
    go_wp2
    go_ret2
    exact ⟨rfl, HB.out⟩

/-- ParseInt's answer as a function of the text. -/
noncomputable def parseV (l : List UInt8) : Int × Bool := by
  classical
  exact if h : ∃ v, Dec.IsNum v l then (h.choose, true) else (0, false)
theorem parseV_yes {l : List UInt8} {v : Int} (h : Dec.IsNum v l) : parseV l = (v, true) := by
  have he : ∃ v, Dec.IsNum v l := ⟨v, h⟩
  unfold parseV
  rw [dif_pos he]
  rw [he.choose_spec.uniq h]
theorem parseV_no {l : List UInt8} (h : ∀ v, ¬ Dec.IsNum v l) : parseV l = (0, false) := by
  unfold parseV
  rw [dif_neg (fun ⟨v, hv⟩ => h v hv)]
theorem parseV_itoa (n : Int) : parseV (Lib.itoa n) = if 0 ≤ n ∧ n ≤ 1000000000000 then (n, true) else (0, false) := by
  split
  · rename_i h; exact parseV_yes ⟨h.1, h.2, rfl⟩
  · rename_i h
    refine parseV_no fun v hv => h ?_
    have := itoa_same hv.2.2
    subst this; exact ⟨hv.1, hv.2.1⟩
where itoa_same {a b : Int} (h : Lib.itoa a = Lib.itoa b) : a = b := Dec.itoa_inj h
theorem parseV_back {l : List UInt8} (h : (parseV l).2 = true) : 0 ≤ (parseV l).1 ∧ (parseV l).1 ≤ 1000000000000 ∧ Lib.itoa (parseV l).1 = l := by
  by_cases hx : ∃ v, Dec.IsNum v l
  · obtain ⟨v, hv⟩ := hx
    rw [parseV_yes hv]; exact hv
  · rw [parseV_no (fun v hv => hx ⟨v, hv⟩)] at h; cases h

theorem specParse (s : ByteArray) (w : World) :
    Calls Tryd.prog 11 #[.string s] w fun e w' => e = .returned (.tuple #[.int .i64 (parseV s.data.toList).1, .bool (parseV s.data.toList).2]) ∧ Below w.heap.size w w' := by
  by_cases hx : ∃ v, Dec.IsNum v s.data.toList
  · obtain ⟨v, hv⟩ := hx
    rw [parseV_yes hv]; exact specParse_yes s v w hv
  · rw [parseV_no (fun v hv => hx ⟨v, hv⟩)]; exact specParse_no s w (fun v hv => hx ⟨v, hv⟩)
theorem implParse (s : ByteArray) (w : World) (hl : s.size ≤ 281474976710656) (ht : Tab w) (he : Errs w) :
    Calls Tryd.prog 9 #[.string s] w fun e w' => e = .returned (.tuple #[.int .i64 (parseV s.data.toList).1, .bool (parseV s.data.toList).2]) ∧ Below w.heap.size w w' := by
  by_cases hx : ∃ v, Dec.IsNum v s.data.toList
  · obtain ⟨v, hv⟩ := hx
    rw [parseV_yes hv]; exact implParse_yes s v w hv ht
  · rw [parseV_no (fun v hv => hx ⟨v, hv⟩)]; exact implParse_no s w hl (fun v hv => hx ⟨v, hv⟩) ht he
end Go.Proofs.YtgphkacciojmfaaDoor.Text
