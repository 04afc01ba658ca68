/- Contracts and mathematics, joined: Pref, Part, Valid, AppP, Want, Gives, Conv, VarMath, Var, ReadV, ReadVI, Bytes, Ints, WantS, WantV, Clone, EqN, KWant, ReadB, WantE, WantP, PendMath, PendK, RowK, PendC0, PendC1, PendC2, PendE2, PendR0, PendF, PendS, MarkK, PendM, PendI, PendG, PendL0, PendD, PendN0, ByK, MarkF, RequesterSM. No conditions but those that each states. -/
import Derived.Test.YtjphnlkdbhcblaaB1
import Derived.Laws.RangeAny
import Derived.LoopTactic
import Derived.Lib.ConvBytes
import Derived.Laws.BitsLemmas
import Derived.Laws.Bits128
import Derived.Test.YtjphnlkdbhcblaaRows
import Derived.Laws.ShiftsVarLaws
import Derived.Laws.BytesArg
import Derived.Deep.Cut
import Derived.WalkKit
import Derived.Deep.RegionHeld3
import Derived.SizedLaws
import Derived.ChangeSlices
import Derived.ChangeSame
import Derived.ChangeArms
import Derived.Deep.Strs
import Derived.Lib.SmallJoins
import Derived.Deep.RegionLaw
import Derived.RangeFuncNested
import Derived.RangeFuncBound
import Derived.RangeFuncCalls
import Derived.RangeFuncLeaves
import Derived.RangeFuncBox
import Derived.Shelf.Abstract
import Derived.Shelf.RegionOpen
import Derived.OwnWalkIn
import Derived.TacticsInMore
import Derived.LoopNIn
import Derived.LoopIn
import Derived.Lib.AppendZerosOnto
/- Contracts of EqualNames and HasPrefix, the program's and the reference model's. No conditions but that lengths fit. -/
namespace Go.Proofs.Ytjphnlkdbhcblaa.Row
open Go.ChangeShapes Go.WideShapes Go.ChangeAt Go.RowKit Go.Instr
set_option linter.unusedVariables false
set_option maxRecDepth 100000
theorem less_irrefl : ∀ l : List UInt8, Op.bytesLess l l = false
  | [] => rfl
  | a :: x => by
    rw [Op.bytesLess, less_irrefl x]
    have : decide (a < a) = false := by simp
    simp
theorem cmpS_zero {a b : ByteArray} : cmpS a b = 0 ↔ a = b := by
  constructor
  · intro h
    unfold cmpS at h
    split at h
    · omega
    · split at h
      · rename_i _ h2; exact toList_inj h2
      · omega
  · rintro rfl
    unfold cmpS
    rw [less_irrefl]; simp
theorem cmpL_zero : ∀ {l m : List ByteArray}, cmpL l m = 0 ↔ l = m
  | [], [] => by simp [cmpL]
  | [], _ :: _ => by simp [cmpL]
  | _ :: _, [] => by simp [cmpL]
  | a :: x, b :: y => by
    unfold cmpL
    by_cases h : cmpS a b = 0
    · rw [if_pos h, cmpL_zero, cmpS_zero.1 h]; simp
    · rw [if_neg h]
      have : a ≠ b := fun e => h (cmpS_zero.2 e)
      constructor
      · intro e; exact absurd e h
      · intro e; cases e; exact absurd rfl this
theorem eqB_cmp (l m : List ByteArray) : eqB l m = (cmpL l m == 0) := by
  unfold eqB
  by_cases h : l = m
  · have := cmpL_zero.2 h
    simp [h, cmpL_zero.2]
  · have h2 : cmpL l m ≠ 0 := fun e => h (cmpL_zero.1 e)
    simp [h, h2]
set_option maxHeartbeats 1000000 in
theorem implEqualNames (v u : Value) (l m : List ByteArray) (w : World) (h : Holds Value.string w v l) (g : Holds Value.string w u m) (hl : l.length ≤ 140737488351232) (hm : m.length ≤ 140737488351232) :
    Calls Try.prog 71 #[.agg #[v], .agg #[u]] w fun e w' => e = .returned (.bool (eqB l m)) ∧ Below w.heap.size w w' := by
  obtain ⟨x, cx, rfl, hcx, hh⟩ := h.shape
  obtain ⟨y, cy, rfl, hcy, hg⟩ := g.shape
  have HH := Lib.hid hh; have HG := Lib.hid hg
  clear hh h hg g
  go_enter Try.func71, Try.ntmps71
  go_wp2_with fail
  have HB := Lib.hid (((Below.refl w.heap.size w).alloc (Nat.le_refl _) (.cells #[.slice x l.length cx] 27)).alloc (Nat.le_trans (Nat.le_refl _) (by simp)) (.cells #[.slice y m.length cy] 27))
  have HA := Lib.hid (HH.out.on HB.out); have HC := Lib.hid (HG.out.on HB.out)
  refine (libEqS _ _ l m _ HA.out HC.out hl hm).mono ?_
  rintro e w' ⟨rfl, hb⟩
  have HB2 := Lib.hid (HB.out.trans (hb.mono (by simp; omega))); clear hb
  go_wp2
  go_ret
  exact ⟨rfl, HB2.out⟩
set_option maxHeartbeats 1000000 in
theorem specEqualNames (v u : Value) (l m : List ByteArray) (w : World) (h : Holds Value.string w v l) (g : Holds Value.string w u m) (hl : l.length ≤ 140737488351232) (hm : m.length ≤ 140737488351232) :
    Calls Try.prog 83 #[.agg #[v], .agg #[u]] w fun e w' => e = .returned (.bool (eqB l m)) ∧ Below w.heap.size w w' := by
  obtain ⟨x, cx, rfl, hcx, hh⟩ := h.shape
  obtain ⟨y, cy, rfl, hcy, hg⟩ := g.shape
  have HH := Lib.hid hh; have HG := Lib.hid hg
  have HE := Lib.hid (eqB_cmp l m)
  clear hh h hg g
  go_enter Try.func83, Try.ntmps83
  go_wp2_with fail
  have HB := Lib.hid (((Below.refl w.heap.size w).alloc (Nat.le_refl _) (.cells #[.slice x l.length cx] 27)).alloc (Nat.le_trans (Nat.le_refl _) (by simp)) (.cells #[.slice y m.length cy] 27))
  have HA := Lib.hid (HH.out.on HB.out); have HC := Lib.hid (HG.out.on HB.out)
  refine (specCompareNames _ _ l m _ HA.out HC.out hl hm).mono ?_
  rintro e w' ⟨rfl, hb⟩
  have HB2 := Lib.hid (HB.out.trans (hb.mono (by simp; omega))); clear hb
  go_wp2
  go_ret
  exact ⟨ret_bool HE.out.symm, HB2.out⟩
def hpB (l m : List ByteArray) : Bool := decide (m.length ≤ l.length ∧ l.take m.length = m)
end Go.Proofs.Ytjphnlkdbhcblaa.Row
/- Contracts of ValidPart and ValidName, the program's and the reference model's: a part is right where its size is 1 to 8 and each byte is a small letter, a digit or a minus; a name where each part is and there are at most 6. No conditions but that lengths fit. -/
namespace Go.Proofs.Ytjphnlkdbhcblaa.Row
open Go.ChangeShapes Go.WideShapes Go.ChangeAt Go.RowKit Go.Instr
set_option linter.unusedVariables false
set_option maxRecDepth 100000
def okR (r : Int) : Prop := (97 ≤ r ∧ r ≤ 122) ∨ (48 ≤ r ∧ r ≤ 57) ∨ r = 45
instance (r : Int) : Decidable (okR r) := by unfold okR; infer_instance
def okTo (s : ByteArray) (k : Nat) : Prop := ∀ j (h : j < s.size), j < k → okR ((s[j]'h).toNat : Int)
instance (s : ByteArray) (k : Nat) : Decidable (okTo s k) := by unfold okTo; infer_instance
def validP (s : ByteArray) : Bool := decide (1 ≤ s.size ∧ s.size ≤ 8 ∧ okTo s s.size)
theorem okTo_zero (s : ByteArray) : okTo s 0 := fun j h h2 => absurd h2 (by omega)
theorem okTo_succ {s : ByteArray} {k : Nat} (h : okTo s k) (hk : k < s.size) (hc : okR ((s[k]'hk).toNat : Int)) : okTo s (k + 1) := fun j h1 h2 => by
  by_cases e : j = k
  · subst e; exact hc
  · exact h j h1 (by omega)
theorem validP_true {s : ByteArray} (h1 : 1 ≤ s.size) (h2 : s.size ≤ 8) (h : okTo s s.size) : validP s = true := by simp [validP, h1, h2, h]
theorem validP_size {s : ByteArray} (h : ¬ (1 ≤ s.size ∧ s.size ≤ 8)) : validP s = false := by
  unfold validP; exact decide_eq_false (fun e => h ⟨e.1, e.2.1⟩)
theorem validP_byte {s : ByteArray} {k : Nat} (hk : k < s.size) (hc : ¬ okR ((s[k]'hk).toNat : Int)) : validP s = false := by
  unfold validP; exact decide_eq_false (fun e => hc (e.2.2 k hk hk))
theorem rune_ok {s : ByteArray} {pos : Nat} (h : pos < s.size) (hr : okR ((Utf8.decode s pos).1 : Int)) : okR ((s[pos]'h).toNat : Int) ∧ (Utf8.decode s pos).2 = 1 := by
  by_cases ha : (s[pos]'h).toNat < 128
  · rw [decode_ascii s pos h ha] at hr ⊢
    exact ⟨hr, rfl⟩
  · have := (decode_high s pos h (by omega)).1
    unfold okR at hr; omega
theorem rune_not {s : ByteArray} {pos : Nat} (h : pos < s.size) (hr : ¬ okR ((Utf8.decode s pos).1 : Int)) : ¬ okR ((s[pos]'h).toNat : Int) := by
  by_cases ha : (s[pos]'h).toNat < 128
  · rwa [decode_ascii s pos h ha] at hr
  · unfold okR; omega
set_option maxHeartbeats 1000000 in
theorem isPartRune (r : Int) (w : World) : Calls Try.prog 143 #[.int .i32 r] w fun e w' => e = .returned (.bool (decide (okR r))) ∧ w = w' := by
  have HT := fun (h : okR r) => (decide_eq_true h).symm
  have HF := fun (h : ¬ okR r) => (decide_eq_false h).symm
  have HT := Lib.hid HT; have HF := Lib.hid HF
  by_cases h1 : 97 ≤ r ∧ r ≤ 122
  · obtain ⟨h1a, h1b⟩ := h1
    go_enter Try.func143, Try.ntmps143
    go_wp2
    go_ret
    exact ⟨ret_bool (HT.out (by unfold okR; omega)), rfl⟩
  · by_cases h2 : 48 ≤ r ∧ r ≤ 57
    · obtain ⟨h2a, h2b⟩ := h2
      have h1a : ¬ 97 ≤ r := by omega
      go_enter Try.func143, Try.ntmps143
      go_wp2
      go_ret
      exact ⟨ret_bool (HT.out (by unfold okR; omega)), rfl⟩
    · by_cases h3 : r = 45
      · subst h3
        go_enter Try.func143, Try.ntmps143
        go_wp2
        go_ret
        exact ⟨ret_bool (HT.out (by unfold okR; omega)), rfl⟩
      · have HF2 := Lib.hid (HF.out (by unfold okR; omega))
        have h3b : (r == 45) = false := by simpa using h3
        clear h3 HF HT
        by_cases h1a : 97 ≤ r
        · have h1b : ¬ r ≤ 122 := by omega
          have h2b : ¬ r ≤ 57 := by omega
          clear h1 h2
          go_enter Try.func143, Try.ntmps143
          go_wp2
          go_ret
          exact ⟨ret_bool HF2.out, rfl⟩
        · clear h1
          by_cases h2a : 48 ≤ r
          · have h2b : ¬ r ≤ 57 := by omega
            clear h2
            go_enter Try.func143, Try.ntmps143
            go_wp2
            go_ret
            exact ⟨ret_bool HF2.out, rfl⟩
          · clear h2
            go_enter Try.func143, Try.ntmps143
            go_wp2
            go_ret
            exact ⟨ret_bool HF2.out, rfl⟩
set_option maxHeartbeats 1000000 in
theorem implValidPart (s : ByteArray) (w : World) (hl : s.size ≤ 140737488351232) :
    Calls Try.prog 138 #[.string s] w fun e w' => e = .returned (.bool (validP s)) ∧ Below w.heap.size w w' := by
  go_enter Try.func138, Try.ntmps138
  go_wp2
  go_loopw [] (fun w' => ∃ pos : Nat, pos ≤ s.size ∧ w' = w.iter s pos ∧ Hid (okTo s pos)) (fun w' => s.size - w'.iterPos w.heap.size)
  case atStart => exact ⟨0, by omega, rfl, Lib.hid (okTo_zero s)⟩
  case round =>
    obtain ⟨pos, hpl, rfl, ho⟩ := hrel
    by_cases hp : pos < s.size
    · have hnx : ∀ ty, (Instr.next (.pointer (some ⟨w.heap.size, 0, none⟩)) true ty).run Try.prog (w.iter s pos) = _ := fun ty => run_next_any w s pos ty hp
      by_cases hr : okR ((Utf8.decode s pos).1 : Int)
      · obtain ⟨h1, h2⟩ := rune_ok hp hr
        have HO := Lib.hid (okTo_succ ho.out hp h1)
        have HR := Lib.hid (decide_eq_true hr)
        rw [h2] at hnx
        clear hr h1 h2
        go_wp2_with fail
        refine (isPartRune _ _).mono ?_
        rintro e w2 ⟨rfl, rfl⟩
        rw [HR.out]
        go_wp2
        go_roundw
        case rel => exact ⟨pos + 1, by omega, rfl, HO⟩
        case measure => simp; omega
      · have HV := Lib.hid (validP_byte hp (rune_not hp hr))
        have HR := Lib.hid (decide_eq_false hr)
        clear hr
        go_wp2_with fail
        refine (isPartRune _ _).mono ?_
        rintro e w2 ⟨rfl, rfl⟩
        rw [HR.out]
        go_wp2
        go_ret
        exact ⟨ret_bool HV.out.symm, (Below.refl _ _).alloc (Nat.le_refl _) _⟩
    · obtain rfl : pos = s.size := by omega
      have hnx : ∀ ty, (Instr.next (.pointer (some ⟨w.heap.size, 0, none⟩)) true ty).run Try.prog (w.iter s s.size) = _ := fun ty => run_next_end w s s.size ty hp
      go_wp2_with fail
      refine (Num.implInRange _ _ _ _).mono ?_
      rintro e w2 ⟨rfl, rfl⟩
      go_wp2
      go_ret
      refine ⟨ret_bool ?_, (Below.refl _ _).alloc (Nat.le_refl _) _⟩
      have := ho.out
      simp only [Num.inB, validP, this, and_true]
      congr 1
      apply propext
      omega
set_option maxHeartbeats 1000000 in
theorem specValidPart (s : ByteArray) (w : World) (hl : s.size ≤ 140737488351232) :
    Calls Try.prog 119 #[.string s] w fun e w' => e = .returned (.bool (validP s)) ∧ w = w' := by
  by_cases hsz : 1 ≤ s.size ∧ s.size ≤ 8
  · obtain ⟨hs1, hs8⟩ := hsz
    go_enter Try.func119, Try.ntmps119
    go_wp2_with fail
    refine (Num.specIn_true (by omega) (by omega) _).mono ?_
    rintro e w2 ⟨rfl, rfl⟩
    go_wp2
    go_loop [3] (fun iv => ∃ k : Nat, k ≤ s.size ∧ iv = .int .i64 k ∧ Hid (okTo s k)) (fun iv => s.size - (intOf iv).toNat)
    case atStart => exact ⟨0, by omega, rfl, Lib.hid (okTo_zero s)⟩
    case round =>
      obtain ⟨k, hk, rfl, ho⟩ := hrel
      by_cases hlt : k < s.size
      · have hb := (s[k]'hlt).toNat_lt
        have hb0 : (0 : Int) ≤ ((s[k]'hlt).toNat : Int) := by omega
        have hb1 : ((s[k]'hlt).toNat : Int) ≤ 255 := by omega
        have HOK := Lib.hid (fun hc => okTo_succ ho.out hlt hc)
        have HNO := Lib.hid (fun hc => validP_byte hlt hc)
        clear hb
        go_wp2_with fail
        by_cases h1 : 97 ≤ ((s[k]'hlt).toNat : Int) ∧ ((s[k]'hlt).toNat : Int) ≤ 122
        · refine (Num.specIn_true h1.1 h1.2 _).mono ?_
          rintro e w2 ⟨rfl, rfl⟩
          have HO2 := Lib.hid (HOK.out (by unfold okR; omega))
          clear HOK HNO h1
          go_wp2
          go_round
          case rel => exact ⟨k + 1, by omega, by go_num, HO2⟩
          case measure => simp [intOf]; omega
        · refine (Num.specIn_false h1 _).mono ?_
          rintro e w2 ⟨rfl, rfl⟩
          go_wp2_with fail
          by_cases h2 : 48 ≤ ((s[k]'hlt).toNat : Int) ∧ ((s[k]'hlt).toNat : Int) ≤ 57
          · refine (Num.specIn_true h2.1 h2.2 _).mono ?_
            rintro e w2 ⟨rfl, rfl⟩
            have HO2 := Lib.hid (HOK.out (by unfold okR; omega))
            clear HOK HNO h1 h2
            go_wp2
            go_round
            case rel => exact ⟨k + 1, by omega, by go_num, HO2⟩
            case measure => simp [intOf]; omega
          · refine (Num.specIn_false h2 _).mono ?_
            rintro e w2 ⟨rfl, rfl⟩
            by_cases h3 : (s[k]'hlt).toNat = 45
            · have h3b : (((s[k]'hlt).toNat : Int) != 45) = false := by simp [h3]
              have HO2 := Lib.hid (HOK.out (by unfold okR; omega))
              clear HOK HNO h1 h2
              go_wp2
              go_round
              case rel => exact ⟨k + 1, by omega, by go_num, HO2⟩
              case measure => simp [intOf]; omega
            · have h3b : (((s[k]'hlt).toNat : Int) != 45) = true := by simp; omega
              have HV := Lib.hid (HNO.out (by unfold okR; omega))
              clear HOK HNO h1 h2 h3
              go_wp2
              go_ret
              exact ⟨ret_bool HV.out.symm, rfl⟩
      · obtain rfl : k = s.size := by omega
        have HV := Lib.hid (validP_true hs1 hs8 ho.out)
        go_wp2
        go_ret
        exact ⟨ret_bool HV.out.symm, rfl⟩
  · have HV := Lib.hid (validP_size hsz)
    go_enter Try.func119, Try.ntmps119
    go_wp2_with fail
    refine (Num.specIn_false (by omega) _).mono ?_
    rintro e w2 ⟨rfl, rfl⟩
    go_wp2
    go_ret
    exact ⟨ret_bool HV.out.symm, rfl⟩
end Go.Proofs.Ytjphnlkdbhcblaa.Row
/- Contracts of ValidName, the program's and the reference model's: a name is right where each part is and there are at most 6. No conditions but that lengths fit. -/
namespace Go.Proofs.Ytjphnlkdbhcblaa.Row
open Go.ChangeShapes Go.WideShapes Go.ChangeAt Go.RowKit Go.Instr
set_option linter.unusedVariables false
set_option maxRecDepth 100000
def validN (l : List ByteArray) : Bool := decide (l.length ≤ 6 ∧ ∀ x ∈ l, validP x = true)
def allV (l : List ByteArray) (k : Nat) : Prop := ∀ j, j < k → validP (nth l j) = true
theorem allV_zero (l : List ByteArray) : allV l 0 := fun j h => absurd h (by omega)
theorem allV_succ {l : List ByteArray} {k : Nat} (h : allV l k) (hc : validP (nth l k) = true) : allV l (k + 1) := fun j h1 => by
  by_cases e : j = k
  · subst e; exact hc
  · exact h j (by omega)
theorem validN_not {l : List ByteArray} {k : Nat} (hk : k < l.length) (hc : validP (nth l k) = false) : validN l = false := by
  unfold validN
  refine decide_eq_false (fun e => ?_)
  have := e.2 (nth l k) (by rw [nth_eq hk]; exact List.getElem_mem _)
  rw [hc] at this; cases this
theorem validN_all {l : List ByteArray} (h : allV l l.length) : validN l = decide (l.length ≤ 6) := by
  have : ∀ x ∈ l, validP x = true := by
    intro x hx
    obtain ⟨j, hj, rfl⟩ := List.getElem_of_mem hx
    have := h j hj
    rwa [nth_eq hj] at this
  unfold validN
  congr 1
  exact propext ⟨fun e => e.1, fun e => ⟨e, this⟩⟩
theorem size_nth {l : List ByteArray} {m : Nat} (h : bulk l ≤ m) {k : Nat} (hk : k < l.length) : (nth l k).size ≤ m := by
  have h1 := bulkTo_succ l hk
  have h2 := bulkTo_le l (k + 1)
  omega
set_option maxHeartbeats 1000000 in
theorem implValidName (v : Value) (l : List ByteArray) (w : World) (h : Holds Value.string w v l) (hl : bulk l ≤ 100000000) :
    Calls Try.prog 121 #[.agg #[v]] w fun e w' => e = .returned (.bool (validN l)) ∧ Below w.heap.size w w' := by
  obtain ⟨x, cap, rfl, hcap, hh⟩ := h.shape
  have hll := bigLen hl
  have HS := Lib.hid (fun k (hk : k < l.length) => size_nth hl hk)
  obtain ⟨n, hn⟩ : ∃ n, n = l.length := ⟨_, rfl⟩
  rw [← hn] at hcap hh hll ⊢
  have HN := Lib.hid hn
  have HH := Lib.hid hh
  have HB0 := Lib.hid ((Below.refl w.heap.size w).alloc (Nat.le_refl _) (.cells #[.slice x n cap] 27))
  have HC0 := Lib.hid (Ret.cell_at (w := w) (u := .slice x n cap) (t := 27) (n := w.heap.size) rfl)
  clear hn h hh hl
  go_enter Try.func121, Try.ntmps121
  go_wp2_with fail
  go_loopw [8] (fun i wr => ∃ k : Nat, k ≤ n ∧ i = .int .i64 k ∧ Hid (allV l k) ∧ Hid (Below w.heap.size w wr) ∧ Hid (wr.cell? ⟨w.heap.size, 0, none⟩ = some (.slice x n cap))) (fun i _ => n - (intOf i).toNat)
  case atStart => exact ⟨0, Nat.zero_le _, rfl, Lib.hid (allV_zero _), HB0, HC0⟩
  case round =>
    obtain ⟨k, hk, rfl, ha, hb, hc0⟩ := hrel
    by_cases hlt : k < n
    · have hlen := HN.out
      obtain ⟨b, off, rfl, hc⟩ := (HH.out.on hb.out).at (j := k) (by omega)
      have hsz := HS.out k (by omega)
      clear hlen
      go_wp2_with fail
      refine (implValidPart _ _ (by omega)).mono ?_
      rintro e w2 ⟨rfl, hb2⟩
      have HB2 := Lib.hid (hb.out.trans (hb2.mono hb.out.size))
      have HC2 := Lib.hid ((hb2.cell (cell_lt hc0.out)).trans hc0.out)
      clear hb2 hc
      by_cases hv : validP (nth l k) = true
      · rw [hv]
        have HA2 := Lib.hid (allV_succ ha.out hv)
        clear hv
        go_wp2
        go_roundw
        case rel => exact ⟨k + 1, by omega, by go_num, HA2, HB2, HC2⟩
        case measure => simp [intOf]; omega
      · have hv2 : validP (nth l k) = false := by simpa using hv
        rw [hv2]
        have HV := Lib.hid (validN_not (by have := HN.out; omega) hv2)
        clear hv hv2
        go_wp2
        go_ret
        exact ⟨ret_bool HV.out.symm, HB2.out⟩
    · obtain rfl : k = n := by omega
      have HV := Lib.hid (validN_all (HN.out ▸ ha.out))
      have hc0 := hc0.out
      clear hlt
      go_wp2
      go_ret
      refine ⟨ret_bool ?_, hb.out⟩
      rw [HV.out, ← HN.out]
      simp
      omega
set_option maxHeartbeats 1000000 in
theorem specValidName (v : Value) (l : List ByteArray) (w : World) (h : Holds Value.string w v l) (hl : bulk l ≤ 100000000) :
    Calls Try.prog 74 #[.agg #[v]] w fun e w' => e = .returned (.bool (validN l)) ∧ Below w.heap.size w w' := by
  obtain ⟨x, cap, rfl, hcap, hh⟩ := h.shape
  have hll := bigLen hl
  have HS := Lib.hid (fun k (hk : k < l.length) => size_nth hl hk)
  obtain ⟨n, hn⟩ : ∃ n, n = l.length := ⟨_, rfl⟩
  rw [← hn] at hcap hh hll ⊢
  have HN := Lib.hid hn
  have HH := Lib.hid hh
  have HB0 := Lib.hid ((Below.refl w.heap.size w).alloc (Nat.le_refl _) (.cells #[.slice x n cap] 27))
  have HC0 := Lib.hid (Ret.cell_at (w := w) (u := .slice x n cap) (t := 27) (n := w.heap.size) rfl)
  clear hn h hh hl
  go_enter Try.func74, Try.ntmps74
  go_wp2_with fail
  go_loopw [3] (fun i wr => ∃ k : Nat, k ≤ n ∧ i = .int .i64 k ∧ Hid (allV l k) ∧ Hid (Below w.heap.size w wr) ∧ Hid (wr.cell? ⟨w.heap.size, 0, none⟩ = some (.slice x n cap))) (fun i _ => n - (intOf i).toNat)
  case atStart => exact ⟨0, Nat.zero_le _, rfl, Lib.hid (allV_zero _), HB0, HC0⟩
  case round =>
    obtain ⟨k, hk, rfl, ha, hb, hc0⟩ := hrel
    by_cases hlt : k < n
    · have hlen := HN.out
      obtain ⟨b, off, rfl, hc⟩ := (HH.out.on hb.out).at (j := k) (by omega)
      have hsz := HS.out k (by omega)
      have hc1 := hc0.out
      clear hlen
      go_wp2_with fail
      refine (specValidPart _ _ (by omega)).mono ?_
      rintro e w2 ⟨rfl, rfl⟩
      clear hc
      by_cases hv : validP (nth l k) = true
      · rw [hv]
        have HA2 := Lib.hid (allV_succ ha.out hv)
        clear hv
        go_wp2
        go_roundw
        case rel => exact ⟨k + 1, by omega, by go_num, HA2, hb, hc0⟩
        case measure => simp [intOf]; omega
      · have hv2 : validP (nth l k) = false := by simpa using hv
        rw [hv2]
        have HV := Lib.hid (validN_not (by have := HN.out; omega) hv2)
        clear hv hv2
        go_wp2
        go_ret
        exact ⟨ret_bool HV.out.symm, hb.out⟩
    · obtain rfl : k = n := by omega
      have HV := Lib.hid (validN_all (HN.out ▸ ha.out))
      have hc0 := hc0.out
      clear hlt
      go_wp2
      go_ret
      refine ⟨ret_bool ?_, hb.out⟩
      rw [HV.out, ← HN.out]
      simp
      omega
end Go.Proofs.Ytjphnlkdbhcblaa.Row
/- Contracts of AppendPart, the program's and the reference model's. No conditions but that lengths fit. -/
namespace Go.Proofs.Ytjphnlkdbhcblaa.Row
open Go.ChangeShapes Go.WideShapes Go.ChangeAt Go.RowKit Go.Instr
set_option linter.unusedVariables false
set_option maxRecDepth 100000
def appN (l : List ByteArray) (s : ByteArray) : List ByteArray := if validN (l ++ [s]) = true then l ++ [s] else l
def vs2 (a b : Value) (j : Nat) : Value := if j = 0 then a else b
def ls2 (a b : List ByteArray) (j : Nat) : List ByteArray := if j = 0 then a else b
set_option maxHeartbeats 1000000 in
theorem l4Copy (v : Value) (l : List ByteArray) (w : World) (h : Holds Value.string w v l) (hl : l.length ≤ 10000000) :
    Calls Try.prog 67 #[.agg #[v]] w (GivesN w l) := by
  obtain ⟨x, n, cap, rfl, hn, hcap, hh⟩ := h.shapeN
  rw [← hn] at hl
  have HB0 := Lib.hid ((((Below.refl w.heap.size w).alloc (Nat.le_refl _) (.cells #[.slice x n cap] 27)).alloc (by simp) (.cells #[.slice none 0 0] 27)).alloc (by simp; omega) (.cells #[] 9))
  have HN := Lib.hid hn
  have HT2 := Lib.hid (hh.on HB0.out)
  have HO := Lib.hid (own_empty Value.string 9 ((w.alloc (.cells #[.slice x n cap] 27)).alloc (.cells #[.slice none 0 0] 27)))
  simp only [World.size_alloc] at HO
  have HR := Lib.hid ((Ret.NC.new' (.slice none 0 0) 27 (w := w.alloc (.cells #[.slice x n cap] 27)) (n := w.heap.size + 1) (by simp)).alloc (.cells #[] 9))
  clear hh h hn
  go_enter Try.func67, Try.ntmps67
  go_wp2_with (at_builtin; refine wpList_app (enc := Value.string) (B := w.heap.size + 1 + 1) (l := []) (m := l) rfl _ _ rfl Try.underlying25 elemSTR rfl rfl rfl HO.out HT2.out oneStr (by rw [← HN.out]; simp; omega) (by rw [← HN.out]; unfold maxLen; simp; omega) (by simp) ?_)
  intro v3 w3 ho3 hg3
  obtain ⟨x3, n3, c3, rfl, hn3, hc3, ho3⟩ := ho3.shapeN
  clear hn3
  have HB4 := Lib.hid (HB0.out.grown hg3 (by simp; omega) (fun g hh => by have := (HO.out.lt g hh).1; omega))
  obtain ⟨hk2, hf2⟩ := HR.out.grown hg3 (by simp [Value.ownBlock])
  obtain ⟨q1, q2, q3⟩ := endN (w := w) (g := w.heap.size + 1) (by omega) (by omega) ho3 hk2 HB4.out
  have HQ1 := Lib.hid q1; have HQ2 := Lib.hid q2; have HQ3 := Lib.hid q3
  clear q1 q2 q3 ho3 hg3
  go_wp2
  refine bodyPost_ret (Ret.results_c rfl _ _ (w.heap.size + 1) [_] rfl aggN (Ret.one HQ1.out)) rfl ?_
  exact ⟨_, rfl, HQ2.out, HQ3.out⟩
end Go.Proofs.Ytjphnlkdbhcblaa.Row
/- Contracts of the helpers by which the laws measure, copy, compare, mark and look at interests (a name and three numbers). No conditions but that lengths fit. -/
namespace Go.Proofs.Ytjphnlkdbhcblaa.Row
open Go.ChangeShapes Go.WideShapes Go.ChangeAt Go.RowKit Go.Instr
set_option linter.unusedVariables false
set_option maxRecDepth 100000
abbrev wc (v : Value) (a b c : Int) : Array Value := #[v, .int .i64 a, .int .i64 b, .int .i64 c]
theorem aggW : Ret.AggOf Try.prog 33 4 := ⟨by kernel_rfl, by kernel_rfl⟩
theorem own_set {α : Type} [Inhabited α] {enc : α → Value} {e : TypeId} {B g i : Nat} {w : World} {v u : Value} {l : List α} (h : Own e enc B w v l) (hg : g < B) : Own e enc B (w.setCell ⟨g, i, none⟩ u) v l := h.grown (Ret.grownBy_set w ⟨g, i, none⟩ u) (nb h hg)
set_option maxHeartbeats 1000000 in
theorem szInterest (v : Value) (l : List ByteArray) (a b c : Int) (w : World) (left : Int) (h : Holds Value.string w v l) (hl : l.length ≤ 9223372036854775807) (hs : ∀ x ∈ l, x.size ≤ maxLen) (h0 : 0 ≤ left) (h1 : left ≤ 1048576) :
    Calls Try.prog 27 #[.agg (wc v a b c), .int .i64 left] w fun e w' => e = .returned (.int .i64 (szL l left)) ∧ Below w.heap.size w w' := by
  obtain ⟨x, n, cap, rfl, hn, hcap, hh⟩ := h.shapeN
  have HB := Lib.hid ((Below.refl w.heap.size w).alloc (Nat.le_refl _) (.cells (wc (.slice x n cap) a b c) 48))
  have HA := Lib.hid (hh.on HB.out); have HS := Lib.hid hs
  clear hh h hs hn
  go_enter Try.func27, Try.ntmps27
  go_wp2_with fail
  refine (szName _ l _ left HA.out hl HS.out h0 h1).mono ?_
  rintro e w' ⟨rfl, hb⟩
  have HB2 := Lib.hid (HB.out.trans (hb.mono HB.out.size)); clear hb
  by_cases hb : (bulk l : Int) ≤ left
  · rw [szL_fit hb]
    have h2 : ¬ left - (bulk l : Int) < 0 := by omega
    go_wp2
    go_ret
    exact ⟨ret_int (szL_fit hb).symm, HB2.out⟩
  · have hz := szL_not (l := l) (left := left) (by omega)
    rw [hz]
    have HZ := Lib.hid hz; clear hz
    go_wp2
    go_ret
    exact ⟨ret_int HZ.out.symm, HB2.out⟩
set_option maxHeartbeats 2000000 in
theorem toInterest (v : Value) (l : List ByteArray) (a b c : Int) (w : World) (h : Holds Value.string w v l) (hl : l.length ≤ 100000000) :
    Calls Try.prog 30 #[.agg (wc v a b c)] w fun e w' => ∃ v', e = .returned (.agg (wc v' a b c)) ∧ Own 9 Value.string w.heap.size w' v' l ∧ Below w.heap.size w w' := by
  obtain ⟨x, n, cap, rfl, hn, hcap, hh⟩ := h.shapeN
  have hb0 := (Below.refl w.heap.size w).alloc (Nat.le_refl _) (.cells (wc (.slice x n cap) a b c) 48)
  have hb1 := hb0.alloc (by simp) (.cells (wc (.slice none 0 0) 0 0 0) 33)
  have hb2 := hb1.alloc (by simp; omega) (.cells (wc (.slice none 0 0) 0 0 0) 33)
  have HB := Lib.hid hb2
  have HA := Lib.hid (hh.on hb2)
  have X0 := Lib.hid (((Ret.Blk.new w (wc (.slice x n cap) a b c) 48).on ((Below.refl _ _).alloc (Nat.le_refl _) (.cells (wc (.slice none 0 0) 0 0 0) 33))).on ((Below.refl _ _).alloc (Nat.le_refl _) (.cells (wc (.slice none 0 0) 0 0 0) 33)))
  have X1 := Lib.hid ((Ret.Blk.new' (w := w.alloc (.cells (wc (.slice x n cap) a b c) 48)) (n := w.heap.size + 1) (wc (.slice none 0 0) 0 0 0) 33 (by simp)).on ((Below.refl _ _).alloc (Nat.le_refl _) (.cells (wc (.slice none 0 0) 0 0 0) 33)))
  have X2 := Lib.hid (Ret.Blk.new' (w := (w.alloc (.cells (wc (.slice x n cap) a b c) 48)).alloc (.cells (wc (.slice none 0 0) 0 0 0) 33)) (n := w.heap.size + 1 + 1) (wc (.slice none 0 0) 0 0 0) 33 (by simp))
  clear hh h hn hb0 hb1 hb2
  go_enter Try.func30, Try.ntmps30
  go_wp2_with fail
  refine (toName _ l _ HA.out hl).mono ?_
  rintro e w1 ⟨v1, rfl, ho, hb⟩
  obtain ⟨x1, n1, c1, rfl, -, hc1, ho1⟩ := ho.shapeN
  have HO := Lib.hid ho1
  have Y0 := Lib.hid (X0.out.on hb); have Y1 := Lib.hid (X1.out.on hb); have Y2 := Lib.hid (X2.out.on hb)
  have HB1 := Lib.hid (HB.out.trans (hb.mono HB.out.size))
  clear ho ho1 hb X0 X1 X2
  have q1 : w1.cell? ⟨w.heap.size, 1, none⟩ = some (.int .i64 a) := Y0.out.cell 1
  have q2 : w1.cell? ⟨w.heap.size, 2, none⟩ = some (.int .i64 b) := Y0.out.cell 2
  have q3 : w1.cell? ⟨w.heap.size, 3, none⟩ = some (.int .i64 c) := Y0.out.cell 3
  have r0 : w1.cell? ⟨w.heap.size + 1, 0, none⟩ = some (.slice none 0 0) := Y1.out.cell 0
  have r1 : w1.cell? ⟨w.heap.size + 1, 1, none⟩ = some (.int .i64 0) := Y1.out.cell 1
  have r2 : w1.cell? ⟨w.heap.size + 1, 2, none⟩ = some (.int .i64 0) := Y1.out.cell 2
  have r3 : w1.cell? ⟨w.heap.size + 1, 3, none⟩ = some (.int .i64 0) := Y1.out.cell 3
  have s0 : w1.cell? ⟨w.heap.size + 1 + 1, 0, none⟩ = some (.slice none 0 0) := Y2.out.cell 0
  have s1 : w1.cell? ⟨w.heap.size + 1 + 1, 1, none⟩ = some (.int .i64 0) := Y2.out.cell 1
  have s2 : w1.cell? ⟨w.heap.size + 1 + 1, 2, none⟩ = some (.int .i64 0) := Y2.out.cell 2
  have s3 : w1.cell? ⟨w.heap.size + 1 + 1, 3, none⟩ = some (.int .i64 0) := Y2.out.cell 3
  have t0 := Y1.out.frozen 0; have t1 := Y1.out.frozen 1; have t2 := Y1.out.frozen 2; have t3 := Y1.out.frozen 3
  have u0_ := Y2.out.frozen 0; have u1_ := Y2.out.frozen 1; have u2_ := Y2.out.frozen 2; have u3_ := Y2.out.frozen 3
  have Z1 := Lib.hid ((((((((Y1.out.other (a := ⟨w.heap.size + 1 + 1, 0, none⟩) (by simp) (.slice x1 n1 c1)).other (a := ⟨w.heap.size + 1 + 1, 1, none⟩) (by simp) (.int .i64 a)).other (a := ⟨w.heap.size + 1 + 1, 2, none⟩) (by simp) (.int .i64 b)).other (a := ⟨w.heap.size + 1 + 1, 3, none⟩) (by simp) (.int .i64 c)).set 0 (.slice x1 n1 c1)).set 1 (.int .i64 a)).set 2 (.int .i64 b)).set 3 (.int .i64 c))
  have Z2 := Lib.hid (own_set (g := w.heap.size + 1) (i := 3) (u := (.int .i64 c)) (own_set (g := w.heap.size + 1) (i := 2) (u := (.int .i64 b)) (own_set (g := w.heap.size + 1) (i := 1) (u := (.int .i64 a)) (own_set (g := w.heap.size + 1) (i := 0) (u := (.slice x1 n1 c1)) (own_set (g := w.heap.size + 1 + 1) (i := 3) (u := (.int .i64 c)) (own_set (g := w.heap.size + 1 + 1) (i := 2) (u := (.int .i64 b)) (own_set (g := w.heap.size + 1 + 1) (i := 1) (u := (.int .i64 a)) (own_set (g := w.heap.size + 1 + 1) (i := 0) (u := (.slice x1 n1 c1)) HO.out (by simp)) (by simp)) (by simp)) (by simp)) (by simp)) (by simp)) (by simp)) (by simp))
  have Z3 := Lib.hid ((((((((HB1.out.setCell (p := ⟨w.heap.size + 1 + 1, 0, none⟩) (by simp; omega) (.slice x1 n1 c1)).setCell (p := ⟨w.heap.size + 1 + 1, 1, none⟩) (by simp; omega) (.int .i64 a)).setCell (p := ⟨w.heap.size + 1 + 1, 2, none⟩) (by simp; omega) (.int .i64 b)).setCell (p := ⟨w.heap.size + 1 + 1, 3, none⟩) (by simp; omega) (.int .i64 c)).setCell (p := ⟨w.heap.size + 1, 0, none⟩) (by simp) (.slice x1 n1 c1)).setCell (p := ⟨w.heap.size + 1, 1, none⟩) (by simp) (.int .i64 a)).setCell (p := ⟨w.heap.size + 1, 2, none⟩) (by simp) (.int .i64 b)).setCell (p := ⟨w.heap.size + 1, 3, none⟩) (by simp) (.int .i64 c))
  clear Y0 Y1 Y2
  go_wp2_with fail
  refine bodyPost_ret (Ret.results_c rfl _ _ (w.heap.size + 1) (wc (.slice x1 n1 c1) a b c).toList rfl aggW Z1.out.cells) rfl ?_
  exact ⟨_, rfl, Z2.out.mono (by simp; omega), Z3.out⟩
set_option maxHeartbeats 2000000 in
theorem eqInterest (v u : Value) (x y : List ByteArray × Int × Int × Int) (w : World) (q : Bool) (hq : decide (x = y) = q) (h : Holds Value.string w v x.1) (g : Holds Value.string w u y.1) (hl : x.1.length ≤ 140737488351232) (hm : y.1.length ≤ 140737488351232) :
    Calls Try.prog 32 #[.agg (wc v x.2.1 x.2.2.1 x.2.2.2), .agg (wc u y.2.1 y.2.2.1 y.2.2.2)] w fun e w' => e = .returned (.bool q) ∧ Below w.heap.size w w' := by
  obtain ⟨ps, a1, a2, a3⟩ := x
  obtain ⟨qs, b1, b2, b3⟩ := y
  simp only at h g hl hm ⊢
  obtain ⟨x, n, cap, rfl, -, hcap, hh⟩ := h.shapeN
  obtain ⟨y, m, cap', rfl, -, hcap', hg⟩ := g.shapeN
  have hb0 := (Below.refl w.heap.size w).alloc (Nat.le_refl _) (.cells (wc (.slice x n cap) a1 a2 a3) 33)
  have HB := Lib.hid (hb0.alloc (by simp) (.cells (wc (.slice y m cap') b1 b2 b3) 33))
  have HH := Lib.hid (hh.on HB.out); have HG := Lib.hid (hg.on HB.out)
  have X0 := Lib.hid ((Ret.Blk.new w (wc (.slice x n cap) a1 a2 a3) 33).on ((Below.refl _ _).alloc (Nat.le_refl _) (.cells (wc (.slice y m cap') b1 b2 b3) 33)))
  have X1 := Lib.hid (Ret.Blk.new' (w := w.alloc (.cells (wc (.slice x n cap) a1 a2 a3) 33)) (n := w.heap.size + 1) (wc (.slice y m cap') b1 b2 b3) 33 (by simp))
  have HQ := Lib.hid hq
  clear hh hg h g hq hb0
  go_enter Try.func32, Try.ntmps32
  go_wp2_with fail
  refine (eqName _ _ ps qs _ HH.out HG.out hl hm).mono ?_
  rintro e w1 ⟨rfl, hb⟩
  have Y0 := Lib.hid (X0.out.on hb); have Y1 := Lib.hid (X1.out.on hb)
  have HB2 := Lib.hid (HB.out.trans (hb.mono HB.out.size)); clear hb X0 X1
  have q1 : w1.cell? ⟨w.heap.size, 1, none⟩ = some (.int .i64 a1) := Y0.out.cell 1
  have q2 : w1.cell? ⟨w.heap.size, 2, none⟩ = some (.int .i64 a2) := Y0.out.cell 2
  have q3 : w1.cell? ⟨w.heap.size, 3, none⟩ = some (.int .i64 a3) := Y0.out.cell 3
  have r1 : w1.cell? ⟨w.heap.size + 1, 1, none⟩ = some (.int .i64 b1) := Y1.out.cell 1
  have r2 : w1.cell? ⟨w.heap.size + 1, 2, none⟩ = some (.int .i64 b2) := Y1.out.cell 2
  have r3 : w1.cell? ⟨w.heap.size + 1, 3, none⟩ = some (.int .i64 b3) := Y1.out.cell 3
  by_cases he : ps = qs
  · rw [eqB_true he]
    by_cases h1 : a1 = b1
    · have t1 : (a1 != b1) = false := by simp [h1]
      by_cases h2 : a2 = b2
      · have t2 : (a2 != b2) = false := by simp [h2]
        by_cases h3 : a3 = b3
        · have t3 : (a3 != b3) = false := by simp [h3]
          have HE : Hid (q = true) := Lib.hid (by rw [← HQ.out]; simp [he, h1, h2, h3])
          clear he h1 h2 h3
          go_wp2
          go_ret
          exact ⟨ret_bool HE.out.symm, HB2.out⟩
        · have t3 : (a3 != b3) = true := by simpa using h3
          have HE : Hid (q = false) := Lib.hid (by rw [← HQ.out]; simp [h3])
          clear he h1 h2 h3
          go_wp2
          go_ret
          exact ⟨ret_bool HE.out.symm, HB2.out⟩
      · have t2 : (a2 != b2) = true := by simpa using h2
        have HE : Hid (q = false) := Lib.hid (by rw [← HQ.out]; simp [h2])
        clear he h1 h2
        go_wp2
        go_ret
        exact ⟨ret_bool HE.out.symm, HB2.out⟩
    · have t1 : (a1 != b1) = true := by simpa using h1
      have HE : Hid (q = false) := Lib.hid (by rw [← HQ.out]; simp [h1])
      clear he h1
      go_wp2
      go_ret
      exact ⟨ret_bool HE.out.symm, HB2.out⟩
  · rw [eqB_false he]
    have HE : Hid (q = false) := Lib.hid (by rw [← HQ.out]; simp [he])
    clear he
    go_wp2
    go_ret
    exact ⟨ret_bool HE.out.symm, HB2.out⟩
set_option maxHeartbeats 1000000 in
theorem markInterest (B : Nat) (v : Value) (l : List ByteArray) (a b c : Int) (w : World) (k : Int) (h : Own 9 Value.string B w v l) (hl : l.length ≤ 100000000) (h0 : 0 ≤ k) (h1 : k ≤ 100000000000) :
    Calls Try.prog 41 #[.agg (wc v a b c), .int .i64 k] w fun e w' => e = .returned (.int .i64 (k + l.length)) ∧ Own 9 Value.string B w' v (marks markT k l.length) ∧ w.grownBy w' v.ownBlock := by
  obtain ⟨x, n, cap, rfl, hn, hcap, hh⟩ := h.shapeN
  have hb0 := (Below.refl w.heap.size w).alloc (Nat.le_refl _) (.cells (wc (.slice x n cap) a b c) 33)
  have HB := Lib.hid hb0
  have HH := Lib.hid (hh.on hb0)
  have HLT := Lib.hid hh.lt
  clear hh h hn hb0
  go_enter Try.func41, Try.ntmps41
  go_wp2_with fail
  refine (markName B _ l _ k HH.out hl h0 h1).mono ?_
  rintro e w1 ⟨rfl, ho, hg⟩
  have HO := Lib.hid ho
  have HG := Lib.hid (Go.World.grownBy.trans (grown_of_below HB.out (Value.slice x n cap).ownBlock) hg)
  clear ho hg
  go_wp2_with fail
  go_ret
  exact ⟨rfl, HO.out, HG.out⟩
end Go.Proofs.Ytjphnlkdbhcblaa.Row
/- What calls leave that give a slice of the call's own; lists of bytes. No conditions. -/
namespace Go.Proofs.Ytjphnlkdbhcblaa.Sl
open Go.ChangeShapes Go.WideShapes Go.ChangeAt Go.RowKit Go.Instr
set_option linter.unusedVariables false
set_option maxRecDepth 100000
def GivesB (w : World) (l : List Int) (e : Ending) (w' : World) : Prop := ∃ v, e = .returned v ∧ Own 5 .u8 w.heap.size w' v l ∧ Below w.heap.size w w'
def GivesI (w : World) (l : List Int) (e : Ending) (w' : World) : Prop := ∃ v, e = .returned v ∧ Own 3 .i64 w.heap.size w' v l ∧ Below w.heap.size w w'
def Byt (l : List Int) : Prop := ∀ x ∈ l, 0 ≤ x ∧ x ≤ 255
theorem Byt.at {l : List Int} (h : Byt l) {j : Nat} (hj : j < l.length) : 0 ≤ nth l j ∧ nth l j ≤ 255 := by rw [nth_eq hj]; exact h _ (List.getElem_mem hj)
end Go.Proofs.Ytjphnlkdbhcblaa.Sl
/- A string turned into a slice of bytes: where they lie, what they are. No conditions. -/
namespace Go.Proofs.Ytjphnlkdbhcblaa.Sl
open Go.ChangeShapes Go.WideShapes Go.ChangeAt Go.RowKit Go.Instr
set_option linter.unusedVariables false
set_option maxRecDepth 100000
def bytesOf (t : ByteArray) : List Int := t.data.toList.map fun c => (c.toNat : Int)
end Go.Proofs.Ytjphnlkdbhcblaa.Sl
/- Plain mathematics of the base-128 encoding, no program in sight: the encoding's bytes, how they are read back, how long they are. No conditions. -/
namespace Go.Proofs.Ytjphnlkdbhcblaa.Var
def enc (n : Nat) : List Int := if h : n < 128 then [(n : Int)] else (((n % 128 : Nat) : Int) + 128) :: enc (n / 128)
  termination_by n
  decreasing_by omega
def var (n : Int) : List Int := if 0 ≤ n ∧ n ≤ 1000000000000 then enc n.toNat else []
def dec : Nat → List Int → Nat → Int → Option (Int × Nat)
  | 0, _, _, _ => none
  | _ + 1, [], _, _ => none
  | f + 1, x :: r, k, n =>
    if x < 128 then (if (x = 0 ∧ 0 < k) ∨ 1000000000000 < n + x * 128 ^ k then none else some (n + x * 128 ^ k, k + 1))
    else dec f r (k + 1) (n + x % 128 * 128 ^ k)
def okAt (l : List Int) (i : Int) : Prop := 0 ≤ i ∧ i ≤ l.length
def res (i : Int) : Option (Int × Nat) → Int × Int × Bool
  | none => (0, 0, false)
  | some (n, c) => (n, i + c, true)
def readV (l : List Int) (i : Int) : Int × Int × Bool := if 0 ≤ i ∧ i ≤ l.length then res i (dec 6 (l.drop i.toNat) 0 0) else (0, 0, false)
end Go.Proofs.Ytjphnlkdbhcblaa.Var
/- Contracts of AppendVarint, the reference model's and the program's: the slice and behind it the number's groups, in memory of the call's own. No conditions but that lengths fit. -/
namespace Go.Proofs.Ytjphnlkdbhcblaa.Sl
open Go.ChangeShapes Go.WideShapes Go.ChangeAt Go.RowKit Go.Instr
set_option linter.unusedVariables false
set_option maxRecDepth 100000
def GrowsB (B : Nat) (w : World) (l : List Int) (e : Ending) (w' : World) : Prop := ∃ v, e = .returned v ∧ Own 5 .u8 B w' v l ∧ Below B w w'
end Go.Proofs.Ytjphnlkdbhcblaa.Sl
/- Contracts of ReadVarint, the reference model's and the program's: what the groups at the offset make, the offset behind them, true; or 0, 0 and false. Nothing in memory turns. No conditions but that the elements are bytes and the length fits. -/
namespace Go.Proofs.Ytjphnlkdbhcblaa.Sl
open Go.ChangeShapes Go.WideShapes Go.ChangeAt Go.RowKit Go.Instr
set_option linter.unusedVariables false
set_option maxRecDepth 100000
def rdV (r : Int × Int × Bool) : Value := .tuple #[.int .i64 r.1, .int .i64 r.2.1, .bool r.2.2]
end Go.Proofs.Ytjphnlkdbhcblaa.Sl
/- Contracts of the program's ReadVarint: what the groups at the offset make, the offset behind them, true; or 0, 0 and false. What was in memory stays as it was. No conditions but that the elements are bytes and the length fits. -/
namespace Go.Proofs.Ytjphnlkdbhcblaa.Sl
open Go.ChangeShapes Go.WideShapes Go.ChangeAt Go.RowKit Go.Instr
set_option linter.unusedVariables false
set_option maxRecDepth 100000
end Go.Proofs.Ytjphnlkdbhcblaa.Sl
/- Contracts of AppendBytes, EqualBytes and EncodeInts, the reference model's and the program's. Slices that are returned lie in memory of the call's own. No conditions but that lengths fit and that the elements are bytes. -/
namespace Go.Proofs.Ytjphnlkdbhcblaa.Sl
open Go.ChangeShapes Go.WideShapes Go.ChangeAt Go.RowKit Go.Instr
set_option linter.unusedVariables false
set_option maxRecDepth 100000
end Go.Proofs.Ytjphnlkdbhcblaa.Sl
/- Contracts of EncodeInts, the reference model's and the program's: the numbers' groups, one number after the other, in memory of the call's own. No conditions but that lengths fit. -/
namespace Go.Proofs.Ytjphnlkdbhcblaa.Sl
open Go.ChangeShapes Go.WideShapes Go.ChangeAt Go.RowKit Go.Instr
set_option linter.unusedVariables false
set_option maxRecDepth 100000
def encs (l : List Int) : List Int := l.flatMap Var.var
end Go.Proofs.Ytjphnlkdbhcblaa.Sl
/- Contracts of the model's functions on interests: AppendName. No conditions but that lengths fit. -/
namespace Go.Proofs.Ytjphnlkdbhcblaa.Row
open Go.ChangeShapes Go.WideShapes Go.ChangeAt Go.RowKit Go.Instr
set_option linter.unusedVariables false
set_option maxRecDepth 100000
def encPs (l : List ByteArray) : List Int := l.flatMap fun s => Var.var s.size ++ Sl.bytesOf s
def encN (l : List ByteArray) : List Int := Var.var l.length ++ encPs l
def appName (b : List Int) (l : List ByteArray) : List Int := if validN l = true then b ++ encN l else b
end Go.Proofs.Ytjphnlkdbhcblaa.Row
/- Contracts of the model's functions on interests: validity, copy, equality, the hop limit. No conditions but that lengths fit. -/
namespace Go.Proofs.Ytjphnlkdbhcblaa.Row
open Go.ChangeShapes Go.WideShapes Go.ChangeAt Go.RowKit Go.Instr
set_option linter.unusedVariables false
set_option maxRecDepth 100000
abbrev Wt := List ByteArray × Int × Int × Int
def validW (x : Wt) : Bool := validN x.1 && decide (0 < x.1.length) && decide (0 ≤ x.2.1 ∧ x.2.1 ≤ 1000000) && decide (0 ≤ x.2.2.1 ∧ x.2.2.1 ≤ 16) && decide (1 ≤ x.2.2.2 ∧ x.2.2.2 ≤ 20)
theorem validW_no1 {x : Wt} (h : validN x.1 = false) : validW x = false := by simp [validW, h]
theorem validW_no2 {x : Wt} (h : ¬ 0 < x.1.length) : validW x = false := by
  have : decide (0 < x.1.length) = false := by simpa using h
  simp [validW, this]
theorem validW_no3 {x : Wt} (h : ¬ (0 ≤ x.2.1 ∧ x.2.1 ≤ 1000000)) : validW x = false := by
  have : decide (0 ≤ x.2.1 ∧ x.2.1 ≤ 1000000) = false := decide_eq_false h
  unfold validW; rw [this]; simp
theorem validW_no4 {x : Wt} (h : ¬ (0 ≤ x.2.2.1 ∧ x.2.2.1 ≤ 16)) : validW x = false := by
  have : decide (0 ≤ x.2.2.1 ∧ x.2.2.1 ≤ 16) = false := decide_eq_false h
  unfold validW; rw [this]; simp
theorem validW_no5 {x : Wt} (h : ¬ (1 ≤ x.2.2.2 ∧ x.2.2.2 ≤ 20)) : validW x = false := by
  have : decide (1 ≤ x.2.2.2 ∧ x.2.2.2 ≤ 20) = false := decide_eq_false h
  unfold validW; rw [this]; simp
theorem validW_yes {x : Wt} (h1 : validN x.1 = true) (h2 : 0 < x.1.length) (h3 : 0 ≤ x.2.1 ∧ x.2.1 ≤ 1000000) (h4 : 0 ≤ x.2.2.1 ∧ x.2.2.1 ≤ 16) (h5 : 1 ≤ x.2.2.2 ∧ x.2.2.2 ≤ 20) : validW x = true := by
  simp [validW, h1, h2, h3, h4, h5]
set_option maxHeartbeats 4000000 in
theorem specValidInterest (v : Value) (x : Wt) (w : World) (h : Holds Value.string w v x.1) (hl : bulk x.1 ≤ 9000000) :
    Calls Try.prog 90 #[.agg (wc v x.2.1 x.2.2.1 x.2.2.2)] w fun e w' => e = .returned (.bool (validW x)) ∧ Below w.heap.size w w' := by
  obtain ⟨l, a, b, c⟩ := x
  simp only at h hl ⊢
  obtain ⟨y, q, cy, rfl, hq, hcy, hg⟩ := h.shapeN
  have hb0 := (Below.refl w.heap.size w).alloc (Nat.le_refl _) (.cells (wc (.slice y q cy) a b c) 33)
  have HB := Lib.hid hb0
  have HG := Lib.hid (hg.on hb0)
  have X0 := Lib.hid (Ret.Blk.new w (wc (.slice y q cy) a b c) 33)
  have HQ := Lib.hid hq
  clear h hg hq hb0
  obtain ⟨ok, hok⟩ : ∃ z, validN l = z := ⟨_, rfl⟩
  have HOK := Lib.hid hok
  go_enter Try.func90, Try.ntmps90
  go_wp2_with fail
  refine (specValidName _ l _ HG.out (by omega)).mono ?_
  rintro e w1 ⟨rfl, hb⟩
  rw [hok]
  have Y0 := Lib.hid (X0.out.on hb)
  have HB2 := Lib.hid (HB.out.trans (hb.mono HB.out.size)); clear hb X0 hok
  have q0 : w1.cell? ⟨w.heap.size, 0, none⟩ = some (.slice y q cy) := Y0.out.cell 0
  have q1 : w1.cell? ⟨w.heap.size, 1, none⟩ = some (.int .i64 a) := Y0.out.cell 1
  have q2 : w1.cell? ⟨w.heap.size, 2, none⟩ = some (.int .i64 b) := Y0.out.cell 2
  have q3 : w1.cell? ⟨w.heap.size, 3, none⟩ = some (.int .i64 c) := Y0.out.cell 3
  cases ok with
  | false =>
    have HV := Lib.hid (validW_no1 (x := (l, a, b, c)) HOK.out)
    go_wp2_with fail
    go_ret
    exact ⟨ret_bool HV.out.symm, HB2.out⟩
  | true =>
    by_cases h2 : 0 < q
    · have hd2 : decide ((0 : Int) < (q : Int)) = true := by simp; omega
      by_cases h3 : 0 ≤ a ∧ a ≤ 1000000
      · have HI3 := Lib.hid (fun wx => Num.specIn_true h3.1 h3.2 wx)
        have H3 := Lib.hid h3
        clear h3
        go_wp2_with fail
        refine (HI3.out _).mono ?_
        rintro e w' ⟨rfl, rfl⟩
        by_cases h4 : 0 ≤ b ∧ b ≤ 16
        · have HI4 := Lib.hid (fun wx => Num.specIn_true h4.1 h4.2 wx)
          have H4 := Lib.hid h4
          clear h4
          go_wp2_with fail
          refine (HI4.out _).mono ?_
          rintro e w' ⟨rfl, rfl⟩
          by_cases h5 : 1 ≤ c ∧ c ≤ 20
          · have HI5 := Lib.hid (fun wx => Num.specIn_true h5.1 h5.2 wx)
            have HV := Lib.hid (validW_yes (x := (l, a, b, c)) HOK.out (by rw [← HQ.out]; exact h2) H3.out H4.out h5)
            clear h5
            go_wp2_with fail
            refine (HI5.out _).mono ?_
            rintro e w' ⟨rfl, rfl⟩
            go_wp2_with fail
            go_ret
            exact ⟨ret_bool HV.out.symm, HB2.out⟩
          · have HI5 := Lib.hid (fun wx => Num.specIn_false h5 wx)
            have HV := Lib.hid (validW_no5 (x := (l, a, b, c)) h5)
            clear h5
            go_wp2_with fail
            refine (HI5.out _).mono ?_
            rintro e w' ⟨rfl, rfl⟩
            go_wp2_with fail
            go_ret
            exact ⟨ret_bool HV.out.symm, HB2.out⟩
        · have HI4 := Lib.hid (fun wx => Num.specIn_false h4 wx)
          have HV := Lib.hid (validW_no4 (x := (l, a, b, c)) h4)
          clear h4
          go_wp2_with fail
          refine (HI4.out _).mono ?_
          rintro e w' ⟨rfl, rfl⟩
          go_wp2_with fail
          go_ret
          exact ⟨ret_bool HV.out.symm, HB2.out⟩
      · have HI3 := Lib.hid (fun wx => Num.specIn_false h3 wx)
        have HV := Lib.hid (validW_no3 (x := (l, a, b, c)) h3)
        clear h3
        go_wp2_with fail
        refine (HI3.out _).mono ?_
        rintro e w' ⟨rfl, rfl⟩
        go_wp2_with fail
        go_ret
        exact ⟨ret_bool HV.out.symm, HB2.out⟩
    · have HV := Lib.hid (validW_no2 (x := (l, a, b, c)) (by rw [← HQ.out]; exact h2))
      have hd2 : decide ((0 : Int) < (q : Int)) = false := by simp; omega
      go_wp2_with fail
      go_ret
      exact ⟨ret_bool HV.out.symm, HB2.out⟩
def GivesW (w : World) (x : Wt) (e : Ending) (w' : World) : Prop := ∃ v', e = .returned (.agg (wc v' x.2.1 x.2.2.1 x.2.2.2)) ∧ Own 9 Value.string w.heap.size w' v' x.1 ∧ Below w.heap.size w w'
def GivesWB (w : World) (x : Wt) (z : Bool) (e : Ending) (w' : World) : Prop := ∃ v', e = .returned (.tuple #[.agg (wc v' x.2.1 x.2.2.1 x.2.2.2), .bool z]) ∧ Own 9 Value.string w.heap.size w' v' x.1 ∧ Below w.heap.size w w'
def decW (x : Wt) : Wt := if x.2.2.1 < 1 then x else (x.1, x.2.1, x.2.2.1 - 1, x.2.2.2)
def decOk (x : Wt) : Bool := decide (1 ≤ x.2.2.1)
end Go.Proofs.Ytjphnlkdbhcblaa.Row
/- Contract of the program's copy of a name. No conditions but that lengths fit. -/
namespace Go.Proofs.Ytjphnlkdbhcblaa.Row
open Go.ChangeShapes Go.WideShapes Go.ChangeAt Go.RowKit Go.Instr
set_option linter.unusedVariables false
set_option maxRecDepth 100000
set_option maxHeartbeats 4000000 in
theorem cloneName (v : Value) (l : List ByteArray) (w : World) (h : Holds Value.string w v l) (hl : l.length ≤ 9000000) :
    Calls Try.prog 95 #[.agg #[v]] w (GivesN w l) := by
  obtain ⟨x, n, cap, rfl, hn, hcap, hh⟩ := h.shapeN
  have HB0 := Lib.hid (((Below.refl w.heap.size w).alloc (Nat.le_refl _) (.cells #[.slice x n cap] 27)).alloc (by simp) (.cells #[.slice none 0 0] 27))
  have HH := Lib.hid (hh.on HB0.out)
  have HR := Lib.hid (Ret.NC.new' (.slice none 0 0) 27 (w := w.alloc (.cells #[.slice x n cap] 27)) (n := w.heap.size + 1) (by simp))
  clear hh h hn
  go_enter Try.func95, Try.ntmps95
  go_wp2_with fail
  refine (cloneS _ l _ HH.out (by omega)).mono ?_
  rintro e w1 ⟨v1, rfl, ho, hb⟩
  obtain ⟨x1, n1, c1, rfl, -, -, ho1⟩ := ho.shapeN
  have HR1 := Lib.hid (HR.out.on hb)
  obtain ⟨hk, hf⟩ := HR1.out
  have HB1 := HB0.out.trans (hb.mono HB0.out.size)
  obtain ⟨q1, q2, q3⟩ := endN (w := w) (g := w.heap.size + 1) (by omega) (by simp) ho1 hk HB1
  have HQ1 := Lib.hid q1; have HQ2 := Lib.hid q2; have HQ3 := Lib.hid q3
  clear q1 q2 q3 ho ho1 hb HB1
  go_wp2
  refine bodyPost_ret (Ret.results_c rfl _ _ (w.heap.size + 1) [_] rfl aggN (Ret.one HQ1.out)) rfl ?_
  exact ⟨_, rfl, HQ2.out, HQ3.out⟩
end Go.Proofs.Ytjphnlkdbhcblaa.Row
/- Names in the kinds of kstruct.py: ValidName, EqualNames, the copies, model and program. No conditions but that lengths fit. -/
namespace Go.Proofs.Ytjphnlkdbhcblaa.Row
open Go.ChangeShapes Go.WideShapes Go.ChangeAt Go.RowKit Go.Instr
set_option linter.unusedVariables false
set_option maxRecDepth 100000
section
variable {w : World} {V U : Value} {l m : List ByteArray} {B E : Nat}
theorem sEqK (z : Bool) (hz : decide (l = m) = z) (h : kN.At w V l) (g : kN.At w U m) (hl : bulk l ≤ 9000000) (hm : bulk m ≤ 9000000) :
    Calls Try.prog 83 #[V, U] w fun e w' => e = .returned (.bool z) ∧ Below w.heap.size w w' := by
  obtain ⟨v, rfl, h9⟩ := kN_at h
  obtain ⟨u, rfl, g9⟩ := kN_at g
  exact hz ▸ specEqualNames v u l m w h9 g9 (by have := bulk_len l; omega) (by have := bulk_len m; omega)
theorem iEqK (z : Bool) (hz : decide (l = m) = z) (h : kN.At w V l) (g : kN.At w U m) (hl : bulk l ≤ 9000000) (hm : bulk m ≤ 9000000) :
    Calls Try.prog 71 #[V, U] w fun e w' => e = .returned (.bool z) ∧ Below w.heap.size w w' := by
  obtain ⟨v, rfl, h9⟩ := kN_at h
  obtain ⟨u, rfl, g9⟩ := kN_at g
  exact hz ▸ implEqualNames v u l m w h9 g9 (by have := bulk_len l; omega) (by have := bulk_len m; omega)
theorem sCpyN (h : kN.At w V l) (hl : bulk l ≤ 9000000) : Calls Try.prog 67 #[V] w fun e w' => ∃ U, e = .returned U ∧ kN.In w.heap.size w'.heap.size w' U l ∧ Below w.heap.size w w' := by
  obtain ⟨v, rfl, h9⟩ := kN_at h
  exact (l4Copy v l w h9 (by have := bulk_len l; omega)).mono fun e w' ⟨v', a, b, c⟩ => ⟨_, a, kN_own b, c⟩
theorem iCpyN (h : kN.At w V l) (hl : bulk l ≤ 9000000) : Calls Try.prog 95 #[V] w fun e w' => ∃ U, e = .returned U ∧ kN.In w.heap.size w'.heap.size w' U l ∧ Below w.heap.size w w' := by
  obtain ⟨v, rfl, h9⟩ := kN_at h
  exact (cloneName v l w h9 (by have := bulk_len l; omega)).mono fun e w' ⟨v', a, b, c⟩ => ⟨_, a, kN_own b, c⟩
end
end Go.Proofs.Ytjphnlkdbhcblaa.Row
/- Interests in the words of the exact laws: the kind; the laws' helpers for it; an interest that came in as an argument. No conditions but that lengths fit. -/
namespace Go.Proofs.Ytjphnlkdbhcblaa.Row
open Go.ChangeShapes Go.WideShapes Go.ChangeAt Go.RowKit Go.Instr
set_option linter.unusedVariables false
set_option maxRecDepth 100000
def kW : Kd Wt (Rw ByteArray × Int × Int × Int) := (kNm 9).pair (kInt.pair (kInt.pair kInt))
section
variable {w : World} {v V : Value} {x : Wt} {B E : Nat}
theorem kW_at (h : kW.At w V x) : ∃ v, V = .agg (wc v x.2.1 x.2.2.1 x.2.2.2) ∧ Holds Value.string w v x.1 := by
  obtain ⟨⟨r, a, b, c⟩, rfl, rfl, h⟩ := h
  exact ⟨r.v, rfl, kNm_at (e := 9) ⟨r, rfl, rfl, h.1⟩⟩
theorem kW_of (h : Holds Value.string w v x.1) : kW.At w (.agg (wc v x.2.1 x.2.2.1 x.2.2.2)) x := by
  obtain ⟨l, a, b, c⟩ := x
  obtain ⟨m, rfl, e, h⟩ := kNm_of (e := 9) h
  exact ⟨(m, a, b, c), rfl, Prod.ext e rfl, h, trivial, trivial, trivial⟩
theorem kW_mk (h : Own 9 Value.string B w v x.1) (hE : ∀ g, v.ownBlock = some g → g < E) : kW.In B E w (.agg (wc v x.2.1 x.2.2.1 x.2.2.2)) x := by
  obtain ⟨l, a, b, c⟩ := x
  obtain ⟨m, rfl, e, h, hn, hl⟩ := kNm_mk h hE
  have hb : kW.blocks (m, a, b, c) = (kNm 9).blocks m := List.append_nil _
  exact ⟨(m, a, b, c), rfl, Prod.ext e rfl, ⟨h, trivial, trivial, trivial⟩, by rw [hb]; exact hn, by rw [hb]; exact hl⟩
theorem kW_own (h : Own 9 Value.string B w v x.1) : kW.In B w.heap.size w (.agg (wc v x.2.1 x.2.2.1 x.2.2.2)) x := kW_mk h (fun g hg => (h.lt g hg).2)
theorem kW_in (h : kW.In B E w V x) : ∃ v, V = .agg (wc v x.2.1 x.2.2.1 x.2.2.2) ∧ Own 9 Value.string B w v x.1 ∧ ∀ g, v.ownBlock = some g → g < E := by
  obtain ⟨⟨r, a, b, c⟩, rfl, rfl, h, hn, hl⟩ := h
  have hb : kW.blocks (r, a, b, c) = (kNm 9).blocks r := List.append_nil _
  rw [hb] at hn hl
  exact ⟨r.v, rfl, kNm_in (e := 9) ⟨r, rfl, rfl, h.1, hn, hl⟩⟩
theorem kW_shape (h : kW.In B E w V x) : ∃ a n c, V = .agg #[.slice a n c, .int .i64 x.2.1, .int .i64 x.2.2.1, .int .i64 x.2.2.2] ∧ kW.In B E w (.agg #[.slice a n c, .int .i64 x.2.1, .int .i64 x.2.2.1, .int .i64 x.2.2.2]) x := by
  obtain ⟨v, rfl, ho, -⟩ := kW_in h
  obtain ⟨a, n, c, rfl, -⟩ := ho.shapeN
  exact ⟨a, n, c, rfl, h⟩
theorem kW_shapeA (h : kW.At w V x) : ∃ a n c, V = .agg #[.slice a n c, .int .i64 x.2.1, .int .i64 x.2.2.1, .int .i64 x.2.2.2] ∧ kW.At w (.agg #[.slice a n c, .int .i64 x.2.1, .int .i64 x.2.2.1, .int .i64 x.2.2.2]) x := by
  obtain ⟨v, rfl, ho⟩ := kW_at h
  obtain ⟨a, n, c, rfl, -⟩ := ho.shapeN
  exact ⟨a, n, c, rfl, h⟩
end
def WfW (x : Wt) : Prop := (∀ y ∈ x.1, y.size ≤ maxLen) ∧ (Lit.int .i64 x.2.1).wf = true ∧ (Lit.int .i64 x.2.2.1).wf = true ∧ (Lit.int .i64 x.2.2.2).wf = true
theorem WfW.hop {x : Wt} (h : WfW x) : x.2.2.1 ≤ 9223372036854775807 := by
  have h2 := h.2.2.1
  simp [Lit.wf] at h2
  exact h2.2
theorem szWK (V : Value) (x : Wt) (w : World) (left : Int) (h : kW.At w V x) (hl : x.1.length ≤ 9223372036854775807) (hs : WfW x) (h0 : 0 ≤ left) (h1 : left ≤ 1048576) :
    Calls Try.prog 27 #[V, .int .i64 left] w fun e w' => e = .returned (.int .i64 (szL x.1 left)) ∧ Below w.heap.size w w' := by
  obtain ⟨v, rfl, h9⟩ := kW_at h
  exact szInterest v x.1 _ _ _ w left h9 hl hs.1 h0 h1
theorem toWK (V : Value) (x : Wt) (w : World) (h : kW.At w V x) (hl : x.1.length ≤ 100000000) :
    Calls Try.prog 30 #[V] w fun e w' => ∃ U, e = .returned U ∧ kW.In w.heap.size w'.heap.size w' U x ∧ Below w.heap.size w w' := by
  obtain ⟨v, rfl, h9⟩ := kW_at h
  exact (toInterest v x.1 _ _ _ w h9 hl).mono fun e w' ⟨v, a, b, c⟩ => ⟨_, a, kW_own b, c⟩
theorem sameWK (V U : Value) (x : Wt) (w : World) (h : kW.At w V x) (g : kW.At w U x) (hl : x.1.length ≤ 100000000) :
    Calls Try.prog 32 #[V, U] w fun e w' => e = .returned (.bool true) ∧ Below w.heap.size w w' := by
  obtain ⟨v, rfl, h9⟩ := kW_at h
  obtain ⟨u, rfl, g9⟩ := kW_at g
  exact eqInterest v u x x w true (by simp) h9 g9 (by omega) (by omega)
def mkW (k : Int) (x : Wt) : Wt := (marks markT k x.1.length, x.2.1, x.2.2.1, x.2.2.2)
theorem markWK (B E : Nat) (V : Value) (x : Wt) (w : World) (k : Int) (h : kW.In B E w V x) (hl : x.1.length ≤ 100000000) (h0 : 0 ≤ k) (h1 : k ≤ 1000000000) :
    Calls Try.prog 41 #[V, .int .i64 k] w fun e w' => e = .returned (.int .i64 (k + (x.1.length : Int))) ∧ kW.In B E w' V (mkW k x) ∧ Wrote B E w w' := by
  obtain ⟨v, rfl, h9, hE⟩ := kW_in h
  exact (markInterest B v x.1 _ _ _ w k h9 hl h0 (by omega)).mono fun e w' ⟨a, b, c⟩ => ⟨a, kW_mk (x := mkW k x) b hE, Wrote.of c (fun g hg => ⟨(h9.lt g hg).1, hE g hg⟩)⟩
theorem open_want {H : Type} {enc : TypeId × Value → H} {P : Program} {w : World} {base b2 : Nat} {held : Bool} {t ep : TypeId} {v : Value} {d : DataW H} {p : List MemPlace} {f0 f1 f2 f3 g0 : Field}
    (he : P.underlying t = some (.struct #[f0, f1, f2, f3])) (hN : P.underlying f0.type = some (.struct #[g0])) (hg : P.underlying g0.type = some (.slice ep)) (hs : P.underlying ep = some .string) (hI1 : P.underlying f1.type = some (.int .i64)) (hI2 : P.underlying f2.type = some (.int .i64)) (hI3 : P.underlying f3.type = some (.int .i64))
    (ho0 : f0.offset = 0) (ho1 : f1.offset = 1) (ho2 : f2.offset = 2) (ho3 : f3.offset = 3) (hog : g0.offset = 0) (hc0 : P.cellsOf f0.type = 1) (hc1 : P.cellsOf f1.type = 1) (hc2 : P.cellsOf f2.type = 1) (hc3 : P.cellsOf f3.type = 1) (hcg : P.cellsOf g0.type = 1) (hcs : P.cellsOf ep = 1) (hC : P.cellsOf t = 4)
    (hv : Value.okWide P w .any base t v) (h : DataW.Trod enc P w b2 (fun _ => true) held t v d p) :
    ∃ x, kW.At w v x ∧ WfW x ∧ x.1.length ≤ 9223372036854775807 := by
  obtain ⟨cs, rfl, hcz⟩ := okWide_struct he hv
  obtain ⟨fuel, hfu⟩ := h
  obtain ⟨y0, y1, y2, y3, n2, -, -, q0, q1, q2, q3⟩ := Go.Joins.trod_struct4 he hfu
  rw [ho0, hc0] at q0
  rw [ho1, hc1] at q1
  rw [ho2, hc2] at q2
  rw [ho3, hc3] at q3
  obtain ⟨z0, n3, -, -, q0⟩ := trod_struct1 hN q0
  rw [hog, hcg] at q0
  obtain ⟨ad, k, c, l, e0, hh, hz, hln⟩ := open_strs1 hg hs hcs q0
  obtain ⟨v1, e1, -, w1⟩ := DataW.trod_int hI1 q1
  obtain ⟨v2, e2, -, w2⟩ := DataW.trod_int hI2 q2
  obtain ⟨v3, e3, -, w3⟩ := DataW.trod_int hI3 q3
  obtain ⟨u0, u1, u2, u3, rfl⟩ := Go.Joins.array4 (hcz.trans hC)
  simp [Value.cells] at e0 e1 e2 e3
  subst e0 e1 e2 e3
  refine ⟨(l, v1, v2, v3), kW_of (x := (l, v1, v2, v3)) hh, ⟨hz, w1, w2, w3⟩, hln⟩
end Go.Proofs.Ytjphnlkdbhcblaa.Row
/- Contracts of ReadBytes, the reference model's and the program's: the bytes behind the length at the offset, the offset behind them, true; or an empty slice, 0 and false. What is returned lies in memory of the call's own. No conditions but that the elements are bytes and the lengths fit. -/
namespace Go.Proofs.Ytjphnlkdbhcblaa.Sl
open Go.ChangeShapes Go.WideShapes Go.ChangeAt Go.RowKit Go.Instr
set_option linter.unusedVariables false
set_option maxRecDepth 100000
def readB (l : List Int) (i most : Int) : List Int × Int × Bool :=
  let r := Var.readV l i
  if r.2.2 = false ∨ most < r.1 ∨ (l.length : Int) - r.2.1 < r.1 then ([], 0, false)
  else ((l.drop r.2.1.toNat).take r.1.toNat, r.2.1 + r.1, true)
theorem Holds.part {k : IntKind} {w : World} {b off n cap : Nat} {l : List Int} (h : Holds k w (.slice (some ⟨b, off, none⟩) n cap) l) {a c c' cc : Nat} (hc : a + c ≤ n) (hcc : c ≤ cc) (he : c' = c) :
    Holds k w (.slice (some ⟨b, off + a, none⟩) c' cc) ((l.drop a).take c) := by
  rw [he]; clear he
  have hn := h.lenEq; subst hn
  have hl : ((l.drop a).take c).length = c := by simp; omega
  refine ⟨_, cc, by rw [hl], by rw [hl]; exact hcc, ?_⟩
  by_cases h0 : c = 0
  · left; subst h0; simp
  · right
    refine ⟨b, off + a, rfl, fun j hj => ?_⟩
    rw [hl] at hj
    obtain ⟨b', off', hx, hcell⟩ := h.at (j := a + j) (by omega)
    cases hx
    rw [Nat.add_assoc, hcell]
    simp only [nth, List.getD, List.getElem?_take, List.getElem?_drop, if_pos hj]
def GivesB3 (w : World) (l : List Int) (n : Int) (ok : Bool) (e : Ending) (w' : World) : Prop := ∃ v, e = .returned (.tuple #[v, .int .i64 n, .bool ok]) ∧ Own 5 .u8 w.heap.size w' v l ∧ Below w.heap.size w w'
theorem GivesB3.of {w w' : World} {v : Value} {l m : List Int} {n p : Int} {a b : Bool} (h : (l, n, a) = (m, p, b)) (ho : Own 5 .u8 w.heap.size w' v l) (hb : Below w.heap.size w w') :
    GivesB3 w m p b (.returned (.tuple #[v, .int .i64 n, .bool a])) w' := by
  cases h; exact ⟨v, rfl, ho, hb⟩
end Go.Proofs.Ytjphnlkdbhcblaa.Sl
/- Contract of the model's EncodeInterest. No conditions but that lengths fit. -/
namespace Go.Proofs.Ytjphnlkdbhcblaa.Sl
open Go.ChangeShapes Go.WideShapes Go.ChangeAt Go.RowKit Go.Instr
set_option linter.unusedVariables false
end Go.Proofs.Ytjphnlkdbhcblaa.Sl
namespace Go.Proofs.Ytjphnlkdbhcblaa.Row
open Go.ChangeShapes Go.WideShapes Go.ChangeAt Go.RowKit Go.Instr
set_option linter.unusedVariables false
set_option maxRecDepth 100000
def encW (x : Wt) : List Int := if validW x = true then appName [] x.1 ++ Sl.encs [x.2.1, x.2.2.1, x.2.2.2] else []
end Go.Proofs.Ytjphnlkdbhcblaa.Row
/- Contracts of the program's functions on interests: validity, AppendName, the numbers, copy, the hop limit. No conditions but that lengths fit. -/
namespace Go.Proofs.Ytjphnlkdbhcblaa.Row
open Go.ChangeShapes Go.WideShapes Go.ChangeAt Go.RowKit Go.Instr
set_option linter.unusedVariables false
set_option maxRecDepth 100000
set_option maxHeartbeats 4000000 in
theorem implValidInterest (v : Value) (x : Wt) (w : World) (h : Holds Value.string w v x.1) (hl : bulk x.1 ≤ 9000000) :
    Calls Try.prog 93 #[.agg (wc v x.2.1 x.2.2.1 x.2.2.2)] w fun e w' => e = .returned (.bool (validW x)) ∧ Below w.heap.size w w' := by
  obtain ⟨l, a, b, c⟩ := x
  simp only at h hl ⊢
  obtain ⟨y, q, cy, rfl, hq, hcy, hg⟩ := h.shapeN
  have hb0 := (Below.refl w.heap.size w).alloc (Nat.le_refl _) (.cells (wc (.slice y q cy) a b c) 33)
  have HB := Lib.hid hb0
  have HG := Lib.hid (hg.on hb0)
  have X0 := Lib.hid (Ret.Blk.new w (wc (.slice y q cy) a b c) 33)
  have HQ := Lib.hid hq
  clear h hg hq hb0
  obtain ⟨ok, hok⟩ : ∃ z, validN l = z := ⟨_, rfl⟩
  have HOK := Lib.hid hok
  go_enter Try.func93, Try.ntmps93
  go_wp2_with fail
  refine (implValidName _ l _ HG.out (by omega)).mono ?_
  rintro e w1 ⟨rfl, hb⟩
  rw [hok]
  have Y0 := Lib.hid (X0.out.on hb)
  have HB2 := Lib.hid (HB.out.trans (hb.mono HB.out.size)); clear hb X0 hok
  have q0 : w1.cell? ⟨w.heap.size, 0, none⟩ = some (.slice y q cy) := Y0.out.cell 0
  have q1 : w1.cell? ⟨w.heap.size, 1, none⟩ = some (.int .i64 a) := Y0.out.cell 1
  have q2 : w1.cell? ⟨w.heap.size, 2, none⟩ = some (.int .i64 b) := Y0.out.cell 2
  have q3 : w1.cell? ⟨w.heap.size, 3, none⟩ = some (.int .i64 c) := Y0.out.cell 3
  cases ok with
  | false =>
    have HV := Lib.hid (validW_no1 (x := (l, a, b, c)) HOK.out)
    go_wp2_with fail
    go_ret
    exact ⟨ret_bool HV.out.symm, HB2.out⟩
  | true =>
    by_cases h2 : 0 < q
    · have hd2 : decide ((0 : Int) < (q : Int)) = true := by simp; omega
      by_cases h3 : 0 ≤ a ∧ a ≤ 1000000
      · have HI3 := Lib.hid (fun wx => Num.implIn_true h3.1 h3.2 wx)
        have H3 := Lib.hid h3
        clear h3
        go_wp2_with fail
        refine (HI3.out _).mono ?_
        rintro e w' ⟨rfl, rfl⟩
        by_cases h4 : 0 ≤ b ∧ b ≤ 16
        · have HI4 := Lib.hid (fun wx => Num.implIn_true h4.1 h4.2 wx)
          have H4 := Lib.hid h4
          clear h4
          go_wp2_with fail
          refine (HI4.out _).mono ?_
          rintro e w' ⟨rfl, rfl⟩
          by_cases h5 : 1 ≤ c ∧ c ≤ 20
          · have HI5 := Lib.hid (fun wx => Num.implIn_true h5.1 h5.2 wx)
            have HV := Lib.hid (validW_yes (x := (l, a, b, c)) HOK.out (by rw [← HQ.out]; exact h2) H3.out H4.out h5)
            clear h5
            go_wp2_with fail
            refine (HI5.out _).mono ?_
            rintro e w' ⟨rfl, rfl⟩
            go_wp2_with fail
            go_ret
            exact ⟨ret_bool HV.out.symm, HB2.out⟩
          · have HI5 := Lib.hid (fun wx => Num.implIn_false h5 wx)
            have HV := Lib.hid (validW_no5 (x := (l, a, b, c)) h5)
            clear h5
            go_wp2_with fail
            refine (HI5.out _).mono ?_
            rintro e w' ⟨rfl, rfl⟩
            go_wp2_with fail
            go_ret
            exact ⟨ret_bool HV.out.symm, HB2.out⟩
        · have HI4 := Lib.hid (fun wx => Num.implIn_false h4 wx)
          have HV := Lib.hid (validW_no4 (x := (l, a, b, c)) h4)
          clear h4
          go_wp2_with fail
          refine (HI4.out _).mono ?_
          rintro e w' ⟨rfl, rfl⟩
          go_wp2_with fail
          go_ret
          exact ⟨ret_bool HV.out.symm, HB2.out⟩
      · have HI3 := Lib.hid (fun wx => Num.implIn_false h3 wx)
        have HV := Lib.hid (validW_no3 (x := (l, a, b, c)) h3)
        clear h3
        go_wp2_with fail
        refine (HI3.out _).mono ?_
        rintro e w' ⟨rfl, rfl⟩
        go_wp2_with fail
        go_ret
        exact ⟨ret_bool HV.out.symm, HB2.out⟩
    · have HV := Lib.hid (validW_no2 (x := (l, a, b, c)) (by rw [← HQ.out]; exact h2))
      have hd2 : decide ((0 : Int) < (q : Int)) = false := by simp; omega
      go_wp2_with fail
      go_ret
      exact ⟨ret_bool HV.out.symm, HB2.out⟩
end Go.Proofs.Ytjphnlkdbhcblaa.Row
/- Pending interests: what chapter 13's functions answer, as functions of lists. No conditions. -/
namespace Go.Proofs.Ytjphnlkdbhcblaa.Row
open Go.ChangeShapes Go.WideShapes Go.ChangeAt Go.RowKit Go.Instr
set_option linter.unusedVariables false
set_option linter.unusedSectionVars false
set_option maxRecDepth 100000
def isP (n : List ByteArray) (x : Pit) : Bool := decide (x.1 = n)
def isS (n : List ByteArray) (k : Int) (x : Snt) : Bool := decide (x.2 = k) && decide (x.1 = n)
def nnR (k : Int) (r : Rqt) : Bool := decide (r.2.1 = k)
def fcR (f : Int) (r : Rqt) : Bool := !decide (r.1 = f)
def gtR (f : Int) (r : Rqt) : Bool := decide (f < r.1)
def wtR (now : Int) (r : Rqt) : Bool := decide (now ≤ r.2.2)
def validQ (l : List Rqt) : Nat → Bool
  | 0 => true
  | k + 1 => validQ l k && (Num.inB (nth l k).1 0 6 && Num.inB (nth l k).2.1 0 1000000 && (decide (k = 0) || decide ((nth l (k - 1)).1 < (nth l k).1)))
def validQs (l : List Rqt) : Bool := validQ l l.length && decide (0 < l.length)
def validI (x : Pit) : Bool := validN x.1 && (decide (0 < x.1.length) && (validQs x.2.1 && Num.inB x.2.2 0 100000))
def vldP (l : List Pit) : Nat → Bool
  | 0 => true
  | k + 1 => vldP l k && (validI (nth l k) && !(l.take k).any (isP (nth l k).1))
def validPs (l : List Pit) : Bool := vldP l l.length && decide (l.length ≤ 12)
def loopR (n : List ByteArray) (k : Int) (x : Pit) : Bool := isP n x && x.2.1.any (nnR k)
def loopP (l : List Pit) (s : List Snt) (w : Wt) : Bool := l.any (loopR w.1 w.2.1) || s.any (isS w.1 w.2.1)
def hasPd (l : List Pit) (n : List ByteArray) : Bool := decide (0 ≤ ixL (isP n) l)
def putO (o : List Rqt) (a : Rqt) : List Rqt := o.takeWhile (fun r => !gtR a.1 r) ++ a :: o.dropWhile (fun r => !gtR a.1 r)
def putR (l : List Rqt) (a : Rqt) : List Rqt := putO (l.filter (fcR a.1)) a
def addOk (l : List Pit) (w : Wt) (f : Int) : Bool := validW w && Num.inB f 0 6 && (decide (0 ≤ ixL (isP w.1) l) || decide ((l.length : Int) < 12))
def askR (w : Wt) (f now : Int) : Rqt := (f, w.2.1, IntKind.i64.wrap (now + w.2.2.2))
def addP (l : List Pit) (w : Wt) (f now : Int) : List Pit :=
  if addOk l w f = true then
    if 0 ≤ ixL (isP w.1) l then l.set (ixL (isP w.1) l).toNat ((nth l (ixL (isP w.1) l).toNat).1, putR (nth l (ixL (isP w.1) l).toNat).2.1 (askR w f now), (nth l (ixL (isP w.1) l).toNat).2.2)
    else l ++ [(w.1, [askR w f now], 0)]
  else l
def lastP (l : List Pit) (n : List ByteArray) : Int := if 0 ≤ ixL (isP n) l then (nth l (ixL (isP n) l).toNat).2.2 else 0
def sentP (l : List Pit) (n : List ByteArray) (now : Int) : List Pit :=
  if 0 ≤ ixL (isP n) l then l.set (ixL (isP n) l).toNat ((nth l (ixL (isP n) l).toNat).1, (nth l (ixL (isP n) l).toNat).2.1, now) else l
def satP (l : List Pit) (n : List ByteArray) : List Pit := if 0 ≤ ixL (isP n) l then l.eraseIdx (ixL (isP n) l).toNat else l
def satR (l : List Pit) (n : List ByteArray) : List Rqt := if 0 ≤ ixL (isP n) l then (nth l (ixL (isP n) l).toNat).2.1 else []
def leftP (now : Int) (x : Pit) : Pit := (x.1, x.2.1.filter (wtR now), x.2.2)
def someR (x : Pit) : Bool := decide (0 < x.2.1.length)
def expP (l : List Pit) (now : Int) : List Pit := (l.map (leftP now)).filter someR
def seenS (s : List Snt) (n : List ByteArray) (k : Int) : List Snt := if 24 < (s ++ [(n, k)]).length then (s ++ [(n, k)]).drop 1 else s ++ [(n, k)]
def eqPs (x y : List Pit) : Bool := decide (x = y)
def putM (a : Rqt) (l : List Rqt) : List Rqt × Bool :=
  if l.any (gtR a.1) then (putR l a, true) else (l.filter (fcR a.1), false)
theorem any_gt_filter (a : Rqt) (l : List Rqt) : (l.filter (fcR a.1)).any (gtR a.1) = l.any (gtR a.1) := by
  induction l with
  | nil => rfl
  | cons r t ih =>
    rw [List.filter_cons]
    by_cases h : r.1 = a.1
    · have h1 : fcR a.1 r = false := by unfold fcR; simp [h]
      have h2 : gtR a.1 r = false := by unfold gtR; rw [h]; simp
      rw [h1, List.any_cons, h2]
      simpa using ih
    · have h1 : fcR a.1 r = true := by unfold fcR; simp [h]
      rw [h1, if_pos rfl, List.any_cons, List.any_cons, ih]
theorem tw_all {α : Type} {p : α → Bool} : ∀ {l : List α}, (∀ x ∈ l, p x = true) → l.takeWhile p = l ∧ l.dropWhile p = []
  | [], _ => ⟨rfl, rfl⟩
  | x :: r, h => by
    have h1 := h x (by simp)
    have ⟨a, b⟩ := tw_all (l := r) (fun y hy => h y (by simp [hy]))
    rw [List.takeWhile_cons, List.dropWhile_cons, h1, if_pos rfl, if_pos rfl, a, b]
    exact ⟨rfl, rfl⟩
theorem tw_app {α : Type} {p : α → Bool} {m : List α} : ∀ {l : List α}, (∀ x ∈ l, p x = true) → (l ++ m).takeWhile p = l ++ m.takeWhile p ∧ (l ++ m).dropWhile p = m.dropWhile p
  | [], _ => ⟨rfl, rfl⟩
  | x :: r, h => by
    have h1 := h x (by simp)
    have ⟨a, b⟩ := tw_app (m := m) (l := r) (fun y hy => h y (by simp [hy]))
    rw [List.cons_append, List.takeWhile_cons, List.dropWhile_cons, h1, if_pos rfl, if_pos rfl, a, b]
    exact ⟨rfl, rfl⟩
theorem tw_app2 {α : Type} {p : α → Bool} {m : List α} : ∀ {l : List α}, (∃ x ∈ l, p x = false) → (l ++ m).takeWhile p = l.takeWhile p ∧ (l ++ m).dropWhile p = l.dropWhile p ++ m
  | [], ⟨x, hx, _⟩ => by cases hx
  | x :: r, ⟨y, hy, hp⟩ => by
    rw [List.cons_append, List.takeWhile_cons, List.dropWhile_cons, List.takeWhile_cons, List.dropWhile_cons]
    cases h1 : p x with
    | false => exact ⟨rfl, rfl⟩
    | true =>
      have hy2 : y ∈ r := by
        rcases List.mem_cons.1 hy with e | e
        · subst e; rw [h1] at hp; cases hp
        · exact e
      have ⟨a, b⟩ := tw_app2 (m := m) (l := r) ⟨y, hy2, hp⟩
      simp only [if_pos, a, b]
      exact ⟨trivial, trivial⟩
theorem noGt {o : List Rqt} {a : Rqt} (h : o.any (gtR a.1) = false) : ∀ x ∈ o, (!gtR a.1 x) = true := fun x hx => by
  rw [List.any_eq_false] at h
  simpa using h x hx
theorem putO_none {o : List Rqt} {a : Rqt} (h : o.any (gtR a.1) = false) : putO o a = o ++ [a] := by
  unfold putO
  rw [(tw_all (noGt h)).1, (tw_all (noGt h)).2]
theorem putO_snoc {o : List Rqt} {a r : Rqt} (h : o.any (gtR a.1) = true) : putO (o ++ [r]) a = putO o a ++ [r] := by
  obtain ⟨x, hx, hx2⟩ := List.any_eq_true.1 h
  have h1 : ∃ x ∈ o, (!gtR a.1 x) = false := ⟨x, hx, by rw [hx2]; rfl⟩
  unfold putO
  rw [(tw_app2 h1).1, (tw_app2 h1).2]
  simp
theorem putO_last {o : List Rqt} {a r : Rqt} (h : o.any (gtR a.1) = false) (hr : gtR a.1 r = true) : putO (o ++ [r]) a = o ++ [a, r] := by
  unfold putO
  rw [(tw_app (noGt h)).1, (tw_app (noGt h)).2]
  simp [hr]
theorem putO_ix (o : List Rqt) (a : Rqt) : putO o a = if ixL (gtR a.1) o < 0 then o ++ [a] else o.take (ixL (gtR a.1) o).toNat ++ a :: o.drop (ixL (gtR a.1) o).toNat := by
  by_cases h : o.any (gtR a.1) = true
  · rw [any_ixL] at h
    have h0 : 0 ≤ ixL (gtR a.1) o := by simpa using h
    rw [if_neg (by omega)]
    obtain ⟨i, hi, e, hc, hno⟩ := (ixL_cases (gtR a.1) o).resolve_left (fun ⟨e, _⟩ => by omega)
    rw [e]
    simp only [Int.toNat_natCast]
    have hall : ∀ x ∈ o.take i, (!gtR a.1 x) = true := fun x hx => by
      obtain ⟨j, hj, rfl⟩ := List.mem_take_iff_getElem.1 hx
      have := hno j (by omega)
      rw [nth_eq (by omega)] at this
      simpa using this
    have hd : o.drop i = o[i] :: o.drop (i + 1) := (List.getElem_cons_drop hi).symm
    have hgi : gtR a.1 o[i] = true := by rw [nth_eq hi] at hc; exact hc
    have e2 : putO o a = putO (o.take i ++ o.drop i) a := by rw [List.take_append_drop]
    rw [e2]
    unfold putO
    rw [(tw_app hall).1, (tw_app hall).2, hd, List.takeWhile_cons, List.dropWhile_cons, hgi]
    simp only [Bool.not_true, Bool.false_eq_true, if_false, List.append_nil]
  · have h2 : o.any (gtR a.1) = false := by simpa using h
    rw [any_ixL] at h
    rw [if_pos (by simpa using h), putO_none h2]
theorem putM_step (a r : Rqt) (l : List Rqt) (o : List Rqt) (d : Bool) (h : putM a l = (o, d)) :
    putM a (l ++ [r]) = ((if !d && gtR a.1 r then o ++ [a] else o) ++ (if fcR a.1 r then [r] else []), d || gtR a.1 r) := by
  unfold putM at h ⊢
  by_cases hl : l.any (gtR a.1) = true
  · rw [if_pos hl] at h
    injection h with h1 h2
    subst h1; subst h2
    rw [if_pos (by rw [List.any_append, hl]; rfl)]
    have hf : (l.filter (fcR a.1)).any (gtR a.1) = true := by rw [any_gt_filter]; exact hl
    unfold putR
    rw [List.filter_append]
    cases hc : fcR a.1 r with
    | true =>
      rw [show [r].filter (fcR a.1) = [r] by simp [hc], putO_snoc hf]
      simp
    | false =>
      rw [show [r].filter (fcR a.1) = [] by simp [hc]]
      simp
  · rw [if_neg hl] at h
    injection h with h1 h2
    subst h1; subst h2
    have hl2 : l.any (gtR a.1) = false := by simpa using hl
    have hf : (l.filter (fcR a.1)).any (gtR a.1) = false := by rw [any_gt_filter]; exact hl2
    cases hg : gtR a.1 r with
    | true =>
      have hc : fcR a.1 r = true := by
        unfold gtR at hg
        unfold fcR
        simp only [decide_eq_true_eq] at hg
        simp
        omega
      rw [if_pos (by rw [List.any_append, hl2]; simp [hg])]
      unfold putR
      rw [List.filter_append, show [r].filter (fcR a.1) = [r] by simp [hc], putO_last hf hg]
      simp [hc]
    | false =>
      rw [if_neg (by rw [List.any_append, hl2]; simp [hg])]
      rw [List.filter_append]
      cases hc : fcR a.1 r with
      | true => simp [hc]
      | false => simp [hc]
theorem putM_end (a : Rqt) (l o : List Rqt) (d : Bool) (h : putM a l = (o, d)) : (if d then o else o ++ [a]) = putR l a := by
  unfold putM at h
  by_cases hl : l.any (gtR a.1) = true
  · rw [if_pos hl] at h
    injection h with h1 h2
    subst h1; subst h2
    rfl
  · rw [if_neg hl] at h
    injection h with h1 h2
    subst h1; subst h2
    have hf : (l.filter (fcR a.1)).any (gtR a.1) = false := by rw [any_gt_filter]; simpa using hl
    unfold putR
    rw [putO_none hf]
    rfl
theorem putM_len (a : Rqt) (l o : List Rqt) (d : Bool) (h : putM a l = (o, d)) : o.length ≤ l.length + 1 := by
  unfold putM at h
  have hfl := List.length_filter_le (fcR a.1) l
  split at h
  · injection h with h1 h2
    subst h1
    unfold putR putO
    have e : (List.takeWhile (fun r => !gtR a.1 r) (l.filter (fcR a.1))).length + (List.dropWhile (fun r => !gtR a.1 r) (l.filter (fcR a.1))).length = (l.filter (fcR a.1)).length := by
      rw [← List.length_append, List.takeWhile_append_dropWhile]
    simp only [List.length_append, List.length_cons]
    omega
  · injection h with h1 h2
    subst h1
    omega
theorem putR_len (l : List Rqt) (a : Rqt) : (putR l a).length ≤ l.length + 1 := by
  have hfl := List.length_filter_le (fcR a.1) l
  unfold putR putO
  have e : (List.takeWhile (fun r => !gtR a.1 r) (l.filter (fcR a.1))).length + (List.dropWhile (fun r => !gtR a.1 r) (l.filter (fcR a.1))).length = (l.filter (fcR a.1)).length := by
    rw [← List.length_append, List.takeWhile_append_dropWhile]
  simp only [List.length_append, List.length_cons]
  omega
end Go.Proofs.Ytjphnlkdbhcblaa.Row
/- An element of the list of pending interests and its parts; contracts of the numbers in letters. No conditions. -/
namespace Go.Proofs.Ytjphnlkdbhcblaa.Row
open Go.ChangeShapes Go.WideShapes Go.ChangeAt Go.RowKit Go.Instr
set_option linter.unusedVariables false
set_option maxRecDepth 100000
theorem kPi_parts {w : World} {x0 x1 : Option Addr} {n0 c0 n1 c1 : Nat} {u : Int} {x : Pit} (h : kPi.At w (.agg #[.slice x0 n0 c0, .slice x1 n1 c1, .int .i64 u]) x) :
    kN.At w (.agg #[.slice x0 n0 c0]) x.1 ∧ kLRq.At w (.slice x1 n1 c1) x.2.1 := by
  obtain ⟨a0, b0, d0, a1, b1, d1, e, h0, h1⟩ := kPi_at h
  simp only [Value.agg.injEq, Array.mk.injEq, List.cons.injEq, Value.slice.injEq, Value.int.injEq, and_true, true_and] at e
  obtain ⟨⟨rfl, rfl, rfl⟩, ⟨rfl, rfl, rfl⟩, rfl⟩ := e
  exact ⟨h0, h1⟩
theorem noRow_kRq (e : TypeId) : kRq.NoRow e := Kd.noRow_scalar.pair (Kd.noRow_scalar.pair Kd.noRow_scalar)
theorem noRow_kNe (e : TypeId) (h1 : 9 ≠ e) : kN.NoRow e := (Kd.NoRow.slice (e' := 9) Kd.noRow_scalar h1).wrap
theorem noRow_kLRq (e : TypeId) (h1 : 91 ≠ e) : kLRq.NoRow e := Kd.NoRow.slice (e' := 91) (noRow_kRq e) h1
theorem noRow_kPi : kPi.NoRow 101 := (noRow_kNe _ (by decide)).pair ((noRow_kLRq _ (by decide)).pair Kd.noRow_scalar)
theorem wtPi_lens {x : Pit} {n : Nat} (h : wtPi x ≤ n) : bulk x.1 ≤ n ∧ x.2.1.length ≤ n := by
  have h1 := bulkK_Rq x.2.1
  unfold wtPi at h
  omega
theorem sInP {n a b : Int} (z : Bool) (hz : Num.inB n a b = z) {w : World} : Calls Try.prog 76 #[.int .i64 n, .int .i64 a, .int .i64 b] w fun e w' => e = .returned (.bool z) ∧ Below w.heap.size w w' := (Num.specIn n a b w).mono fun e w' ⟨p, q⟩ => ⟨by rw [p, hz], by subst q; exact Below.refl _ _⟩
theorem iInP {n a b : Int} (z : Bool) (hz : Num.inB n a b = z) {w : World} : Calls Try.prog 94 #[.int .i64 n, .int .i64 a, .int .i64 b] w fun e w' => e = .returned (.bool z) ∧ Below w.heap.size w w' := (Num.implInRange n a b w).mono fun e w' ⟨p, q⟩ => ⟨by rw [p, hz], by subst q; exact Below.refl _ _⟩
def FitP (l : List Pit) : Prop := bulkK wtPi l ≤ 1100000
theorem FitP.len {l : List Pit} (h : FitP l) : l.length ≤ 1100000 := Nat.le_trans (bulkK_len wtPi l) h
theorem FitP.len9 {l : List Pit} (h : FitP l) : l.length ≤ 9000000 := Nat.le_trans h.len (by decide)
theorem FitP.each {l : List Pit} (h : FitP l) : ∀ e ∈ l, wtPi e ≤ 1200000 := fun e he => Nat.le_trans (bulkK_mem he) (Nat.le_trans h (by decide))
def FitS (l : List Snt) : Prop := bulkK wtSn l ≤ 1100000
theorem FitS.len {l : List Snt} (h : FitS l) : l.length ≤ 1100000 := Nat.le_trans (bulkK_len wtSn l) h
theorem FitS.len9 {l : List Snt} (h : FitS l) : l.length ≤ 9000000 := Nat.le_trans h.len (by decide)
theorem FitS.each {l : List Snt} (h : FitS l) : ∀ e ∈ l, bulk e.1 ≤ 1200000 := fun e he => Nat.le_trans (bulkK_mem (f := wtSn) he) (Nat.le_trans h (by decide))
end Go.Proofs.Ytjphnlkdbhcblaa.Row
/- Lists that lie as rows of the call's own: a part of a row, an element more, an append within the room, a clearing behind the end; closures while a row is written. For any kind and any program. No conditions but that lengths fit. -/
namespace Go.Proofs.Ytjphnlkdbhcblaa.Row
open Go.ChangeShapes Go.WideShapes Go.ChangeAt Go.RowKit Go.Instr
set_option linter.unusedVariables false
set_option linter.unusedSectionVars false
set_option maxRecDepth 100000
theorem take_nx {α : Type} [Inhabited α] {l : List α} {k : Nat} (h : k < l.length) : l.take (k + 1) = l.take k ++ [nth l k] := by rw [List.take_succ_eq_append_getElem h, nth_eq h]
theorem filter_nx {α : Type} [Inhabited α] {p : α → Bool} {l : List α} {k : Nat} (h : k < l.length) (hp : p (nth l k) = true) : (l.take (k + 1)).filter p = (l.take k).filter p ++ [nth l k] := by
  rw [take_nx h, List.filter_append]; simp [hp]
theorem filter_sk {α : Type} [Inhabited α] {p : α → Bool} {l : List α} {k : Nat} (h : k < l.length) (hp : p (nth l k) = false) : (l.take (k + 1)).filter p = (l.take k).filter p := by
  rw [take_nx h, List.filter_append]; simp [hp]
section
variable {α M : Type} {k : Kd α M} {B C E E' : Nat} {e : TypeId} {w w' : World} {m : M}
theorem Kd.Own.upto (h : k.Own B w.heap.size w m) (hb : Below w.heap.size w w') : k.Own B w'.heap.size w' m := (h.on hb).mono (Nat.le_refl _) hb.size
end
section
variable {P : Program} {α : Type} {enc : α → List Value} {sz : Nat} {e t : TypeId} {bytes : Nat} {z : Value}
end
def ClosR {α M : Type} (P : Program) (k : Kd α M) (fid : FuncId) (cap : Array Value) (p : α → Bool) (ok : α → Prop) (w : World) (row : Option Nat) : Prop :=
  ∀ (x : α) (V : Value) (W : World), w.grownBy W row → k.At W V x → ok x → Calls P fid (#[V] ++ cap) W fun e w' => e = .returned (.bool (p x)) ∧ Below W.heap.size W w'
theorem ClosR.plain {α M : Type} {P : Program} {k : Kd α M} {fid : FuncId} {cap : Array Value} {p : α → Bool} {ok : α → Prop} {w : World} {row : Option Nat} (h : ClosR P k fid cap p ok w row) : ClosK P k fid cap p ok w := fun x V W hW => h x V W (Sl.grown_of_below hW row)
structure MidK {M : Type} [Inhabited M] (q : M → Bool) (L L' : List M) (i j : Nat) : Prop where
  len : L'.length = L.length
  head : L'.take i = (L.take j).filter q
  rest : ∀ r, j ≤ r → r < L.length → nth L' r = nth L r
  lt : i < j
theorem MidK.keep {M : Type} [Inhabited M] {q : M → Bool} {L L' : List M} {i j : Nat} (h : MidK q L L' i j) (hj : j < L.length) (hq : q (nth L j) = true) : MidK q L (L'.set i (nth L j)) (i + 1) (j + 1) := by
  have h1 := h.len
  have h2 := h.lt
  refine ⟨by simp [h1], ?_, fun r hr hr2 => ?_, by omega⟩
  · rw [List.take_succ_eq_append_getElem (by simp; omega), List.getElem_set_self, List.take_set_of_le (Nat.le_refl _), h.head, filter_nx hj hq]
  · rw [← h.rest r (by omega) hr2]
    simp only [nth, List.getD]
    rw [List.getElem?_set_ne (by omega)]
theorem MidK.skip {M : Type} [Inhabited M] {q : M → Bool} {L L' : List M} {i j : Nat} (h : MidK q L L' i j) (hj : j < L.length) (hq : q (nth L j) = false) : MidK q L L' i (j + 1) := by
  refine ⟨h.len, ?_, fun r hr hr2 => h.rest r (by omega) hr2, by have := h.lt; omega⟩
  rw [h.head, filter_sk hj hq]
theorem step_appKv {P : Program} {ops : Array Oper} {o : Oper} {a : Act} {w : World} {K : Act → World → Prop} {Q : Exit → Act → World → Prop} {E : Prop} {α : Type} {enc : α → List Value} {sz : Nat} {e t : TypeId} {bytes : Nat} {z : Value}
    (KD : Kind P e enc z sz bytes) (hg : o.guard = none) (s x : Operand) (hop : o.op = Op.call { callee := Callee.builtin Builtin.append, args := #[s, x], argTypes := #[t, t] }) (ht : P.underlying t = some (.slice e))
    {B : Nat} {v vx : Value} {l m : List α} (hs : a.eval s = v) (hx : a.eval x = vx) (hown : OwnK e enc sz B w v l) (hsrc : HoldsK enc sz w vx m) (hlen : (l.length + m.length) * bytes ≤ 140737488355328) (hmx : l.length + m.length ≤ maxLen) (hB : B ≤ w.heap.size)
    (hK : ∀ v' w', OwnK e enc sz B w' v' (l ++ m) → w.grownBy w' v.ownBlock → K (a.put o.dst v') w') :
    if Region.wanted o (yielded ops a.tmps) = true then Oper.wp P o a w K Q else E := by
  obtain ⟨ao, cap, rfl, hcap, hc⟩ := hsrc
  have hsrc : HoldsK enc sz w (.slice ao m.length cap) m := ⟨ao, cap, rfl, hcap, hc⟩
  cases ao with
  | some ad => exact step_appK KD hg s x hop ht hs hx hown hsrc hlen hmx hB hK
  | none =>
    rcases hc with rfl | ⟨b, off, hc, _⟩
    · obtain ⟨i, h1, h2, h3, h4⟩ := info_parts KD.elem
      have hw : Region.wanted o (yielded ops a.tmps) = true := by simp [Region.wanted, hg]
      rw [if_pos hw]
      have hrun : (Builtin.append_ #[t, t] o.type #[v, .slice none 0 cap]).run P w = .ok v w := by
        rcases hown.2 with ⟨rfl, hn⟩ | ⟨g, cap', cur, rfl, _, _, hnc, _⟩
        · simp [Builtin.append_, run_underlying ht, sizeOf, typeInfo, h1, Builtin.lenOf, Builtin.firstCells]
        · simp [Builtin.append_, run_underlying ht, sizeOf, typeInfo, h1, Builtin.lenOf, Builtin.firstCells, hnc, storeCells]
      have hx' : a.eval x = .slice none 0 cap := by simpa using hx
      unfold Oper.wp
      simp [execOp, hop, resolve, invoke, builtin, hs, hx', hrun, Result.andThen]
      exact hK v w (by simpa using hown) (World.grownBy.refl _ _)
    · cases hc
end Go.Proofs.Ytjphnlkdbhcblaa.Row
/- Copies: what they need. No conditions. -/
namespace Go.Proofs.Ytjphnlkdbhcblaa.Row
open Go.ChangeShapes Go.WideShapes Go.ChangeAt Go.RowKit Go.Instr
set_option linter.unusedVariables false
set_option maxRecDepth 100000
theorem one_k {α M : Type} {k : Kd α M} (hs : Sz k.cells k.size) {e : TypeId} {W : World} {m : M} {cs : List Value} (hd : k.cells m = cs) : HoldsK k.cells k.size (W.alloc (.cells cs.toArray e)) (.slice (some ⟨W.heap.size, 0, none⟩) 1 1) [m] := by
  subst hd
  exact holdsK_one hs e W m
theorem one_kg {α M : Type} {k : Kd α M} (hs : Sz k.cells k.size) {e : TypeId} {W : World} {m : M} {cs : List Value} {g : Nat} (hd : k.cells m = cs) (hg : g = W.heap.size) : HoldsK k.cells k.size (W.alloc (.cells cs.toArray e)) (.slice (some ⟨g, 0, none⟩) 1 1) [m] := by
  subst hg
  exact one_k hs hd
theorem Kd.Own.top {α M : Type} {k : Kd α M} {B E : Nat} {w : World} {m : M} (h : k.Own B E w m) : ∀ g ∈ k.blocks m, g < w.heap.size := fun g hg => (h.lt g hg).2.2
theorem Kd.Own.cap {α M : Type} {k : Kd α M} {B E : Nat} {w : World} {m : M} (h : k.Own B E w m) : k.Own B w.heap.size w m := ⟨h.1, h.2.1, fun g hg => (h.lt g hg).2.2⟩
theorem pi_join {B E E' : Nat} {w : World} {m1 : Rw ByteArray} {m2 : Rw Rqm} {u : Int} (h : kN.Own B E w m1) (g : kLRq.Own B E' w m2) (hd : ∀ q ∈ kN.blocks m1, q ∉ kLRq.blocks m2) (N : Nat) (h1 : ∀ g ∈ kN.blocks m1, g < N) (h2 : ∀ g ∈ kLRq.blocks m2, g < N) : kPi.Own B N w ((m1, m2, u) : Pim) := by
  have hn : kN.Own B N w m1 := ⟨h.1, h.2.1, h1⟩
  have hq : kLRq.Own B N w m2 := ⟨g.1, g.2.1, h2⟩
  have hr : (kLRq.pair kInt).Own B N w (m2, u) := Kd.Own.join hq (Kd.own_scalar _ _ _ _) (fun q _ h => by cases h)
  refine Kd.Own.join hn hr (fun q hq1 hq2 => ?_)
  rcases List.mem_append.1 (show q ∈ kLRq.blocks m2 ++ kInt.blocks u from hq2) with h | h
  · exact hd q hq1 h
  · cases h
theorem kN_splitP {B E : Nat} {w : World} {V : Value} {x : List ByteArray} (h : kN.In B E w V x) : ∃ (m1 : Rw ByteArray) (ya : Option Addr) (ma da : Nat), V = .agg #[.slice ya ma da] ∧ kN.strip m1 = x ∧ kN.cells m1 = [.slice ya ma da] ∧ kN.Own B E w m1 := by
  obtain ⟨m1, rfl, rfl, ho⟩ := h.split
  obtain ⟨ya, ma, da, e, -⟩ := kN_shapeA (Kd.at_of (k := kN) ho.holds)
  exact ⟨m1, ya, ma, da, e, rfl, by injection e with e; exact congrArg Array.toList e, ho⟩
theorem kLRq_of {w : World} {ad : Option Addr} {n cap : Nat} {L : List Rqm} (h : HoldsK kRq.cells 3 w (.slice ad n cap) L) : kLRq.At w (.slice ad n cap) (L.map kRq.strip) := ⟨⟨ad, n, cap, L⟩, rfl, rfl, h, fun y _ => ⟨trivial, trivial, trivial⟩⟩
theorem rq_map (L : List Rqm) : L.map kRq.strip = L := by
  rw [show kRq.strip = id from rfl]
  exact List.map_id L
theorem kLRq_own {B E : Nat} {w : World} {x : Option Addr} {n c : Nat} {L : List Rqm} (h : OwnK 91 kRq.cells 3 B w (.slice x n c) L) (hE : w.heap.size ≤ E) : kLRq.Own B E w ⟨x, n, c, L⟩ := by
  have hb : kLRq.blocks ⟨x, n, c, L⟩ = (Value.slice x n c).ownBlock.toList := by
    show (Value.slice x n c).ownBlock.toList ++ L.flatMap kRq.blocks = _
    have : L.flatMap kRq.blocks = [] := by
      rw [List.flatMap_eq_nil_iff]; intro y _; rfl
    rw [this, List.append_nil]
  refine ⟨⟨h, fun y _ => ⟨trivial, trivial, trivial⟩⟩, ?_, ?_⟩
  · rw [hb]; cases (Value.slice x n c).ownBlock <;> simp
  · rw [hb]
    intro g hg
    have := (h.lt g (by simpa using hg)).2
    omega
set_option maxHeartbeats 2000000 in
theorem iClnQ (V : Value) (l : List Rqt) (w : World) (h : kLRq.At w V l) (hl : l.length ≤ 9000000) :
    Calls Try.prog 126 #[V] w fun e w' => ∃ U, e = .returned U ∧ kLRq.In w.heap.size w'.heap.size w' U l ∧ Below w.heap.size w w' := by
  obtain ⟨x, n, c, L, rfl, hn, ht, hh, hel⟩ := kLRq_at h
  have hlen : l.length = L.length := by rw [← ht, List.length_map]
  have hL9 : L.length ≤ 9000000 := by omega
  have HT := Lib.hid ht
  subst hn
  cases x with
  | none =>
    have hl0 : L = [] := by
      obtain ⟨x', cap', hv, hc', hh'⟩ := hh
      cases hv
      rcases hh' with h1 | ⟨b, off, h1, _⟩
      · exact h1
      · cases h1
    subst hl0
    have hq : ∀ w : World, (binOp .eql 68 (.slice none 0 c) (.slice none 0 0)).run Try.prog w = .ok (.bool true) w := fun w => by
      exact Lib.run_eql_slice_nil w _ _ _ _ _ _ _ Try.underlying68
    clear hh h hel ht hlen
    simp only [List.length_nil]
    go_enter Try.func126, Try.ntmps126
    go_wp2
    go_ret
    exact ⟨_, rfl, HT.out ▸ (kLRq_own (OwnK.nil _ _ _ _ _) (Nat.le_refl _)).in, Below.refl _ _⟩
  | some ad =>
    have HB := Lib.hid ((Below.refl w.heap.size w).alloc (Nat.le_refl _) (.cells #[] 91))
    have HH := Lib.hid (hh.on HB.out)
    have HO := Lib.hid (ownK_empty kRq.cells 3 91 w)
    have hq : ∀ w : World, (binOp .eql 68 (.slice (some ad) L.length c) (.slice none 0 0)).run Try.prog w = .ok (.bool false) w := fun w => by
      exact Lib.run_eql_slice_nil w _ _ _ _ _ _ _ Try.underlying68
    clear hh h hel ht hlen
    go_enter Try.func126, Try.ntmps126
    go_wp2_with (at_builtin; refine wpList_appK kindRq (B := w.heap.size) (l := []) (m := L) rfl _ _ rfl Try.underlying68 rfl rfl HO.out HH.out (by simp; omega) (by unfold maxLen; simp; omega) (by simp) ?_)
    intro v2 w2 ho hg
    obtain ⟨x2, n2, c2, rfl, -, -, ho⟩ := ho.shapeN
    have HO2 := Lib.hid ho; have HB2 := Lib.hid (HB.out.grown hg (by simp) (fun g hh => (HO.out.lt g hh).1))
    clear ho hg
    go_wp2_with fail
    go_ret
    exact ⟨_, rfl, HT.out ▸ (kLRq_own HO2.out (Nat.le_refl _)).in, HB2.out⟩
end Go.Proofs.Ytjphnlkdbhcblaa.Row
/- Copies: the regions that append one element. No conditions but that lengths fit. -/
namespace Go.Proofs.Ytjphnlkdbhcblaa.Row
open Go.ChangeShapes Go.WideShapes Go.ChangeAt Go.RowKit Go.Instr
set_option linter.unusedVariables false
set_option maxRecDepth 100000
set_option maxRecDepth 100000 in
set_option maxHeartbeats 4000000 in
theorem rcp {Q : Exit → Act → World → Prop} {v0 v1 v2 v4 v6 v7 v8 v9 v10 v11 v12 v13 v14 v15 v16 v17 v18 v19 v20 v21 v22 v23 v24 v25 v26 v27 v28 : Value} {w : World} {Lu : List Pim} {B nu cu : Nat} {xu : Option Addr} (HBW : Hid (B ≤ w.heap.size)) (HLM : Hid (Lu.length ≤ 1100000)) {p n0 c0 n1 c1 : Nat} {x0 x1 : Option Addr} {ls : Int} {nm : List ByteArray} {rq : List Rqt} (HOL : Hid (kLPi.Own B w.heap.size w ⟨xu, nu, cu, Lu⟩)) (HPR : Hid (some p ≠ (Value.slice xu nu cu).ownBlock)) (H_n : Hid (kN.At w (.agg #[.slice x0 n0 c0]) nm)) (H_q : Hid (kLRq.At w (.slice x1 n1 c1) rq)) (HNB : Hid (bulk nm ≤ 1200000)) (HRB : Hid (rq.length ≤ 1200000)) (K0 : Hid (w.cell? ⟨p, 0, none⟩ = some (.slice x0 n0 c0))) (K1 : Hid (w.cell? ⟨p, 1, none⟩ = some (.slice x1 n1 c1))) (K2 : Hid (w.cell? ⟨p, 2, none⟩ = some (.int .i64 ls)))
  (hQ : ∀ (u15 u16 u17 u18 u19 u20 u21 u22 u23 u24 u25 u26 : Value) (x4 : Option Addr) (n4 c4 : Nat) (mm : Pim)  (wx : World), Hid (kPi.strip mm = (nm, rq, ls)) → Hid (kLPi.Own B wx.heap.size wx ⟨x4, n4, c4, Lu ++ [mm]⟩) → Below B w wx → Q .normal ⟨#[v0, v1, v2, .slice x4 n4 c4, v4, .pointer (some ⟨p, 0, none⟩), v6, v7, v8, v9, v10, v11, v12, v13, v14, u15, u16, u17, u18, u19, u20, u21, u22, u23, u24, u25, u26, v27, v28], []⟩ wx) :
  (Code.region 5 #[⟨some 15, .move (.tmp 3), 35, "l13_pend.go:146", #[], none⟩,
   ⟨some 16, .fieldAddr 101 (.tmp 5) 0, 0, "l13_pend.go:146", #[], none⟩,
   ⟨some 17, .load 27 (.tmp 16), 27, "l13_pend.go:146", #[⟨1, .data⟩], none⟩,
   ⟨some 18, .call ⟨.value (.func 95), #[.tmp 17], #[27]⟩, 27, "l13_pend.go:146", #[⟨2, .data⟩], none⟩,
   ⟨some 19, .fieldAddr 101 (.tmp 5) 1, 0, "l13_pend.go:146", #[], none⟩,
   ⟨some 20, .load 68 (.tmp 19), 68, "l13_pend.go:146", #[⟨4, .data⟩], none⟩,
   ⟨some 21, .call ⟨.value (.func 126), #[.tmp 20], #[68]⟩, 68, "l13_pend.go:146", #[⟨5, .data⟩, ⟨3, .chain⟩], none⟩,
   ⟨some 22, .fieldAddr 101 (.tmp 5) 2, 0, "l13_pend.go:146", #[], none⟩,
   ⟨some 23, .load 3 (.tmp 22), 3, "l13_pend.go:146", #[⟨7, .data⟩], none⟩,
   ⟨some 24, .build 101 #[(0, .tmp 18), (1, .tmp 21), (2, .tmp 23)], 101, "l13_pend.go:146", #[⟨3, .data⟩, ⟨6, .data⟩, ⟨8, .data⟩], none⟩,
   ⟨some 25, .buildSlice 35 1 #[(0, .tmp 24)], 35, "l13_pend.go:146", #[⟨9, .data⟩], none⟩,
   ⟨some 26, .call ⟨.builtin .append, #[.tmp 15, .tmp 25], #[35, 35]⟩, 35, "l13_pend.go:146", #[⟨0, .data⟩, ⟨10, .data⟩, ⟨6, .chain⟩], none⟩,
   ⟨some 3, .assign (.tmp 26), 35, "l13_pend.go:146", #[⟨11, .data⟩, ⟨11, .chain⟩, ⟨0, .phase⟩, ⟨1, .phase⟩, ⟨2, .phase⟩, ⟨3, .phase⟩, ⟨4, .phase⟩, ⟨5, .phase⟩, ⟨6, .phase⟩, ⟨7, .phase⟩, ⟨8, .phase⟩, ⟨9, .phase⟩, ⟨10, .phase⟩, ⟨11, .phase⟩], none⟩] true).wp Try.prog Q ⟨#[v0, v1, v2, .slice xu nu cu, v4, .pointer (some ⟨p, 0, none⟩), v6, v7, v8, v9, v10, v11, v12, v13, v14, v15, v16, v17, v18, v19, v20, v21, v22, v23, v24, v25, v26, v27, v28], []⟩ w := by
 have HQ := Lib.hid hQ; clear hQ
 have hdr : Below w.heap.size w w.drew := (Below.refl _ _).drew
 have BB := Lib.hid hdr
 have BX := Lib.hid (BB.out.mono HBW.out)
 refine wp_region_noPanic ?_
 refine wp_region_held_drew (S := (fun w' => w'.cell? ⟨p, 0, none⟩ = some (.slice x0 n0 c0) ∧ w'.cell? ⟨p, 1, none⟩ = some (.slice x1 n1 c1) ∧ w'.cell? ⟨p, 2, none⟩ = some (.int .i64 ls))) (by kernel_rfl) ?_ (fun hHeld => ?_)
 ·
  exact ⟨kc K0.out BB.out, kc K1.out BB.out, kc K2.out BB.out⟩
 clear hdr
 generalize w.drew = wd at *
 refine wpAnyH_take (i := 0) (oi := ⟨some 15, .move (.tmp 3), 35, "l13_pend.go:146", #[], none⟩) (v := ?_) rfl (by kernel_rfl) (by kernel_rfl) (by kernel_rfl) (fun _ _ _ h => h) (Or.inl ⟨by rfl, ?_⟩) (by assumption) ?_
 rotate_left
 ·
  intro w' hSw; (try dsimp only at hSw); first | (go_simp; done) | (go_simp; with_reducible rfl)
 (try simp only [Act.put, Row.pB0, Row.pB1, Row.pB2])
 refine wpAnyH_take (i := 1) (oi := ⟨some 16, .fieldAddr 101 (.tmp 5) 0, 0, "l13_pend.go:146", #[], none⟩) (v := ?_) rfl (by kernel_rfl) (by kernel_rfl) (by kernel_rfl) (fun _ _ _ h => h) (Or.inl ⟨by rfl, ?_⟩) (by assumption) ?_
 rotate_left
 ·
  intro w' hSw; (try dsimp only at hSw); first | (go_simp; done) | (go_simp; with_reducible rfl)
 (try simp only [Act.put, Row.pB0, Row.pB1, Row.pB2])
 refine wpAnyH_take (i := 2) (oi := ⟨some 17, .load 27 (.tmp 16), 27, "l13_pend.go:146", #[⟨1, .data⟩], none⟩) (v := ?_) rfl (by kernel_rfl) (by kernel_rfl) (by kernel_rfl) (fun _ _ _ h => h) (Or.inl ⟨by rfl, ?_⟩) (by assumption) ?_
 rotate_left
 ·
  intro w' hSw; (try dsimp only at hSw); first | (go_simp; done) | (go_simp; with_reducible rfl)
 (try simp only [Act.put, Row.pB0, Row.pB1, Row.pB2])
 refine wpAnyH_take (i := 4) (oi := ⟨some 19, .fieldAddr 101 (.tmp 5) 1, 0, "l13_pend.go:146", #[], none⟩) (v := ?_) rfl (by kernel_rfl) (by kernel_rfl) (by kernel_rfl) (fun _ _ _ h => h) (Or.inl ⟨by rfl, ?_⟩) (by assumption) ?_
 rotate_left
 ·
  intro w' hSw; (try dsimp only at hSw); first | (go_simp; done) | (go_simp; with_reducible rfl)
 (try simp only [Act.put, Row.pB0, Row.pB1, Row.pB2])
 refine wpAnyH_take (i := 5) (oi := ⟨some 20, .load 68 (.tmp 19), 68, "l13_pend.go:146", #[⟨4, .data⟩], none⟩) (v := ?_) rfl (by kernel_rfl) (by kernel_rfl) (by kernel_rfl) (fun _ _ _ h => h) (Or.inl ⟨by rfl, ?_⟩) (by assumption) ?_
 rotate_left
 ·
  intro w' hSw; (try dsimp only at hSw); first | (go_simp; done) | (go_simp; with_reducible rfl)
 (try simp only [Act.put, Row.pB0, Row.pB1, Row.pB2])
 refine wpAnyH_take (i := 7) (oi := ⟨some 22, .fieldAddr 101 (.tmp 5) 2, 0, "l13_pend.go:146", #[], none⟩) (v := ?_) rfl (by kernel_rfl) (by kernel_rfl) (by kernel_rfl) (fun _ _ _ h => h) (Or.inl ⟨by rfl, ?_⟩) (by assumption) ?_
 rotate_left
 ·
  intro w' hSw; (try dsimp only at hSw); first | (go_simp; done) | (go_simp; with_reducible rfl)
 (try simp only [Act.put, Row.pB0, Row.pB1, Row.pB2])
 refine wpAnyH_take (i := 8) (oi := ⟨some 23, .load 3 (.tmp 22), 3, "l13_pend.go:146", #[⟨7, .data⟩], none⟩) (v := ?_) rfl (by kernel_rfl) (by kernel_rfl) (by kernel_rfl) (fun _ _ _ h => h) (Or.inl ⟨by rfl, ?_⟩) (by assumption) ?_
 rotate_left
 ·
  intro w' hSw; (try dsimp only at hSw); first | (go_simp; done) | (go_simp; with_reducible rfl)
 (try simp only [Act.put, Row.pB0, Row.pB1, Row.pB2])
 refine wpAnyH_ready (rs := [3]) (by kernel_rfl) (by simp) ?_
 refine AllReadyH.cons (o := ⟨some 18, .call ⟨.value (.func 95), #[.tmp 17], #[27]⟩, 27, "l13_pend.go:146", #[⟨2, .data⟩], none⟩) rfl (fun K hK => ?_) AllReadyH.nil
 go_simp
 refine (iCpyN (H_n.out.on BB.out) (Nat.le_trans HNB.out (by decide))).mono ?_
 rintro e wn1 ⟨U1, rfl, hi, hb⟩
 obtain ⟨m1, rfl, hs1, hi⟩ := hi.split
 obtain ⟨ya, ma, da, e1, -⟩ := kN_shapeA (Kd.at_of (k := kN) hi.holds)
 have hd1 : kN.cells m1 = [.slice ya ma da] := by injection e1 with e; exact congrArg Array.toList e
 rw [e1]
 (first | have HDJ := Lib.hid (show ∀ g ∈ kN.blocks m1, g ∉ kLRq.blocks m2 from fun g h1 h2 => by have h5 := (hi.lt g h1).1; have h6 := (OQ.out.lt g h2).2.2; omega) | skip)
 have ON := Lib.hid (hi.mono BB.out.size (Nat.le_refl _)); have HS1 := Lib.hid hs1; have HD1 := Lib.hid hd1
 clear hi hs1 hd1 e1
 replace BB := Lib.hid (BB.out.trans (hb.mono BB.out.size))
 replace BX := Lib.hid (BX.out.trans (hb.mono (Nat.le_trans HBW.out BX.out.size)))
 clear hb
 (try go_wp2_with fail)
 clear hHeld
 refine hK.out _ _ ?_ (fun hHeld => ?_)
 ·
  (try dsimp only); exact ⟨kc K0.out BB.out, kc K1.out BB.out, kc K2.out BB.out⟩
 clear hK K
 (try simp only [Act.put, Row.pB0, Row.pB1, Row.pB2])
 refine wpAnyH_ready (rs := [6]) (by kernel_rfl) (by simp) ?_
 refine AllReadyH.cons (o := ⟨some 21, .call ⟨.value (.func 126), #[.tmp 20], #[68]⟩, 68, "l13_pend.go:146", #[⟨5, .data⟩, ⟨3, .chain⟩], none⟩) rfl (fun K hK => ?_) AllReadyH.nil
 go_simp
 refine (iClnQ _ rq _ (H_q.out.on BB.out) (Nat.le_trans HRB.out (by decide))).mono ?_
 rintro e wn2 ⟨U2, rfl, hi, hb⟩
 obtain ⟨m2, rfl, hs2, hi⟩ := hi.split
 obtain ⟨yb, mb, db, e2, -⟩ := kLRq_shapeA (Kd.at_of (k := kLRq) hi.holds)
 have hd2 : kLRq.cells m2 = [.slice yb mb db] := by show [kLRq.val m2] = _; rw [e2]
 rw [e2]
 (first | have HDJ := Lib.hid (show ∀ g ∈ kN.blocks m1, g ∉ kLRq.blocks m2 from fun g h1 h2 => by have h5 := (hi.lt g h2).1; have h6 := (ON.out.lt g h1).2.2; omega) | skip)
 have OQ := Lib.hid (hi.mono BB.out.size (Nat.le_refl _)); have HS2 := Lib.hid hs2; have HD2 := Lib.hid hd2
 clear hi hs2 hd2 e2
 replace ON := Lib.hid (ON.out.on hb)
 replace BB := Lib.hid (BB.out.trans (hb.mono BB.out.size))
 replace BX := Lib.hid (BX.out.trans (hb.mono (Nat.le_trans HBW.out BX.out.size)))
 clear hb
 (try go_wp2_with fail)
 clear hHeld
 refine hK.out _ _ ?_ (fun hHeld => ?_)
 ·
  (try dsimp only); exact ⟨kc K0.out BB.out, kc K1.out BB.out, kc K2.out BB.out⟩
 clear hK K
 (try simp only [Act.put, Row.pB0, Row.pB1, Row.pB2])
 refine wpAnyH_take (i := 9) (oi := ⟨some 24, .build 101 #[(0, .tmp 18), (1, .tmp 21), (2, .tmp 23)], 101, "l13_pend.go:146", #[⟨3, .data⟩, ⟨6, .data⟩, ⟨8, .data⟩], none⟩) (v := ?_) rfl (by kernel_rfl) (by kernel_rfl) (by kernel_rfl) (fun _ _ _ h => h) (Or.inl ⟨by rfl, ?_⟩) (by assumption) ?_
 rotate_left
 ·
  intro w' hSw; (try dsimp only at hSw); first | (go_simp; done) | (go_simp; with_reducible rfl)
 (try simp only [Act.put, Row.pB0, Row.pB1, Row.pB2])
 refine wpAnyH_ready (rs := [10]) (by kernel_rfl) (by simp) ?_
 refine AllReadyH.cons (o := ⟨some 25, .buildSlice 35 1 #[(0, .tmp 24)], 35, "l13_pend.go:146", #[⟨9, .data⟩], none⟩) rfl (fun K hK => ?_) AllReadyH.nil
 go_simp
 have hb : Below wn2.heap.size wn2 (wn2.alloc (.cells #[.slice ya ma da, .slice yb mb db, .int .i64 (ls)] 101)) := (Below.refl _ _).alloc (Nat.le_refl _) _
 have HSO := Lib.hid (one_k (k := kPi) szPi_cells (e := 101) (W := wn2) (m := ((m1, m2, ls) : Pim)) (cs := [.slice ya ma da, .slice yb mb db, .int .i64 (ls)]) (by show kN.cells m1 ++ (kLRq.cells m2 ++ kInt.cells (ls)) = _; rw [HD1.out, HD2.out]; rfl))
 have HMM := Lib.hid ((pi_join (u := ls) ON.out OQ.out HDJ.out wn2.heap.size ON.out.top OQ.out.top).on hb)
 replace ON := Lib.hid (ON.out.on hb)
 replace OQ := Lib.hid (OQ.out.on hb)
 replace BB := Lib.hid (BB.out.trans (hb.mono BB.out.size))
 replace BX := Lib.hid (BX.out.trans (hb.mono (Nat.le_trans HBW.out BX.out.size)))
 clear hb
 generalize wn2.alloc (.cells #[.slice ya ma da, .slice yb mb db, .int .i64 (ls)] 101) = wn3 at *
 clear hHeld
 refine hK.out _ _ ?_ (fun hHeld => ?_)
 ·
  (try dsimp only); exact ⟨kc K0.out BB.out, kc K1.out BB.out, kc K2.out BB.out⟩
 clear hK K
 (try simp only [Act.put, Row.pB0, Row.pB1, Row.pB2])
 refine wpAnyH_ready (rs := [11]) (by kernel_rfl) (by simp) ?_
 refine AllReadyH.cons (o := ⟨some 26, .call ⟨.builtin .append, #[.tmp 15, .tmp 25], #[35, 35]⟩, 35, "l13_pend.go:146", #[⟨0, .data⟩, ⟨10, .data⟩, ⟨6, .chain⟩], none⟩) rfl (fun K hK => ?_) AllReadyH.nil
 refine step_appK kindPi (B := B) (v := .slice xu nu cu) (l := Lu) (m := [((m1, m2, ls) : Pim)]) rfl _ _ (by rfl) Try.underlying35 (by rfl) (by rfl) ?_ ?_ ?_ ?_ ?_ ?_
 ·
  exact (HOL.out.on BB.out).1.1
 ·
  exact HSO.out
 ·
  have h5 := HLM.out; simp; omega
 ·
  have h5 := HLM.out; unfold maxLen; simp; omega
 ·
  exact Nat.le_trans HBW.out BB.out.size
 intro v4 wn4 ho4 hg4
 obtain ⟨x4, n4, c4, rfl, -, -, ho4⟩ := ho4.shapeN
 have HO4 := Lib.hid (Kd.push_later noRow_kPi (r := ⟨xu, nu, cu, Lu⟩) (HOL.out.on BB.out) HMM.out HBW.out ho4 hg4)
 replace BX := Lib.hid (BX.out.grown hg4 (Nat.le_trans HBW.out BX.out.size) (fun g e => ((HOL.out.on BB.out).1.1.lt g e).1))
 have k0_ := hg4.cell (kc K0.out BB.out) HPR.out
 have k1_ := hg4.cell (kc K1.out BB.out) HPR.out
 have k2_ := hg4.cell (kc K2.out BB.out) HPR.out
 clear ho4 hg4
 clear hHeld
 refine hK.out _ _ ?_ (fun hHeld => ?_)
 ·
  (try dsimp only); exact ⟨k0_, k1_, k2_⟩
 clear hK K k0_ k1_ k2_
 (try simp only [Act.put, Row.pB0, Row.pB1, Row.pB2])
 refine wpAnyH_take (i := 12) (oi := ⟨some 3, .assign (.tmp 26), 35, "l13_pend.go:146", #[⟨11, .data⟩, ⟨11, .chain⟩, ⟨0, .phase⟩, ⟨1, .phase⟩, ⟨2, .phase⟩, ⟨3, .phase⟩, ⟨4, .phase⟩, ⟨5, .phase⟩, ⟨6, .phase⟩, ⟨7, .phase⟩, ⟨8, .phase⟩, ⟨9, .phase⟩, ⟨10, .phase⟩, ⟨11, .phase⟩], none⟩) (v := ?_) rfl (by kernel_rfl) (by kernel_rfl) (by kernel_rfl) (fun _ _ _ h => h) (Or.inl ⟨by rfl, ?_⟩) (by assumption) ?_
 rotate_left
 ·
  intro w' hSw; (try dsimp only at hSw); first | (go_simp; done) | (go_simp; with_reducible rfl)
 (try simp only [Act.put, Row.pB0, Row.pB1, Row.pB2])
 refine wpAnyH_done (by kernel_rfl) ?_ _
 exact NoPanic.normal (HQ.out _ _ _ _ _ _ _ _ _ _ _ _ x4 n4 c4 (m1, m2, ls) _ (Lib.hid (by show (kN.strip m1, kLRq.strip m2, ls) = _; rw [HS1.out, HS2.out])) HO4 BX.out)
set_option maxRecDepth 100000 in
set_option maxHeartbeats 4000000 in
theorem rcm {Q : Exit → Act → World → Prop} {v1 v2 v6 v7 v8 v9 v10 v11 v12 v13 v14 v15 v16 v17 v18 v19 v20 v21 v22 v23 v24 v25 v26 v27 v28 v29 v30 v31 v32 v33 v34 v35 v36 : Value} {w : World} {Lu : List Pim} {B nu cu : Nat} {xu : Option Addr} (HBW : Hid (B ≤ w.heap.size)) (HLM : Hid (Lu.length ≤ 1100000)) {p b off n c k n0 c0 n1 c1 E1 C1 : Nat} {x0 x1 : Option Addr} {ls : Int} {nm : List ByteArray} {m1 : Rw ByteArray} {rq : List Rqt} (hk : k < n) (hkc : k ≤ c) (hn : n ≤ 9000000) (HOL : Hid (kLPi.Own B C1 w ⟨xu, nu, cu, Lu⟩)) (HC0 : Hid (B ≤ C1)) (HC1 : Hid (C1 ≤ w.heap.size)) (HPR : Hid (some p ≠ (Value.slice xu nu cu).ownBlock)) (HBR : Hid (some b ≠ (Value.slice xu nu cu).ownBlock)) (ON : Hid (kN.Own C1 E1 w m1)) (HS1 : Hid (kN.strip m1 = nm)) (HD1 : Hid (kN.cells m1 = [.slice x0 n0 c0])) (H_q : Hid (HoldsK kRq.cells 3 w (.slice x1 n1 c1) rq)) (HRB : Hid (rq.length ≤ 1200000)) (K0 : Hid (w.cell? ⟨p, 0, none⟩ = some (.slice x0 n0 c0))) (K1 : Hid (w.cell? ⟨b, off + k * 3 + 1, none⟩ = some (.slice x1 n1 c1))) (K2 : Hid (w.cell? ⟨b, off + k * 3 + 2, none⟩ = some (.int .i64 ls)))
  (hQ : ∀ (u19 u20 u21 u22 u23 u24 u25 u26 u27 u28 u29 u30 u31 u32 u33 u34 u35 : Value) (x4 : Option Addr) (n4 c4 : Nat) (mm : Pim)  (wx : World), Hid (kPi.strip mm = (nm, rq, ls)) → Hid (kLPi.Own B wx.heap.size wx ⟨x4, n4, c4, Lu ++ [mm]⟩) → Below B w wx → Q .normal ⟨#[.slice (some ⟨b, off, none⟩) n c, v1, v2, .slice x4 n4 c4, .int .i64 k, .pointer (some ⟨p, 0, none⟩), v6, v7, v8, v9, v10, v11, v12, v13, v14, v15, v16, v17, v18, u19, u20, u21, u22, u23, u24, u25, u26, u27, u28, u29, u30, u31, u32, u33, u34, u35, v36], []⟩ wx) :
  (Code.region 6 #[⟨some 19, .move (.tmp 3), 35, "l13_pend.go:36", #[], none⟩,
   ⟨some 20, .load 27 (.tmp 5), 27, "l13_pend.go:36", #[], none⟩,
   ⟨some 21, .buildSlice 68 0 #[], 68, "l13_pend.go:36", #[], none⟩,
   ⟨some 22, .move (.tmp 0), 35, "l13_pend.go:36", #[], none⟩,
   ⟨some 23, .move (.tmp 4), 3, "l13_pend.go:36", #[], none⟩,
   ⟨some 24, .indexAddr 35 (.tmp 22) (.tmp 23), 0, "l13_pend.go:36", #[⟨3, .data⟩, ⟨4, .data⟩], none⟩,
   ⟨some 25, .fieldAddr 101 (.tmp 24) 1, 0, "l13_pend.go:36", #[⟨5, .data⟩], none⟩,
   ⟨some 26, .load 68 (.tmp 25), 68, "l13_pend.go:36", #[⟨6, .data⟩], none⟩,
   ⟨some 27, .call ⟨.builtin .append, #[.tmp 21, .tmp 26], #[68, 68]⟩, 68, "l13_pend.go:36", #[⟨2, .data⟩, ⟨7, .data⟩], none⟩,
   ⟨some 28, .move (.tmp 0), 35, "l13_pend.go:36", #[], none⟩,
   ⟨some 29, .move (.tmp 4), 3, "l13_pend.go:36", #[], none⟩,
   ⟨some 30, .indexAddr 35 (.tmp 28) (.tmp 29), 0, "l13_pend.go:36", #[⟨9, .data⟩, ⟨10, .data⟩], none⟩,
   ⟨some 31, .fieldAddr 101 (.tmp 30) 2, 0, "l13_pend.go:36", #[⟨11, .data⟩], none⟩,
   ⟨some 32, .load 3 (.tmp 31), 3, "l13_pend.go:36", #[⟨12, .data⟩], none⟩,
   ⟨some 33, .build 101 #[(0, .tmp 20), (1, .tmp 27), (2, .tmp 32)], 101, "l13_pend.go:36", #[⟨1, .data⟩, ⟨8, .data⟩, ⟨13, .data⟩], none⟩,
   ⟨some 34, .buildSlice 35 1 #[(0, .tmp 33)], 35, "l13_pend.go:36", #[⟨14, .data⟩], none⟩,
   ⟨some 35, .call ⟨.builtin .append, #[.tmp 19, .tmp 34], #[35, 35]⟩, 35, "l13_pend.go:36", #[⟨0, .data⟩, ⟨15, .data⟩, ⟨8, .chain⟩], none⟩,
   ⟨some 3, .assign (.tmp 35), 35, "l13_pend.go:36", #[⟨16, .data⟩, ⟨16, .chain⟩, ⟨0, .phase⟩, ⟨1, .phase⟩, ⟨2, .phase⟩, ⟨3, .phase⟩, ⟨4, .phase⟩, ⟨5, .phase⟩, ⟨6, .phase⟩, ⟨7, .phase⟩, ⟨8, .phase⟩, ⟨9, .phase⟩, ⟨10, .phase⟩, ⟨11, .phase⟩, ⟨12, .phase⟩, ⟨13, .phase⟩, ⟨14, .phase⟩, ⟨15, .phase⟩, ⟨16, .phase⟩], none⟩] true).wp Try.prog Q ⟨#[.slice (some ⟨b, off, none⟩) n c, v1, v2, .slice xu nu cu, .int .i64 k, .pointer (some ⟨p, 0, none⟩), v6, v7, v8, v9, v10, v11, v12, v13, v14, v15, v16, v17, v18, v19, v20, v21, v22, v23, v24, v25, v26, v27, v28, v29, v30, v31, v32, v33, v34, v35, v36], []⟩ w := by
 have HQ := Lib.hid hQ; clear hQ
 have hdr : Below w.heap.size w w.drew := (Below.refl _ _).drew
 have BB := Lib.hid hdr
 have BX := Lib.hid (BB.out.mono HBW.out)
 refine wp_region_noPanic ?_
 refine wp_region_held_drew (S := (fun w' => w'.cell? ⟨p, 0, none⟩ = some (.slice x0 n0 c0) ∧ w'.cell? ⟨b, off + k * 3 + 1, none⟩ = some (.slice x1 n1 c1) ∧ w'.cell? ⟨b, off + k * 3 + 2, none⟩ = some (.int .i64 ls))) (by kernel_rfl) ?_ (fun hHeld => ?_)
 ·
  exact ⟨kc K0.out BB.out, kc K1.out BB.out, kc K2.out BB.out⟩
 clear hdr
 generalize w.drew = wd at *
 refine wpAnyH_take (i := 0) (oi := ⟨some 19, .move (.tmp 3), 35, "l13_pend.go:36", #[], none⟩) (v := ?_) rfl (by kernel_rfl) (by kernel_rfl) (by kernel_rfl) (fun _ _ _ h => h) (Or.inl ⟨by rfl, ?_⟩) (by assumption) ?_
 rotate_left
 ·
  intro w' hSw; (try dsimp only at hSw); first | (go_simp; done) | (go_simp; with_reducible rfl)
 (try simp only [Act.put, Row.pB0, Row.pB1, Row.pB2])
 refine wpAnyH_take (i := 1) (oi := ⟨some 20, .load 27 (.tmp 5), 27, "l13_pend.go:36", #[], none⟩) (v := ?_) rfl (by kernel_rfl) (by kernel_rfl) (by kernel_rfl) (fun _ _ _ h => h) (Or.inl ⟨by rfl, ?_⟩) (by assumption) ?_
 rotate_left
 ·
  intro w' hSw; (try dsimp only at hSw); first | (go_simp; done) | (go_simp; with_reducible rfl)
 (try simp only [Act.put, Row.pB0, Row.pB1, Row.pB2])
 refine wpAnyH_take (i := 3) (oi := ⟨some 22, .move (.tmp 0), 35, "l13_pend.go:36", #[], none⟩) (v := ?_) rfl (by kernel_rfl) (by kernel_rfl) (by kernel_rfl) (fun _ _ _ h => h) (Or.inl ⟨by rfl, ?_⟩) (by assumption) ?_
 rotate_left
 ·
  intro w' hSw; (try dsimp only at hSw); first | (go_simp; done) | (go_simp; with_reducible rfl)
 (try simp only [Act.put, Row.pB0, Row.pB1, Row.pB2])
 refine wpAnyH_take (i := 4) (oi := ⟨some 23, .move (.tmp 4), 3, "l13_pend.go:36", #[], none⟩) (v := ?_) rfl (by kernel_rfl) (by kernel_rfl) (by kernel_rfl) (fun _ _ _ h => h) (Or.inl ⟨by rfl, ?_⟩) (by assumption) ?_
 rotate_left
 ·
  intro w' hSw; (try dsimp only at hSw); first | (go_simp; done) | (go_simp; with_reducible rfl)
 (try simp only [Act.put, Row.pB0, Row.pB1, Row.pB2])
 refine wpAnyH_take (i := 5) (oi := ⟨some 24, .indexAddr 35 (.tmp 22) (.tmp 23), 0, "l13_pend.go:36", #[⟨3, .data⟩, ⟨4, .data⟩], none⟩) (v := ?_) rfl (by kernel_rfl) (by kernel_rfl) (by kernel_rfl) (fun _ _ _ h => h) (Or.inl ⟨by rfl, ?_⟩) (by assumption) ?_
 rotate_left
 ·
  intro w' hSw; (try dsimp only at hSw); first | (go_simp; done) | (go_simp; with_reducible rfl)
 (try simp only [Act.put, Row.pB0, Row.pB1, Row.pB2])
 refine wpAnyH_take (i := 6) (oi := ⟨some 25, .fieldAddr 101 (.tmp 24) 1, 0, "l13_pend.go:36", #[⟨5, .data⟩], none⟩) (v := ?_) rfl (by kernel_rfl) (by kernel_rfl) (by kernel_rfl) (fun _ _ _ h => h) (Or.inl ⟨by rfl, ?_⟩) (by assumption) ?_
 rotate_left
 ·
  intro w' hSw; (try dsimp only at hSw); first | (go_simp; done) | (go_simp; with_reducible rfl)
 (try simp only [Act.put, Row.pB0, Row.pB1, Row.pB2])
 refine wpAnyH_take (i := 7) (oi := ⟨some 26, .load 68 (.tmp 25), 68, "l13_pend.go:36", #[⟨6, .data⟩], none⟩) (v := ?_) rfl (by kernel_rfl) (by kernel_rfl) (by kernel_rfl) (fun _ _ _ h => h) (Or.inl ⟨by rfl, ?_⟩) (by assumption) ?_
 rotate_left
 ·
  intro w' hSw; (try dsimp only at hSw); first | (go_simp; done) | (go_simp; with_reducible rfl)
 (try simp only [Act.put, Row.pB0, Row.pB1, Row.pB2])
 refine wpAnyH_take (i := 9) (oi := ⟨some 28, .move (.tmp 0), 35, "l13_pend.go:36", #[], none⟩) (v := ?_) rfl (by kernel_rfl) (by kernel_rfl) (by kernel_rfl) (fun _ _ _ h => h) (Or.inl ⟨by rfl, ?_⟩) (by assumption) ?_
 rotate_left
 ·
  intro w' hSw; (try dsimp only at hSw); first | (go_simp; done) | (go_simp; with_reducible rfl)
 (try simp only [Act.put, Row.pB0, Row.pB1, Row.pB2])
 refine wpAnyH_take (i := 10) (oi := ⟨some 29, .move (.tmp 4), 3, "l13_pend.go:36", #[], none⟩) (v := ?_) rfl (by kernel_rfl) (by kernel_rfl) (by kernel_rfl) (fun _ _ _ h => h) (Or.inl ⟨by rfl, ?_⟩) (by assumption) ?_
 rotate_left
 ·
  intro w' hSw; (try dsimp only at hSw); first | (go_simp; done) | (go_simp; with_reducible rfl)
 (try simp only [Act.put, Row.pB0, Row.pB1, Row.pB2])
 refine wpAnyH_take (i := 11) (oi := ⟨some 30, .indexAddr 35 (.tmp 28) (.tmp 29), 0, "l13_pend.go:36", #[⟨9, .data⟩, ⟨10, .data⟩], none⟩) (v := ?_) rfl (by kernel_rfl) (by kernel_rfl) (by kernel_rfl) (fun _ _ _ h => h) (Or.inl ⟨by rfl, ?_⟩) (by assumption) ?_
 rotate_left
 ·
  intro w' hSw; (try dsimp only at hSw); first | (go_simp; done) | (go_simp; with_reducible rfl)
 (try simp only [Act.put, Row.pB0, Row.pB1, Row.pB2])
 refine wpAnyH_take (i := 12) (oi := ⟨some 31, .fieldAddr 101 (.tmp 30) 2, 0, "l13_pend.go:36", #[⟨11, .data⟩], none⟩) (v := ?_) rfl (by kernel_rfl) (by kernel_rfl) (by kernel_rfl) (fun _ _ _ h => h) (Or.inl ⟨by rfl, ?_⟩) (by assumption) ?_
 rotate_left
 ·
  intro w' hSw; (try dsimp only at hSw); first | (go_simp; done) | (go_simp; with_reducible rfl)
 (try simp only [Act.put, Row.pB0, Row.pB1, Row.pB2])
 refine wpAnyH_take (i := 13) (oi := ⟨some 32, .load 3 (.tmp 31), 3, "l13_pend.go:36", #[⟨12, .data⟩], none⟩) (v := ?_) rfl (by kernel_rfl) (by kernel_rfl) (by kernel_rfl) (fun _ _ _ h => h) (Or.inl ⟨by rfl, ?_⟩) (by assumption) ?_
 rotate_left
 ·
  intro w' hSw; (try dsimp only at hSw); first | (go_simp; done) | (go_simp; with_reducible rfl)
 (try simp only [Act.put, Row.pB0, Row.pB1, Row.pB2])
 refine wpAnyH_ready (rs := [2]) (by kernel_rfl) (by simp) ?_
 refine AllReadyH.cons (o := ⟨some 21, .buildSlice 68 0 #[], 68, "l13_pend.go:36", #[], none⟩) rfl (fun K hK => ?_) AllReadyH.nil
 go_simp
 have hb : Below wd.heap.size wd (wd.alloc (.cells #[] 91)) := (Below.refl _ _).alloc (Nat.le_refl _) _
 have HOE := Lib.hid (ownK_empty kRq.cells 3 91 wd)
 obtain ⟨gE, hgE⟩ : ∃ g, g = wd.heap.size := ⟨_, rfl⟩
 rw [← hgE] at HOE ⊢
 have HGE := Lib.hid (show w.heap.size ≤ gE from by rw [hgE]; exact BB.out.size)
 clear hgE
 replace BB := Lib.hid (BB.out.trans (hb.mono BB.out.size))
 replace BX := Lib.hid (BX.out.trans (hb.mono (Nat.le_trans HBW.out BX.out.size)))
 clear hb
 generalize wd.alloc (.cells #[] 91) = wn1 at *
 clear hHeld
 refine hK.out _ _ ?_ (fun hHeld => ?_)
 ·
  (try dsimp only); exact ⟨kc K0.out BB.out, kc K1.out BB.out, kc K2.out BB.out⟩
 clear hK K
 (try simp only [Act.put, Row.pB0, Row.pB1, Row.pB2])
 refine wpAnyH_ready (rs := [8]) (by kernel_rfl) (by simp) ?_
 refine AllReadyH.cons (o := ⟨some 27, .call ⟨.builtin .append, #[.tmp 21, .tmp 26], #[68, 68]⟩, 68, "l13_pend.go:36", #[⟨2, .data⟩, ⟨7, .data⟩], none⟩) rfl (fun K hK => ?_) AllReadyH.nil
 refine step_appKv kindRq (B := gE) (v := .slice (some ⟨gE, 0, none⟩) 0 0) (l := []) (m := rq) rfl _ _ (by rfl) Try.underlying68 (by rfl) (by rfl) ?_ ?_ ?_ ?_ ?_ ?_
 ·
  with_reducible exact HOE.out
 ·
  exact (H_q.out.on BB.out)
 ·
  have h5 := HRB.out; simp; omega
 ·
  have h5 := HRB.out; unfold maxLen; simp; omega
 ·
  exact Nat.le_of_lt (HOE.out.lt gE rfl).2
 intro v5 wn2 ho5 hg5
 obtain ⟨yb, mb, db, rfl, -, -, ho5⟩ := ho5.shapeN
 have OQ := Lib.hid (kLRq_own (E := wn2.heap.size) ho5 (Nat.le_refl _))
 have hb5 : Below w.heap.size wn1 wn2 := (Below.refl _ _).grown hg5 BB.out.size (fun g e => by cases e; exact HGE.out)
 replace BB := Lib.hid (BB.out.trans hb5); replace BX := Lib.hid (BX.out.trans (hb5.mono HBW.out))
 clear ho5 hg5 hb5
 clear hHeld
 refine hK.out _ _ ?_ (fun hHeld => ?_)
 ·
  (try dsimp only); exact ⟨kc K0.out BB.out, kc K1.out BB.out, kc K2.out BB.out⟩
 clear hK K
 (try simp only [Act.put, Row.pB0, Row.pB1, Row.pB2])
 refine wpAnyH_take (i := 14) (oi := ⟨some 33, .build 101 #[(0, .tmp 20), (1, .tmp 27), (2, .tmp 32)], 101, "l13_pend.go:36", #[⟨1, .data⟩, ⟨8, .data⟩, ⟨13, .data⟩], none⟩) (v := ?_) rfl (by kernel_rfl) (by kernel_rfl) (by kernel_rfl) (fun _ _ _ h => h) (Or.inl ⟨by rfl, ?_⟩) (by assumption) ?_
 rotate_left
 ·
  intro w' hSw; (try dsimp only at hSw); first | (go_simp; done) | (go_simp; with_reducible rfl)
 (try simp only [Act.put, Row.pB0, Row.pB1, Row.pB2])
 refine wpAnyH_ready (rs := [15]) (by kernel_rfl) (by simp) ?_
 refine AllReadyH.cons (o := ⟨some 34, .buildSlice 35 1 #[(0, .tmp 33)], 35, "l13_pend.go:36", #[⟨14, .data⟩], none⟩) rfl (fun K hK => ?_) AllReadyH.nil
 go_simp
 have hb : Below wn2.heap.size wn2 (wn2.alloc (.cells #[.slice x0 n0 c0, .slice yb mb db, .int .i64 ls] 101)) := (Below.refl _ _).alloc (Nat.le_refl _) _
 have HSO := Lib.hid (one_k (k := kPi) szPi_cells (e := 101) (W := wn2) (m := ((m1, ⟨yb, mb, db, [] ++ rq⟩, ls) : Pim)) (cs := [.slice x0 n0 c0, .slice yb mb db, .int .i64 ls]) (by show kN.cells m1 ++ ([.slice yb mb db] ++ kInt.cells ls) = _; rw [HD1.out]; rfl))
 have HMM := Lib.hid ((pi_join (u := ls) (ON.out.on BB.out) (OQ.out.mono (Nat.le_trans HC1.out HGE.out) (Nat.le_refl _)) (fun g h1 h2 => by have h5 := (ON.out.lt g h1).2.2; have h6 := (OQ.out.lt g h2).1; have h7 := HGE.out; omega) wn2.heap.size (ON.out.on BB.out).top OQ.out.top).on hb)
 replace OQ := Lib.hid (OQ.out.on hb)
 replace BB := Lib.hid (BB.out.trans (hb.mono BB.out.size))
 replace BX := Lib.hid (BX.out.trans (hb.mono (Nat.le_trans HBW.out BX.out.size)))
 clear hb
 generalize wn2.alloc (.cells #[.slice x0 n0 c0, .slice yb mb db, .int .i64 ls] 101) = wn3 at *
 clear hHeld
 refine hK.out _ _ ?_ (fun hHeld => ?_)
 ·
  (try dsimp only); exact ⟨kc K0.out BB.out, kc K1.out BB.out, kc K2.out BB.out⟩
 clear hK K
 (try simp only [Act.put, Row.pB0, Row.pB1, Row.pB2])
 refine wpAnyH_ready (rs := [16]) (by kernel_rfl) (by simp) ?_
 refine AllReadyH.cons (o := ⟨some 35, .call ⟨.builtin .append, #[.tmp 19, .tmp 34], #[35, 35]⟩, 35, "l13_pend.go:36", #[⟨0, .data⟩, ⟨15, .data⟩, ⟨8, .chain⟩], none⟩) rfl (fun K hK => ?_) AllReadyH.nil
 refine step_appK kindPi (B := B) (v := .slice xu nu cu) (l := Lu) (m := [((m1, ⟨yb, mb, db, [] ++ rq⟩, ls) : Pim)]) rfl _ _ (by rfl) Try.underlying35 (by rfl) (by rfl) ?_ ?_ ?_ ?_ ?_ ?_
 ·
  exact (HOL.out.on BB.out).1.1
 ·
  exact HSO.out
 ·
  have h5 := HLM.out; simp; omega
 ·
  have h5 := HLM.out; unfold maxLen; simp; omega
 ·
  exact Nat.le_trans HBW.out BB.out.size
 intro v4 wn4 ho4 hg4
 obtain ⟨x4, n4, c4, rfl, -, -, ho4⟩ := ho4.shapeN
 have HO4 := Lib.hid (Kd.push_later noRow_kPi (r := ⟨xu, nu, cu, Lu⟩) (HOL.out.on BB.out) HMM.out HC0.out ho4 hg4)
 replace BX := Lib.hid (BX.out.grown hg4 (Nat.le_trans HBW.out BX.out.size) (fun g e => ((HOL.out.on BB.out).1.1.lt g e).1))
 have k0_ := hg4.cell (kc K0.out BB.out) HPR.out
 have k1_ := hg4.cell (kc K1.out BB.out) HBR.out
 have k2_ := hg4.cell (kc K2.out BB.out) HBR.out
 clear ho4 hg4
 clear hHeld
 refine hK.out _ _ ?_ (fun hHeld => ?_)
 ·
  (try dsimp only); exact ⟨k0_, k1_, k2_⟩
 clear hK K k0_ k1_ k2_
 (try simp only [Act.put, Row.pB0, Row.pB1, Row.pB2])
 refine wpAnyH_take (i := 17) (oi := ⟨some 3, .assign (.tmp 35), 35, "l13_pend.go:36", #[⟨16, .data⟩, ⟨16, .chain⟩, ⟨0, .phase⟩, ⟨1, .phase⟩, ⟨2, .phase⟩, ⟨3, .phase⟩, ⟨4, .phase⟩, ⟨5, .phase⟩, ⟨6, .phase⟩, ⟨7, .phase⟩, ⟨8, .phase⟩, ⟨9, .phase⟩, ⟨10, .phase⟩, ⟨11, .phase⟩, ⟨12, .phase⟩, ⟨13, .phase⟩, ⟨14, .phase⟩, ⟨15, .phase⟩, ⟨16, .phase⟩], none⟩) (v := ?_) rfl (by kernel_rfl) (by kernel_rfl) (by kernel_rfl) (fun _ _ _ h => h) (Or.inl ⟨by rfl, ?_⟩) (by assumption) ?_
 rotate_left
 ·
  intro w' hSw; (try dsimp only at hSw); first | (go_simp; done) | (go_simp; with_reducible rfl)
 (try simp only [Act.put, Row.pB0, Row.pB1, Row.pB2])
 refine wpAnyH_done (by kernel_rfl) ?_ _
 exact NoPanic.normal (HQ.out _ _ _ _ _ _ _ _ _ _ _ _ _ _ _ _ _ x4 n4 c4 (m1, ⟨yb, mb, db, [] ++ rq⟩, ls) _ (Lib.hid (by show (kN.strip m1, List.map kRq.strip ([] ++ rq), ls) = _; rw [HS1.out, rq_map]; rfl)) HO4 BX.out)
end Go.Proofs.Ytjphnlkdbhcblaa.Row
/- Copies of lists of pending interests and of seen nonces, model and program. No conditions but that lengths fit. -/
namespace Go.Proofs.Ytjphnlkdbhcblaa.Row
open Go.ChangeShapes Go.WideShapes Go.ChangeAt Go.RowKit Go.Instr
set_option linter.unusedVariables false
set_option maxRecDepth 100000
theorem kLRq_holds {w : World} {x : Option Addr} {n c : Nat} {l : List Rqt} (h : kLRq.At w (.slice x n c) l) : HoldsK kRq.cells 3 w (.slice x n c) l := by
  obtain ⟨ad, n', cap, L, e, hn, ht, hh, -⟩ := kLRq_at h
  cases e
  rw [rq_map] at ht
  exact ht ▸ hh
set_option maxHeartbeats 8000000 in
theorem iCopyP (V : Value) (l : List Pit) (w : World) (h : kLPi.At w V l) (hf : FitP l) :
    Calls Try.prog 92 #[V] w fun e w' => ∃ U, e = .returned U ∧ kLPi.In w.heap.size w'.heap.size w' U l ∧ Below w.heap.size w w' := by
  have hl := hf.len
  have hp := hf.each
  obtain ⟨x, n, cx, L, rfl, hn, ht, hh, hel⟩ := kLPi_at h
  have hlen : l.length = n := by rw [← ht, List.length_map]; exact hn.symm
  rw [hlen] at hl
  have hcap : n ≤ cx := by obtain ⟨x', n', cap', hv, hn', hc', -⟩ := hh.shapeN; cases hv; exact hc'
  have HN := Lib.hid hn; have HT := Lib.hid ht; have HH := Lib.hid hh; have HEL := Lib.hid hel; have HLEN := Lib.hid hlen; have HP := Lib.hid hp
  clear hn ht hh hel hlen hp h
  obtain ⟨i0, hi, hz0, hz1, hz2⟩ := info_parts kindPi.elem
  have HI := Lib.hid hi; have HZ0 := Lib.hid hz0; have HZ1 := Lib.hid hz1; have HZ2 := Lib.hid hz2
  clear hi hz0 hz1 hz2
  go_enter Try.func92, Try.ntmps92
  go_wp2_with (at_make; refine wpList_make_own _ rfl _ _ 35 rfl w.heap.size 101 i0 (.agg #[.slice none 0 0, .slice none 0 0, .int .i64 0]) 3 Try.underlying35 HI.out HZ0.out HZ1.out _ _ _ n rfl rfl rfl (by rw [HZ2.out]; omega) (by unfold maxLen; omega) (Nat.le_refl _) ?_)
  intro w9 hown hgrow
  have HB := Lib.hid ((Below.refl w.heap.size w).grown hgrow (Nat.le_refl _) (fun g hg => by cases hg))
  have HO := Lib.hid (show kLPi.Own w.heap.size w9.heap.size w9 ⟨some ⟨w.heap.size, 0, none⟩, 0, n, []⟩ from Kd.own_row hown rfl)
  clear hown hgrow HI HZ0 HZ1 HZ2
  go_wp2
  go_loopw [3, 11] (fun uv iv wr => ∃ k : Nat, k ≤ n ∧ iv = .int .i64 k ∧ ∃ xu nu cu Lu, uv = .slice xu nu cu ∧ Hid (Lu.length = k) ∧ Hid (Lu.map kPi.strip = l.take k) ∧ Hid (kLPi.Own w.heap.size wr.heap.size wr ⟨xu, nu, cu, Lu⟩) ∧ Hid (Below w.heap.size w wr)) (fun _ iv _ => n - (intOf iv).toNat)
  case atStart => exact ⟨0, Nat.zero_le _, rfl, some ⟨w.heap.size, 0, none⟩, 0, n, [], rfl, Lib.hid rfl, Lib.hid (by simp), HO, HB⟩
  case round =>
    clear HO HB
    obtain ⟨k, hk, rfl, xu, nu, cu, Lu, rfl, hM, hst, ho, hb⟩ := hrel
    by_cases hlt : k < n
    · have hlen := HN.out
      obtain ⟨b, off, y0, m0, d0, y1, m1, d1, rfl, -, hc0, hc1, hc2, hA⟩ := kLPi_elem HH.out (fun y hy => HEL.out y hy) (j := k) (by omega)
      have hbw := Ret.cell_lt hc0
      have hpt : nth l k = kPi.strip (nth L k) := by rw [← HT.out, nth_map _ (by omega)]
      have hps := HP.out (nth l k) (nth_mem (by have := HLEN.out; omega))
      rw [← hpt] at hA hc2
      replace hA := hA.on hb.out
      replace hc0 := kc hc0 hb.out
      replace hc1 := kc hc1 hb.out
      replace hc2 := kc hc2 hb.out
      obtain ⟨hNM, hRQ⟩ := kPi_parts hA
      have HNM := Lib.hid hNM; have HRQ := Lib.hid hRQ; have HPN := Lib.hid (show bulk (nth l k).1 ≤ 1200000 from (wtPi_lens hps).1); have HPR := Lib.hid (show (nth l k).2.1.length ≤ 1200000 from (wtPi_lens hps).2)
      obtain ⟨nm, rq, ls, hx⟩ : ∃ nm rq ls, nth l k = (nm, rq, ls) := ⟨_, _, _, rfl⟩
      rw [hx] at HNM HRQ HPN HPR hc2 hA
      have HXE := Lib.hid hx
      simp only at HNM HRQ HPN HPR hc2
      clear hNM hRQ hx
      have H0 := Lib.hid hc0; have H1 := Lib.hid hc1; have H2 := Lib.hid hc2
      clear hlen hpt hps hA
      have hal := (Below.refl wr.heap.size wr).alloc (Nat.le_refl _) (.cells #[.slice y0 m0 d0, .slice y1 m1 d1, .int .i64 ls] 101)
      have HXB := Lib.hid (Ret.Blk.new wr #[.slice y0 m0 d0, .slice y1 m1 d1, .int .i64 ls] 101)
      have HPL := Lib.hid (fun e => by have h5 := (ho.out.1.1.lt _ (Eq.symm e)).2; omega : some wr.heap.size ≠ (Value.slice xu nu cu).ownBlock)
      have HOL := Lib.hid (ho.out.upto hal); have hb2 := Lib.hid (hb.out.trans (hal.mono hb.out.size)); have HN2 := Lib.hid (HNM.out.on hal); have HQ2 := Lib.hid (HRQ.out.on hal)
      have HBW := Lib.hid (show w.heap.size ≤ (wr.alloc (.cells #[.slice y0 m0 d0, .slice y1 m1 d1, .int .i64 ls] 101)).heap.size from hb2.out.size)
      have HLM := Lib.hid (show Lu.length ≤ 1100000 by have := hM.out; omega)
      clear hal
      go_wp2_with fail
      clear hc0 hc1 hc2
      refine rcp (B := w.heap.size) (Lu := Lu) HBW HLM HOL HPL HN2 HQ2 HPN HPR (Lib.hid (HXB.out.cell 0)) (Lib.hid (HXB.out.cell 1)) (Lib.hid (HXB.out.cell 2)) ?_
      intro u15 u16 u17 u18 u19 u20 u21 u22 u23 u24 u25 u26 x4 n4 c4 mm wx hs4 ho4 hbx
      have HB4 := Lib.hid (hb2.out.trans hbx)
      have HO4 := ho4
      have HST := Lib.hid (show (Lu ++ [mm]).map kPi.strip = l.take (k + 1) by
        rw [List.map_append, hst.out, take_nx (by have := HLEN.out; omega), HXE.out]
        show _ ++ [kPi.strip mm] = _
        rw [hs4.out])
      clear hbx hs4 ho4
      go_wp2
      go_roundw
      case rel => exact ⟨k + 1, by omega, by go_num, x4, n4, c4, Lu ++ [mm], rfl, Lib.hid (by have := hM.out; simp; omega), HST, HO4, HB4⟩
      case measure => simp [intOf]; omega
    · obtain rfl : k = n := by omega
      clear hlt
      have HE := Lib.hid (show Lu.map kPi.strip = l by rw [hst.out, List.take_of_length_le (by rw [HLEN.out]; exact Nat.le_refl _)])
      go_wp2
      go_ret
      exact ⟨_, rfl, HE.out ▸ (show kLPi.In _ _ _ (.slice xu nu cu) (Lu.map kPi.strip) from ho.out.in), hb.out⟩
set_option maxHeartbeats 8000000 in
theorem sCopyP (V : Value) (l : List Pit) (w : World) (h : kLPi.At w V l) (hf : FitP l) :
    Calls Try.prog 89 #[V] w fun e w' => ∃ U, e = .returned U ∧ kLPi.In w.heap.size w'.heap.size w' U l ∧ Below w.heap.size w w' := by
  have hl := hf.len
  have hp := hf.each
  obtain ⟨x, n, cx, L, rfl, hn, ht, hh, hel⟩ := kLPi_at h
  have hlen : l.length = n := by rw [← ht, List.length_map]; exact hn.symm
  rw [hlen] at hl
  have hcap : n ≤ cx := by obtain ⟨x', n', cap', hv, hn', hc', -⟩ := hh.shapeN; cases hv; exact hc'
  have HN := Lib.hid hn; have HT := Lib.hid ht; have HH := Lib.hid hh; have HEL := Lib.hid hel; have HLEN := Lib.hid hlen; have HP := Lib.hid hp
  clear hn ht hh hel hlen hp h
  have hown := ownK_empty kPi.cells 3 101 w
  have HB := Lib.hid ((Below.refl w.heap.size w).alloc (Nat.le_refl _) (.cells #[] 101))
  have HO := Lib.hid (show kLPi.Own w.heap.size (w.alloc (.cells #[] 101)).heap.size _ ⟨some ⟨w.heap.size, 0, none⟩, 0, 0, []⟩ from Kd.own_row hown rfl)
  clear hown
  go_enter Try.func89, Try.ntmps89
  go_wp2
  go_loopw [3, 4] (fun uv iv wr => ∃ k : Nat, k ≤ n ∧ iv = .int .i64 k ∧ ∃ xu nu cu Lu, uv = .slice xu nu cu ∧ Hid (Lu.length = k) ∧ Hid (Lu.map kPi.strip = l.take k) ∧ Hid (kLPi.Own w.heap.size wr.heap.size wr ⟨xu, nu, cu, Lu⟩) ∧ Hid (Below w.heap.size w wr)) (fun _ iv _ => n - (intOf iv).toNat)
  case atStart => exact ⟨0, Nat.zero_le _, rfl, some ⟨w.heap.size, 0, none⟩, 0, 0, [], rfl, Lib.hid rfl, Lib.hid (by simp), HO, HB⟩
  case round =>
    clear HO HB
    obtain ⟨k, hk, rfl, xu, nu, cu, Lu, rfl, hM, hst, ho, hb⟩ := hrel
    by_cases hlt : k < n
    · have hlen := HN.out
      obtain ⟨b, off, y0, m0, d0, y1, m1, d1, rfl, -, hc0, hc1, hc2, hA⟩ := kLPi_elem HH.out (fun y hy => HEL.out y hy) (j := k) (by omega)
      have hbw := Ret.cell_lt hc0
      have hpt : nth l k = kPi.strip (nth L k) := by rw [← HT.out, nth_map _ (by omega)]
      have hps := HP.out (nth l k) (nth_mem (by have := HLEN.out; omega))
      rw [← hpt] at hA hc2
      replace hA := hA.on hb.out
      replace hc0 := kc hc0 hb.out
      replace hc1 := kc hc1 hb.out
      replace hc2 := kc hc2 hb.out
      obtain ⟨hNM, hRQ⟩ := kPi_parts hA
      have HNM := Lib.hid hNM; have HRQ := Lib.hid hRQ; have HPN := Lib.hid (show bulk (nth l k).1 ≤ 1200000 from (wtPi_lens hps).1); have HPR := Lib.hid (show (nth l k).2.1.length ≤ 1200000 from (wtPi_lens hps).2)
      obtain ⟨nm, rq, ls, hx⟩ : ∃ nm rq ls, nth l k = (nm, rq, ls) := ⟨_, _, _, rfl⟩
      rw [hx] at HNM HRQ HPN HPR hc2 hA
      have HXE := Lib.hid hx
      simp only at HNM HRQ HPN HPR hc2
      clear hNM hRQ hx
      have H0 := Lib.hid hc0; have H1 := Lib.hid hc1; have H2 := Lib.hid hc2
      clear hlen hpt hps hA
      go_wp2_with fail
      refine (sCpyN HNM.out (Nat.le_trans HPN.out (by decide))).mono ?_
      rintro e w5 ⟨U, rfl, hi5, hb5⟩
      obtain ⟨m5, za, na, ea, rfl, hs5, hd5, ho5⟩ := kN_splitP hi5
      have hal := (Below.refl w5.heap.size w5).alloc (Nat.le_refl _) (.cells #[.slice za na ea] 27)
      have hbl := hb5.trans (hal.mono hb5.size)
      have HXB := Lib.hid (Ret.Blk.new w5 #[.slice za na ea] 27)
      have HPL := Lib.hid (fun e => by have h5 := (ho.out.1.1.lt _ (Eq.symm e)).2; have h6 := hb5.size; omega : some w5.heap.size ≠ (Value.slice xu nu cu).ownBlock)
      have HBR := Lib.hid (fun e => by have h5 := (ho.out.1.1.lt _ (Eq.symm e)).1; omega : some b ≠ (Value.slice xu nu cu).ownBlock)
      have HOL := Lib.hid (ho.out.on hbl); have hb2 := Lib.hid (hb.out.trans (hbl.mono hb.out.size)); have HON := Lib.hid (ho5.on hal); have HS5 := Lib.hid hs5; have HD5 := Lib.hid hd5; have HQ2 := Lib.hid (kLRq_holds (HRQ.out.on hbl))
      have HBW := Lib.hid (show w.heap.size ≤ (w5.alloc (.cells #[.slice za na ea] 27)).heap.size from hb2.out.size)
      have HC0 := Lib.hid hb.out.size; have HC1 := Lib.hid hbl.size
      have HLM := Lib.hid (show Lu.length ≤ 1100000 by have := hM.out; omega)
      have C1 := Lib.hid (kc H1.out hbl); have C2 := Lib.hid (kc H2.out hbl)
      clear hal hbl hi5 hb5 hs5 hd5 ho5 hbw hc0 hc1 hc2
      go_wp2_with fail
      refine rcm (B := w.heap.size) (Lu := Lu) HBW HLM hlt (by omega) (by omega) HOL HC0 HC1 HPL HBR HON HS5 HD5 HQ2 HPR (Lib.hid (HXB.out.cell 0)) C1 C2 ?_
      intro u19 u20 u21 u22 u23 u24 u25 u26 u27 u28 u29 u30 u31 u32 u33 u34 u35 x4 n4 c4 mm wx hs4 ho4 hbx
      have HB4 := Lib.hid (hb2.out.trans hbx)
      have HO4 := ho4
      have HST := Lib.hid (show (Lu ++ [mm]).map kPi.strip = l.take (k + 1) by
        rw [List.map_append, hst.out, take_nx (by have := HLEN.out; omega), HXE.out]
        show _ ++ [kPi.strip mm] = _
        rw [hs4.out])
      clear hbx hs4 ho4
      go_wp2
      go_roundw
      case rel => exact ⟨k + 1, by omega, by go_num, x4, n4, c4, Lu ++ [mm], rfl, Lib.hid (by have := hM.out; simp; omega), HST, HO4, HB4⟩
      case measure => simp [intOf]; omega
    · obtain rfl : k = n := by omega
      clear hlt
      have HE := Lib.hid (show Lu.map kPi.strip = l by rw [hst.out, List.take_of_length_le (by rw [HLEN.out]; exact Nat.le_refl _)])
      go_wp2
      go_ret
      exact ⟨_, rfl, HE.out ▸ (show kLPi.In _ _ _ (.slice xu nu cu) (Lu.map kPi.strip) from ho.out.in), hb.out⟩
end Go.Proofs.Ytjphnlkdbhcblaa.Row
/- ExpirePending, the model. No conditions but that lengths fit. -/
namespace Go.Proofs.Ytjphnlkdbhcblaa.Row
open Go.ChangeShapes Go.WideShapes Go.ChangeAt Go.RowKit Go.Instr
set_option linter.unusedVariables false
set_option maxRecDepth 100000
end Go.Proofs.Ytjphnlkdbhcblaa.Row
/- The model puts a requester: l13Put. No conditions but that lengths fit. -/
namespace Go.Proofs.Ytjphnlkdbhcblaa.Row
open Go.ChangeShapes Go.WideShapes Go.ChangeAt Go.RowKit Go.Instr
set_option linter.unusedVariables false
set_option maxRecDepth 100000
set_option maxRecDepth 100000 in
set_option maxHeartbeats 4000000 in
theorem rpa {Q : Exit → Act → World → Prop} {v1 v2 v4 v5 v8 v9 v10 v11 v12 v13 v14 v15 v16 v17 v18 v19 v20 v21 v22 v23 v24 v25 v26 v27 v28 v29 v30 v31 v32 v33 v34 v35 v36 v37 v38 v39 v40 v41 v42 v43 v44 v45 v46 v47 v48 v49 v50 v51 v52 : Value} {w : World} {b off n c g k : Nat} (hk : k < n) 
  (hQ : ∀ (u15 u16 u17 u18 u19 u20 u21 u22 u23 u24 u25 : Value)  (wx : World), Below w.heap.size w wx → Q .normal ⟨#[.slice (some ⟨b, off, none⟩) n c, v1, v2, .pointer (some ⟨g, 0, none⟩), v4, v5, .bool true, .int .i64 k, v8, v9, v10, v11, v12, v13, v14, u15, u16, u17, u18, u19, u20, u21, u22, u23, u24, u25, .bool false, v27, v28, v29, v30, v31, v32, v33, v34, v35, v36, v37, v38, v39, v40, v41, v42, v43, v44, v45, v46, v47, v48, v49, v50, v51, v52], []⟩ wx) :
  (Code.region 6 #[⟨some 15, .move (.tmp 6), 4, "l13_pend.go:64", #[], none⟩,
   ⟨some 16, .unOp UnOp.not 4 (.tmp 15), 4, "l13_pend.go:64", #[⟨0, .data⟩], none⟩,
   ⟨some 17, .move (.tmp 16), 4, "l13_pend.go:64", #[⟨1, .data⟩], none⟩,
   ⟨some 18, .move (.tmp 0), 68, "l13_pend.go:64", #[⟨2, .guard⟩], some (2, true)⟩,
   ⟨some 19, .move (.tmp 7), 3, "l13_pend.go:64", #[⟨2, .guard⟩], some (2, true)⟩,
   ⟨some 20, .indexAddr 68 (.tmp 18) (.tmp 19), 0, "l13_pend.go:64", #[⟨3, .data⟩, ⟨4, .data⟩, ⟨2, .guard⟩], some (2, true)⟩,
   ⟨some 21, .fieldAddr 91 (.tmp 20) 0, 0, "l13_pend.go:64", #[⟨5, .data⟩, ⟨2, .guard⟩], some (2, true)⟩,
   ⟨some 22, .load 3 (.tmp 21), 3, "l13_pend.go:64", #[⟨6, .data⟩, ⟨2, .guard⟩], some (2, true)⟩,
   ⟨some 23, .fieldAddr 91 (.tmp 3) 0, 0, "l13_pend.go:64", #[⟨2, .guard⟩], some (2, true)⟩,
   ⟨some 24, .load 3 (.tmp 23), 3, "l13_pend.go:64", #[⟨8, .data⟩, ⟨2, .guard⟩], some (2, true)⟩,
   ⟨some 25, .binOp BinOp.gtr 3 (.tmp 22) (.tmp 24) 3, 4, "l13_pend.go:64", #[⟨7, .data⟩, ⟨9, .data⟩, ⟨2, .guard⟩], some (2, true)⟩,
   ⟨some 26, .pick (.tmp 17) (.tmp 25) (.const (Value.bool false)), 4, "l13_pend.go:64", #[⟨2, .data⟩, ⟨10, .data⟩], none⟩] true).wp Try.prog Q ⟨#[.slice (some ⟨b, off, none⟩) n c, v1, v2, .pointer (some ⟨g, 0, none⟩), v4, v5, .bool true, .int .i64 k, v8, v9, v10, v11, v12, v13, v14, v15, v16, v17, v18, v19, v20, v21, v22, v23, v24, v25, v26, v27, v28, v29, v30, v31, v32, v33, v34, v35, v36, v37, v38, v39, v40, v41, v42, v43, v44, v45, v46, v47, v48, v49, v50, v51, v52], []⟩ w := by
 have HQ := Lib.hid hQ; clear hQ
 have hdr : Below w.heap.size w w.drew := (Below.refl _ _).drew
 have BB := Lib.hid hdr
 refine wp_region_noPanic ?_
 refine wp_region_held_drew (S := (fun w' => True)) (by kernel_rfl) ?_ (fun hHeld => ?_)
 ·
  trivial
 clear hdr
 generalize w.drew = wd at *
 refine wpAnyH_take (i := 0) (oi := ⟨some 15, .move (.tmp 6), 4, "l13_pend.go:64", #[], none⟩) (v := ?_) rfl (by kernel_rfl) (by kernel_rfl) (by kernel_rfl) (fun _ _ _ h => h) (Or.inl ⟨by rfl, ?_⟩) (by assumption) ?_
 rotate_left
 ·
  intro w' hSw; (try dsimp only at hSw); first | (go_simp; done) | (go_simp; with_reducible rfl)
 (try simp only [Act.put, Row.pB0, Row.pB1, Row.pB2])
 refine wpAnyH_take (i := 1) (oi := ⟨some 16, .unOp UnOp.not 4 (.tmp 15), 4, "l13_pend.go:64", #[⟨0, .data⟩], none⟩) (v := ?_) rfl (by kernel_rfl) (by kernel_rfl) (by kernel_rfl) (fun _ _ _ h => h) (Or.inl ⟨by rfl, ?_⟩) (by assumption) ?_
 rotate_left
 ·
  intro w' hSw; (try dsimp only at hSw); first | (go_simp; done) | (go_simp; with_reducible rfl)
 (try simp only [Act.put, Row.pB0, Row.pB1, Row.pB2])
 refine wpAnyH_take (i := 2) (oi := ⟨some 17, .move (.tmp 16), 4, "l13_pend.go:64", #[⟨1, .data⟩], none⟩) (v := ?_) rfl (by kernel_rfl) (by kernel_rfl) (by kernel_rfl) (fun _ _ _ h => h) (Or.inl ⟨by rfl, ?_⟩) (by assumption) ?_
 rotate_left
 ·
  intro w' hSw; (try dsimp only at hSw); first | (go_simp; done) | (go_simp; with_reducible rfl)
 (try simp only [Act.put, Row.pB0, Row.pB1, Row.pB2])
 refine wpAnyH_take (i := 3) (oi := ⟨some 18, .move (.tmp 0), 68, "l13_pend.go:64", #[⟨2, .guard⟩], some (2, true)⟩) (v := undef) rfl (by kernel_rfl) (by kernel_rfl) (by kernel_rfl) (fun _ _ _ h => h) (Or.inr ⟨by rfl, rfl⟩) (by assumption) ?_
 (try simp only [Act.put, Row.pB0, Row.pB1, Row.pB2])
 refine wpAnyH_take (i := 4) (oi := ⟨some 19, .move (.tmp 7), 3, "l13_pend.go:64", #[⟨2, .guard⟩], some (2, true)⟩) (v := undef) rfl (by kernel_rfl) (by kernel_rfl) (by kernel_rfl) (fun _ _ _ h => h) (Or.inr ⟨by rfl, rfl⟩) (by assumption) ?_
 (try simp only [Act.put, Row.pB0, Row.pB1, Row.pB2])
 refine wpAnyH_take (i := 5) (oi := ⟨some 20, .indexAddr 68 (.tmp 18) (.tmp 19), 0, "l13_pend.go:64", #[⟨3, .data⟩, ⟨4, .data⟩, ⟨2, .guard⟩], some (2, true)⟩) (v := undef) rfl (by kernel_rfl) (by kernel_rfl) (by kernel_rfl) (fun _ _ _ h => h) (Or.inr ⟨by rfl, rfl⟩) (by assumption) ?_
 (try simp only [Act.put, Row.pB0, Row.pB1, Row.pB2])
 refine wpAnyH_take (i := 6) (oi := ⟨some 21, .fieldAddr 91 (.tmp 20) 0, 0, "l13_pend.go:64", #[⟨5, .data⟩, ⟨2, .guard⟩], some (2, true)⟩) (v := undef) rfl (by kernel_rfl) (by kernel_rfl) (by kernel_rfl) (fun _ _ _ h => h) (Or.inr ⟨by rfl, rfl⟩) (by assumption) ?_
 (try simp only [Act.put, Row.pB0, Row.pB1, Row.pB2])
 refine wpAnyH_take (i := 7) (oi := ⟨some 22, .load 3 (.tmp 21), 3, "l13_pend.go:64", #[⟨6, .data⟩, ⟨2, .guard⟩], some (2, true)⟩) (v := undef) rfl (by kernel_rfl) (by kernel_rfl) (by kernel_rfl) (fun _ _ _ h => h) (Or.inr ⟨by rfl, rfl⟩) (by assumption) ?_
 (try simp only [Act.put, Row.pB0, Row.pB1, Row.pB2])
 refine wpAnyH_take (i := 8) (oi := ⟨some 23, .fieldAddr 91 (.tmp 3) 0, 0, "l13_pend.go:64", #[⟨2, .guard⟩], some (2, true)⟩) (v := undef) rfl (by kernel_rfl) (by kernel_rfl) (by kernel_rfl) (fun _ _ _ h => h) (Or.inr ⟨by rfl, rfl⟩) (by assumption) ?_
 (try simp only [Act.put, Row.pB0, Row.pB1, Row.pB2])
 refine wpAnyH_take (i := 9) (oi := ⟨some 24, .load 3 (.tmp 23), 3, "l13_pend.go:64", #[⟨8, .data⟩, ⟨2, .guard⟩], some (2, true)⟩) (v := undef) rfl (by kernel_rfl) (by kernel_rfl) (by kernel_rfl) (fun _ _ _ h => h) (Or.inr ⟨by rfl, rfl⟩) (by assumption) ?_
 (try simp only [Act.put, Row.pB0, Row.pB1, Row.pB2])
 refine wpAnyH_take (i := 10) (oi := ⟨some 25, .binOp BinOp.gtr 3 (.tmp 22) (.tmp 24) 3, 4, "l13_pend.go:64", #[⟨7, .data⟩, ⟨9, .data⟩, ⟨2, .guard⟩], some (2, true)⟩) (v := undef) rfl (by kernel_rfl) (by kernel_rfl) (by kernel_rfl) (fun _ _ _ h => h) (Or.inr ⟨by rfl, rfl⟩) (by assumption) ?_
 (try simp only [Act.put, Row.pB0, Row.pB1, Row.pB2])
 refine wpAnyH_take (i := 11) (oi := ⟨some 26, .pick (.tmp 17) (.tmp 25) (.const (Value.bool false)), 4, "l13_pend.go:64", #[⟨2, .data⟩, ⟨10, .data⟩], none⟩) (v := ?_) rfl (by kernel_rfl) (by kernel_rfl) (by kernel_rfl) (fun _ _ _ h => h) (Or.inl ⟨by rfl, ?_⟩) (by assumption) ?_
 rotate_left
 ·
  intro w' hSw; (try dsimp only at hSw); first | (go_simp; done) | (go_simp; with_reducible rfl)
 (try simp only [Act.put, Row.pB0, Row.pB1, Row.pB2])
 refine wpAnyH_done (by kernel_rfl) ?_ _
 exact NoPanic.normal (HQ.out _ _ _ _ _ _ _ _ _ _ _  _  BB.out)
set_option maxRecDepth 100000 in
set_option maxHeartbeats 4000000 in
theorem rpb {Q : Exit → Act → World → Prop} {v1 v2 v4 v5 v8 v9 v10 v11 v12 v13 v14 v15 v16 v17 v18 v19 v20 v21 v22 v23 v24 v25 v26 v27 v28 v29 v30 v31 v32 v33 v34 v35 v36 v37 v38 v39 v40 v41 v42 v43 v44 v45 v46 v47 v48 v49 v50 v51 v52 : Value} {w : World} {b off n c g k : Nat} {f rf : Int} (hk : k < n) (A0 : Hid (w.cell? ⟨b, off + k * 3, none⟩ = some (.int .i64 f))) (B0 : Hid (w.cell? ⟨g, 0, none⟩ = some (.int .i64 rf)))
  (hQ : ∀ (u15 u16 u17 u18 u19 u20 u21 u22 u23 u24 u25 : Value)  (wx : World), Below w.heap.size w wx → Q .normal ⟨#[.slice (some ⟨b, off, none⟩) n c, v1, v2, .pointer (some ⟨g, 0, none⟩), v4, v5, .bool false, .int .i64 k, v8, v9, v10, v11, v12, v13, v14, u15, u16, u17, u18, u19, u20, u21, u22, u23, u24, u25, .bool (decide (rf < f)), v27, v28, v29, v30, v31, v32, v33, v34, v35, v36, v37, v38, v39, v40, v41, v42, v43, v44, v45, v46, v47, v48, v49, v50, v51, v52], []⟩ wx) :
  (Code.region 6 #[⟨some 15, .move (.tmp 6), 4, "l13_pend.go:64", #[], none⟩,
   ⟨some 16, .unOp UnOp.not 4 (.tmp 15), 4, "l13_pend.go:64", #[⟨0, .data⟩], none⟩,
   ⟨some 17, .move (.tmp 16), 4, "l13_pend.go:64", #[⟨1, .data⟩], none⟩,
   ⟨some 18, .move (.tmp 0), 68, "l13_pend.go:64", #[⟨2, .guard⟩], some (2, true)⟩,
   ⟨some 19, .move (.tmp 7), 3, "l13_pend.go:64", #[⟨2, .guard⟩], some (2, true)⟩,
   ⟨some 20, .indexAddr 68 (.tmp 18) (.tmp 19), 0, "l13_pend.go:64", #[⟨3, .data⟩, ⟨4, .data⟩, ⟨2, .guard⟩], some (2, true)⟩,
   ⟨some 21, .fieldAddr 91 (.tmp 20) 0, 0, "l13_pend.go:64", #[⟨5, .data⟩, ⟨2, .guard⟩], some (2, true)⟩,
   ⟨some 22, .load 3 (.tmp 21), 3, "l13_pend.go:64", #[⟨6, .data⟩, ⟨2, .guard⟩], some (2, true)⟩,
   ⟨some 23, .fieldAddr 91 (.tmp 3) 0, 0, "l13_pend.go:64", #[⟨2, .guard⟩], some (2, true)⟩,
   ⟨some 24, .load 3 (.tmp 23), 3, "l13_pend.go:64", #[⟨8, .data⟩, ⟨2, .guard⟩], some (2, true)⟩,
   ⟨some 25, .binOp BinOp.gtr 3 (.tmp 22) (.tmp 24) 3, 4, "l13_pend.go:64", #[⟨7, .data⟩, ⟨9, .data⟩, ⟨2, .guard⟩], some (2, true)⟩,
   ⟨some 26, .pick (.tmp 17) (.tmp 25) (.const (Value.bool false)), 4, "l13_pend.go:64", #[⟨2, .data⟩, ⟨10, .data⟩], none⟩] true).wp Try.prog Q ⟨#[.slice (some ⟨b, off, none⟩) n c, v1, v2, .pointer (some ⟨g, 0, none⟩), v4, v5, .bool false, .int .i64 k, v8, v9, v10, v11, v12, v13, v14, v15, v16, v17, v18, v19, v20, v21, v22, v23, v24, v25, v26, v27, v28, v29, v30, v31, v32, v33, v34, v35, v36, v37, v38, v39, v40, v41, v42, v43, v44, v45, v46, v47, v48, v49, v50, v51, v52], []⟩ w := by
 have HQ := Lib.hid hQ; clear hQ
 have hdr : Below w.heap.size w w.drew := (Below.refl _ _).drew
 have BB := Lib.hid hdr
 refine wp_region_noPanic ?_
 refine wp_region_held_drew (S := (fun w' => w'.cell? ⟨b, off + k * 3, none⟩ = some (.int .i64 f) ∧ w'.cell? ⟨g, 0, none⟩ = some (.int .i64 rf))) (by kernel_rfl) ?_ (fun hHeld => ?_)
 ·
  exact ⟨kc A0.out BB.out, kc B0.out BB.out⟩
 clear hdr
 generalize w.drew = wd at *
 refine wpAnyH_take (i := 0) (oi := ⟨some 15, .move (.tmp 6), 4, "l13_pend.go:64", #[], none⟩) (v := ?_) rfl (by kernel_rfl) (by kernel_rfl) (by kernel_rfl) (fun _ _ _ h => h) (Or.inl ⟨by rfl, ?_⟩) (by assumption) ?_
 rotate_left
 ·
  intro w' hSw; (try dsimp only at hSw); first | (go_simp; done) | (go_simp; with_reducible rfl)
 (try simp only [Act.put, Row.pB0, Row.pB1, Row.pB2])
 refine wpAnyH_take (i := 1) (oi := ⟨some 16, .unOp UnOp.not 4 (.tmp 15), 4, "l13_pend.go:64", #[⟨0, .data⟩], none⟩) (v := ?_) rfl (by kernel_rfl) (by kernel_rfl) (by kernel_rfl) (fun _ _ _ h => h) (Or.inl ⟨by rfl, ?_⟩) (by assumption) ?_
 rotate_left
 ·
  intro w' hSw; (try dsimp only at hSw); first | (go_simp; done) | (go_simp; with_reducible rfl)
 (try simp only [Act.put, Row.pB0, Row.pB1, Row.pB2])
 refine wpAnyH_take (i := 2) (oi := ⟨some 17, .move (.tmp 16), 4, "l13_pend.go:64", #[⟨1, .data⟩], none⟩) (v := ?_) rfl (by kernel_rfl) (by kernel_rfl) (by kernel_rfl) (fun _ _ _ h => h) (Or.inl ⟨by rfl, ?_⟩) (by assumption) ?_
 rotate_left
 ·
  intro w' hSw; (try dsimp only at hSw); first | (go_simp; done) | (go_simp; with_reducible rfl)
 (try simp only [Act.put, Row.pB0, Row.pB1, Row.pB2])
 refine wpAnyH_take (i := 3) (oi := ⟨some 18, .move (.tmp 0), 68, "l13_pend.go:64", #[⟨2, .guard⟩], some (2, true)⟩) (v := ?_) rfl (by kernel_rfl) (by kernel_rfl) (by kernel_rfl) (fun _ _ _ h => h) (Or.inl ⟨by rfl, ?_⟩) (by assumption) ?_
 rotate_left
 ·
  intro w' hSw; (try dsimp only at hSw); first | (go_simp; done) | (go_simp; with_reducible rfl)
 (try simp only [Act.put, Row.pB0, Row.pB1, Row.pB2])
 refine wpAnyH_take (i := 4) (oi := ⟨some 19, .move (.tmp 7), 3, "l13_pend.go:64", #[⟨2, .guard⟩], some (2, true)⟩) (v := ?_) rfl (by kernel_rfl) (by kernel_rfl) (by kernel_rfl) (fun _ _ _ h => h) (Or.inl ⟨by rfl, ?_⟩) (by assumption) ?_
 rotate_left
 ·
  intro w' hSw; (try dsimp only at hSw); first | (go_simp; done) | (go_simp; with_reducible rfl)
 (try simp only [Act.put, Row.pB0, Row.pB1, Row.pB2])
 refine wpAnyH_take (i := 5) (oi := ⟨some 20, .indexAddr 68 (.tmp 18) (.tmp 19), 0, "l13_pend.go:64", #[⟨3, .data⟩, ⟨4, .data⟩, ⟨2, .guard⟩], some (2, true)⟩) (v := ?_) rfl (by kernel_rfl) (by kernel_rfl) (by kernel_rfl) (fun _ _ _ h => h) (Or.inl ⟨by rfl, ?_⟩) (by assumption) ?_
 rotate_left
 ·
  intro w' hSw; (try dsimp only at hSw); first | (go_simp; done) | (go_simp; with_reducible rfl)
 (try simp only [Act.put, Row.pB0, Row.pB1, Row.pB2])
 refine wpAnyH_take (i := 6) (oi := ⟨some 21, .fieldAddr 91 (.tmp 20) 0, 0, "l13_pend.go:64", #[⟨5, .data⟩, ⟨2, .guard⟩], some (2, true)⟩) (v := ?_) rfl (by kernel_rfl) (by kernel_rfl) (by kernel_rfl) (fun _ _ _ h => h) (Or.inl ⟨by rfl, ?_⟩) (by assumption) ?_
 rotate_left
 ·
  intro w' hSw; (try dsimp only at hSw); first | (go_simp; done) | (go_simp; with_reducible rfl)
 (try simp only [Act.put, Row.pB0, Row.pB1, Row.pB2])
 refine wpAnyH_take (i := 7) (oi := ⟨some 22, .load 3 (.tmp 21), 3, "l13_pend.go:64", #[⟨6, .data⟩, ⟨2, .guard⟩], some (2, true)⟩) (v := ?_) rfl (by kernel_rfl) (by kernel_rfl) (by kernel_rfl) (fun _ _ _ h => h) (Or.inl ⟨by rfl, ?_⟩) (by assumption) ?_
 rotate_left
 ·
  intro w' hSw; (try dsimp only at hSw); first | (go_simp; done) | (go_simp; with_reducible rfl)
 (try simp only [Act.put, Row.pB0, Row.pB1, Row.pB2])
 refine wpAnyH_take (i := 8) (oi := ⟨some 23, .fieldAddr 91 (.tmp 3) 0, 0, "l13_pend.go:64", #[⟨2, .guard⟩], some (2, true)⟩) (v := ?_) rfl (by kernel_rfl) (by kernel_rfl) (by kernel_rfl) (fun _ _ _ h => h) (Or.inl ⟨by rfl, ?_⟩) (by assumption) ?_
 rotate_left
 ·
  intro w' hSw; (try dsimp only at hSw); first | (go_simp; done) | (go_simp; with_reducible rfl)
 (try simp only [Act.put, Row.pB0, Row.pB1, Row.pB2])
 refine wpAnyH_take (i := 9) (oi := ⟨some 24, .load 3 (.tmp 23), 3, "l13_pend.go:64", #[⟨8, .data⟩, ⟨2, .guard⟩], some (2, true)⟩) (v := ?_) rfl (by kernel_rfl) (by kernel_rfl) (by kernel_rfl) (fun _ _ _ h => h) (Or.inl ⟨by rfl, ?_⟩) (by assumption) ?_
 rotate_left
 ·
  intro w' hSw; (try dsimp only at hSw); first | (go_simp; done) | (go_simp; with_reducible rfl)
 (try simp only [Act.put, Row.pB0, Row.pB1, Row.pB2])
 refine wpAnyH_take (i := 10) (oi := ⟨some 25, .binOp BinOp.gtr 3 (.tmp 22) (.tmp 24) 3, 4, "l13_pend.go:64", #[⟨7, .data⟩, ⟨9, .data⟩, ⟨2, .guard⟩], some (2, true)⟩) (v := ?_) rfl (by kernel_rfl) (by kernel_rfl) (by kernel_rfl) (fun _ _ _ h => h) (Or.inl ⟨by rfl, ?_⟩) (by assumption) ?_
 rotate_left
 ·
  intro w' hSw; (try dsimp only at hSw); first | (go_simp; done) | (go_simp; with_reducible rfl)
 (try simp only [Act.put, Row.pB0, Row.pB1, Row.pB2])
 refine wpAnyH_take (i := 11) (oi := ⟨some 26, .pick (.tmp 17) (.tmp 25) (.const (Value.bool false)), 4, "l13_pend.go:64", #[⟨2, .data⟩, ⟨10, .data⟩], none⟩) (v := ?_) rfl (by kernel_rfl) (by kernel_rfl) (by kernel_rfl) (fun _ _ _ h => h) (Or.inl ⟨by rfl, ?_⟩) (by assumption) ?_
 rotate_left
 ·
  intro w' hSw; (try dsimp only at hSw); first | (go_simp; done) | (go_simp; with_reducible rfl)
 (try simp only [Act.put, Row.pB0, Row.pB1, Row.pB2])
 refine wpAnyH_done (by kernel_rfl) ?_ _
 exact NoPanic.normal (HQ.out _ _ _ _ _ _ _ _ _ _ _  _  BB.out)
set_option maxRecDepth 100000 in
set_option maxHeartbeats 4000000 in
theorem rpc {Q : Exit → Act → World → Prop} {v1 v2 v4 v5 v6 v8 v9 v10 v11 v12 v13 v14 v15 v16 v17 v18 v19 v20 v21 v22 v23 v24 v25 v26 v27 v28 v29 v30 v31 v32 v33 v34 v35 v36 v37 v38 v39 v40 v41 v42 v43 v44 v45 v46 v47 v48 v49 v50 v51 v52 : Value} {w : World} {b off n c g k : Nat} {f rf : Int} (hk : k < n) (A0 : Hid (w.cell? ⟨b, off + k * 3, none⟩ = some (.int .i64 f))) (B0 : Hid (w.cell? ⟨g, 0, none⟩ = some (.int .i64 rf)))
  (hQ : ∀ (u31 u32 u33 u34 u35 u36 u37 : Value)  (wx : World), Below w.heap.size w wx → Q .normal ⟨#[.slice (some ⟨b, off, none⟩) n c, v1, v2, .pointer (some ⟨g, 0, none⟩), v4, v5, v6, .int .i64 k, v8, v9, v10, v11, v12, v13, v14, v15, v16, v17, v18, v19, v20, v21, v22, v23, v24, v25, v26, v27, v28, v29, v30, u31, u32, u33, u34, u35, u36, u37, .bool (f != rf), v39, v40, v41, v42, v43, v44, v45, v46, v47, v48, v49, v50, v51, v52], []⟩ wx) :
  (Code.region 9 #[⟨some 31, .move (.tmp 0), 68, "l13_pend.go:68", #[], none⟩,
   ⟨some 32, .move (.tmp 7), 3, "l13_pend.go:68", #[], none⟩,
   ⟨some 33, .indexAddr 68 (.tmp 31) (.tmp 32), 0, "l13_pend.go:68", #[⟨0, .data⟩, ⟨1, .data⟩], none⟩,
   ⟨some 34, .fieldAddr 91 (.tmp 33) 0, 0, "l13_pend.go:68", #[⟨2, .data⟩], none⟩,
   ⟨some 35, .load 3 (.tmp 34), 3, "l13_pend.go:68", #[⟨3, .data⟩], none⟩,
   ⟨some 36, .fieldAddr 91 (.tmp 3) 0, 0, "l13_pend.go:68", #[], none⟩,
   ⟨some 37, .load 3 (.tmp 36), 3, "l13_pend.go:68", #[⟨5, .data⟩], none⟩,
   ⟨some 38, .binOp BinOp.neq 3 (.tmp 35) (.tmp 37) 3, 4, "l13_pend.go:68", #[⟨4, .data⟩, ⟨6, .data⟩], none⟩] true).wp Try.prog Q ⟨#[.slice (some ⟨b, off, none⟩) n c, v1, v2, .pointer (some ⟨g, 0, none⟩), v4, v5, v6, .int .i64 k, v8, v9, v10, v11, v12, v13, v14, v15, v16, v17, v18, v19, v20, v21, v22, v23, v24, v25, v26, v27, v28, v29, v30, v31, v32, v33, v34, v35, v36, v37, v38, v39, v40, v41, v42, v43, v44, v45, v46, v47, v48, v49, v50, v51, v52], []⟩ w := by
 have HQ := Lib.hid hQ; clear hQ
 have hdr : Below w.heap.size w w.drew := (Below.refl _ _).drew
 have BB := Lib.hid hdr
 refine wp_region_noPanic ?_
 refine wp_region_held_drew (S := (fun w' => w'.cell? ⟨b, off + k * 3, none⟩ = some (.int .i64 f) ∧ w'.cell? ⟨g, 0, none⟩ = some (.int .i64 rf))) (by kernel_rfl) ?_ (fun hHeld => ?_)
 ·
  exact ⟨kc A0.out BB.out, kc B0.out BB.out⟩
 clear hdr
 generalize w.drew = wd at *
 refine wpAnyH_take (i := 0) (oi := ⟨some 31, .move (.tmp 0), 68, "l13_pend.go:68", #[], none⟩) (v := ?_) rfl (by kernel_rfl) (by kernel_rfl) (by kernel_rfl) (fun _ _ _ h => h) (Or.inl ⟨by rfl, ?_⟩) (by assumption) ?_
 rotate_left
 ·
  intro w' hSw; (try dsimp only at hSw); first | (go_simp; done) | (go_simp; with_reducible rfl)
 (try simp only [Act.put, Row.pB0, Row.pB1, Row.pB2])
 refine wpAnyH_take (i := 1) (oi := ⟨some 32, .move (.tmp 7), 3, "l13_pend.go:68", #[], none⟩) (v := ?_) rfl (by kernel_rfl) (by kernel_rfl) (by kernel_rfl) (fun _ _ _ h => h) (Or.inl ⟨by rfl, ?_⟩) (by assumption) ?_
 rotate_left
 ·
  intro w' hSw; (try dsimp only at hSw); first | (go_simp; done) | (go_simp; with_reducible rfl)
 (try simp only [Act.put, Row.pB0, Row.pB1, Row.pB2])
 refine wpAnyH_take (i := 2) (oi := ⟨some 33, .indexAddr 68 (.tmp 31) (.tmp 32), 0, "l13_pend.go:68", #[⟨0, .data⟩, ⟨1, .data⟩], none⟩) (v := ?_) rfl (by kernel_rfl) (by kernel_rfl) (by kernel_rfl) (fun _ _ _ h => h) (Or.inl ⟨by rfl, ?_⟩) (by assumption) ?_
 rotate_left
 ·
  intro w' hSw; (try dsimp only at hSw); first | (go_simp; done) | (go_simp; with_reducible rfl)
 (try simp only [Act.put, Row.pB0, Row.pB1, Row.pB2])
 refine wpAnyH_take (i := 3) (oi := ⟨some 34, .fieldAddr 91 (.tmp 33) 0, 0, "l13_pend.go:68", #[⟨2, .data⟩], none⟩) (v := ?_) rfl (by kernel_rfl) (by kernel_rfl) (by kernel_rfl) (fun _ _ _ h => h) (Or.inl ⟨by rfl, ?_⟩) (by assumption) ?_
 rotate_left
 ·
  intro w' hSw; (try dsimp only at hSw); first | (go_simp; done) | (go_simp; with_reducible rfl)
 (try simp only [Act.put, Row.pB0, Row.pB1, Row.pB2])
 refine wpAnyH_take (i := 4) (oi := ⟨some 35, .load 3 (.tmp 34), 3, "l13_pend.go:68", #[⟨3, .data⟩], none⟩) (v := ?_) rfl (by kernel_rfl) (by kernel_rfl) (by kernel_rfl) (fun _ _ _ h => h) (Or.inl ⟨by rfl, ?_⟩) (by assumption) ?_
 rotate_left
 ·
  intro w' hSw; (try dsimp only at hSw); first | (go_simp; done) | (go_simp; with_reducible rfl)
 (try simp only [Act.put, Row.pB0, Row.pB1, Row.pB2])
 refine wpAnyH_take (i := 5) (oi := ⟨some 36, .fieldAddr 91 (.tmp 3) 0, 0, "l13_pend.go:68", #[], none⟩) (v := ?_) rfl (by kernel_rfl) (by kernel_rfl) (by kernel_rfl) (fun _ _ _ h => h) (Or.inl ⟨by rfl, ?_⟩) (by assumption) ?_
 rotate_left
 ·
  intro w' hSw; (try dsimp only at hSw); first | (go_simp; done) | (go_simp; with_reducible rfl)
 (try simp only [Act.put, Row.pB0, Row.pB1, Row.pB2])
 refine wpAnyH_take (i := 6) (oi := ⟨some 37, .load 3 (.tmp 36), 3, "l13_pend.go:68", #[⟨5, .data⟩], none⟩) (v := ?_) rfl (by kernel_rfl) (by kernel_rfl) (by kernel_rfl) (fun _ _ _ h => h) (Or.inl ⟨by rfl, ?_⟩) (by assumption) ?_
 rotate_left
 ·
  intro w' hSw; (try dsimp only at hSw); first | (go_simp; done) | (go_simp; with_reducible rfl)
 (try simp only [Act.put, Row.pB0, Row.pB1, Row.pB2])
 refine wpAnyH_take (i := 7) (oi := ⟨some 38, .binOp BinOp.neq 3 (.tmp 35) (.tmp 37) 3, 4, "l13_pend.go:68", #[⟨4, .data⟩, ⟨6, .data⟩], none⟩) (v := ?_) rfl (by kernel_rfl) (by kernel_rfl) (by kernel_rfl) (fun _ _ _ h => h) (Or.inl ⟨by rfl, ?_⟩) (by assumption) ?_
 rotate_left
 ·
  intro w' hSw; (try dsimp only at hSw); first | (go_simp; done) | (go_simp; with_reducible rfl)
 (try simp only [Act.put, Row.pB0, Row.pB1, Row.pB2])
 refine wpAnyH_done (by kernel_rfl) ?_ _
 exact NoPanic.normal (HQ.out _ _ _ _ _ _ _  _  BB.out)
set_option maxHeartbeats 32000000 in
theorem sPut (V : Value) (l : List Rqt) (r0 r1 r2 : Int) (w : World) (h : HoldsK kRq.cells 3 w V l) (hl : l.length ≤ 1200000) :
    Calls Try.prog 91 #[V, .agg #[.int .i64 r0, .int .i64 r1, .int .i64 r2]] w fun e w' => ∃ v, e = .returned v ∧ OwnK 91 kRq.cells 3 w.heap.size w' v (putR l (r0, r1, r2)) ∧ Below w.heap.size w w' := by
  obtain ⟨x, n, c, rfl, hn, hnc, h⟩ := h.shapeN
  have hal := (Below.refl w.heap.size w).alloc (Nat.le_refl _) (.cells #[.int .i64 r0, .int .i64 r1, .int .i64 r2] 91)
  obtain ⟨w1, e1⟩ : ∃ w1, w.alloc (.cells #[.int .i64 r0, .int .i64 r1, .int .i64 r2] 91) = w1 := ⟨_, rfl⟩
  have hx := Ret.Blk.new w #[.int .i64 r0, .int .i64 r1, .int .i64 r2] 91
  rw [e1] at hal hx
  have hz1 : w1.heap.size = w.heap.size + 1 := by rw [← e1]; simp
  have hal2 := (Below.refl w1.heap.size w1).alloc (Nat.le_refl _) (.cells #[] 91)
  have hown := ownK_empty kRq.cells 3 91 w1
  have O_i := Lib.hid (show OwnK 91 kRq.cells 3 (w.heap.size + 1) (w1.alloc (.cells #[] 91)) (.slice (some ⟨w.heap.size + 1, 0, none⟩) 0 0) ([] : List Rqm) from by rw [← hz1]; exact hown)
  have X_i := Lib.hid (hx.on hal2); have B_i := Lib.hid (hal.trans (hal2.mono hal.size)); have Z_i := Lib.hid (show w.heap.size + 1 ≤ (w1.alloc (.cells #[] 91)).heap.size by rw [← hz1]; exact hal2.size)
  have HW1 := Lib.hid e1; have HH := Lib.hid h; have HN := Lib.hid hn
  have hln : n ≤ 1200000 := by omega
  clear hal hal2 hown hx hz1 e1 h hn
  go_enter Try.func91, Try.ntmps91
  go_wp2_with fail
  rw [HW1.out]
  go_wp2
  go_loopw [5, 6, 7] (fun uv dv iv wr => ∃ k : Nat, k ≤ n ∧ iv = .int .i64 k ∧ ∃ xu nu cu o9 d9, uv = .slice xu nu cu ∧ dv = .bool d9 ∧ Hid (putM (r0, r1, r2) (l.take k) = (o9, d9)) ∧ Hid (OwnK 91 kRq.cells 3 (w.heap.size + 1) wr (.slice xu nu cu) o9) ∧ Hid (Ret.Blk wr w.heap.size #[.int .i64 r0, .int .i64 r1, .int .i64 r2] 91) ∧ Hid (Below w.heap.size w wr) ∧ Hid (w.heap.size + 1 ≤ wr.heap.size)) (fun _ _ iv _ => n - (intOf iv).toNat)
  case atStart => exact ⟨0, Nat.zero_le _, rfl, _, _, _, [], false, rfl, rfl, Lib.hid (by simp [putM]), O_i, X_i, B_i, Z_i⟩
  case round =>
    clear O_i X_i B_i Z_i HW1
    obtain ⟨k, hk, rfl, xu, nu, cu, o9, d9, rfl, rfl, hpm, ho, hx, hb, hz⟩ := hrel
    have hol : o9.length ≤ 1200001 := by have h5 := putM_len _ _ _ _ hpm.out; have h6 := HN.out; rw [List.length_take] at h5; omega
    by_cases hlt : k < n
    · have hkl : k < l.length := by have := HN.out; omega
      obtain ⟨b, off, rfl, hcm⟩ := HH.out.at szRq_cells hkl
      obtain ⟨f, u, e, hx5⟩ : ∃ f u e, nth l k = (f, u, e) := ⟨_, _, _, rfl⟩
      rw [hx5] at hcm
      have HA := Lib.hid (show w.cell? ⟨b, off + k * 3, none⟩ = some (.int .i64 f) from by have h5 : w.cell? ⟨b, off + (k * 3 + 0), none⟩ = some (.int .i64 f) := hcm 0 (by decide); simpa [Nat.add_assoc] using h5)
      have HA1 := Lib.hid (show w.cell? ⟨b, off + k * 3 + 1, none⟩ = some (.int .i64 u) from by have h5 : w.cell? ⟨b, off + (k * 3 + 1), none⟩ = some (.int .i64 u) := hcm 1 (by decide); simpa [Nat.add_assoc] using h5)
      have HA2 := Lib.hid (show w.cell? ⟨b, off + k * 3 + 2, none⟩ = some (.int .i64 e) from by have h5 : w.cell? ⟨b, off + (k * 3 + 2), none⟩ = some (.int .i64 e) := hcm 2 (by decide); simpa [Nat.add_assoc] using h5)
      have HTK := Lib.hid (show l.take (k + 1) = l.take k ++ [(f, u, e)] from by rw [take_nx hkl, hx5])
      clear hcm hx5 hkl
      cases d9 with
      | true =>
        go_wp2_with fail
        refine rpa hlt ?_
        intro u15 u16 u17 u18 u19 u20 u21 u22 u23 u24 u25 wp hbp
        have O_p := Lib.hid (ho.out.on hbp); have X_p := Lib.hid (hx.out.on hbp); have B_p := Lib.hid (hb.out.trans (hbp.mono hb.out.size)); have Z_p := Lib.hid (Nat.le_trans hz.out hbp.size)
        clear hbp
        by_cases hfc : f = r0
        · have HPM := Lib.hid (show putM (r0, r1, r2) (l.take (k + 1)) = (o9, true) from by
            rw [HTK.out, putM_step _ _ _ _ _ hpm.out]
            simp [gtR, fcR, hfc])
          have A0 := Lib.hid (kc HA.out B_p.out); have R0 := Lib.hid (X_p.out.cell 0)
          go_wp2_with fail
          refine rpc (f := f) (rf := r0) hlt A0 R0 ?_
          intro u31 u32 u33 u34 u35 u36 u37 wq hbq
          have O_q := Lib.hid (O_p.out.on hbq); have X_q := Lib.hid (X_p.out.on hbq); have B_q := Lib.hid (B_p.out.trans (hbq.mono B_p.out.size)); have Z_q := Lib.hid (Nat.le_trans Z_p.out hbq.size)
          clear hbq
          have hvq : (f != r0) = false := by simpa using hfc
          clear hfc
          go_wp2
          go_roundw
          case rel => exact ⟨k + 1, by omega, by go_num, xu, nu, cu, _, true, rfl, rfl, HPM, O_q, X_q, B_q, Z_q⟩
          case measure => simp [intOf]; omega
        · have HPM := Lib.hid (show putM (r0, r1, r2) (l.take (k + 1)) = (o9 ++ [(f, u, e)], true) from by
            rw [HTK.out, putM_step _ _ _ _ _ hpm.out]
            simp [gtR, fcR, hfc])
          have A0 := Lib.hid (kc HA.out B_p.out); have R0 := Lib.hid (X_p.out.cell 0)
          go_wp2_with fail
          refine rpc (f := f) (rf := r0) hlt A0 R0 ?_
          intro u31 u32 u33 u34 u35 u36 u37 wq hbq
          have O_q := Lib.hid (O_p.out.on hbq); have X_q := Lib.hid (X_p.out.on hbq); have B_q := Lib.hid (B_p.out.trans (hbq.mono B_p.out.size)); have Z_q := Lib.hid (Nat.le_trans Z_p.out hbq.size)
          clear hbq
          have hvq : (f != r0) = true := by simpa using hfc
          have e0 := kc HA.out B_q.out; have e1 := kc HA1.out B_q.out; have e2 := kc HA2.out B_q.out
          have ha_t := (Below.refl wq.heap.size wq).alloc (Nat.le_refl _) (.cells #[.int .i64 f, .int .i64 u, .int .i64 e] 91)
          have S_t := Lib.hid (one_k (k := kRq) szRq_cells (e := 91) (W := wq) (m := ((f, u, e) : Rqm)) (cs := [.int .i64 f, .int .i64 u, .int .i64 e]) rfl)
          have OA_t := Lib.hid (O_q.out.on ha_t); have BA_t := Lib.hid (B_q.out.trans (ha_t.mono B_q.out.size)); have XA_t := Lib.hid (X_q.out.on ha_t)
          have ZA_t := Lib.hid (Nat.le_trans Z_q.out ha_t.size)
          clear ha_t
          go_wp2_with (at_builtin; refine wpList_appK kindRq (B := w.heap.size + 1) (l := o9) (m := [((f, u, e) : Rqm)]) rfl _ _ rfl Try.underlying68 rfl rfl OA_t.out S_t.out (by simp; omega) (by unfold maxLen; simp; omega) ZA_t.out ?_)
          intro v_t w_t ho_t hg_t
          obtain ⟨x_t, n_t, c_t, rfl, -, -, ho_t⟩ := ho_t.shapeN
          have O_t := Lib.hid ho_t
          have B_t := Lib.hid (BA_t.out.grown hg_t BA_t.out.size (fun g hg => by have := (OA_t.out.lt g hg).1; omega))
          have X_t := Lib.hid (XA_t.out.grown hg_t (fun e5 => by have := (OA_t.out.lt _ (Eq.symm e5)).1; omega))
          have Z_t := Lib.hid (show w.heap.size + 1 ≤ w_t.heap.size from Nat.le_trans ZA_t.out hg_t.size)
          clear ho_t hg_t
          clear e0 e1 e2 hfc
          go_wp2
          go_roundw
          case rel => exact ⟨k + 1, by omega, by go_num, x_t, n_t, c_t, _, true, rfl, rfl, HPM, O_t, X_t, B_t, Z_t⟩
          case measure => simp [intOf]; omega
      | false =>
        have A0 := Lib.hid (kc HA.out hb.out); have R0 := Lib.hid (hx.out.cell 0)
        go_wp2_with fail
        refine rpb (f := f) (rf := r0) hlt A0 R0 ?_
        intro u15 u16 u17 u18 u19 u20 u21 u22 u23 u24 u25 wp hbp
        have O_p := Lib.hid (ho.out.on hbp); have X_p := Lib.hid (hx.out.on hbp); have B_p := Lib.hid (hb.out.trans (hbp.mono hb.out.size)); have Z_p := Lib.hid (Nat.le_trans hz.out hbp.size)
        clear hbp A0 R0
        by_cases hgt : r0 < f
        · have hvp : decide (r0 < f) = true := decide_eq_true hgt
          by_cases hfc : f = r0
          · exact absurd hgt (by omega)
          · have HPM := Lib.hid (show putM (r0, r1, r2) (l.take (k + 1)) = (o9 ++ [(r0, r1, r2), (f, u, e)], true) from by
              rw [HTK.out, putM_step _ _ _ _ _ hpm.out]
              simp [gtR, fcR, hfc, hgt])
            have r0c := X_p.out.cell 0; have r1c := X_p.out.cell 1; have r2c := X_p.out.cell 2
            have ha_s := (Below.refl wp.heap.size wp).alloc (Nat.le_refl _) (.cells #[.int .i64 r0, .int .i64 r1, .int .i64 r2] 91)
            have S_s := Lib.hid (one_k (k := kRq) szRq_cells (e := 91) (W := wp) (m := ((r0, r1, r2) : Rqm)) (cs := [.int .i64 r0, .int .i64 r1, .int .i64 r2]) rfl)
            have OA_s := Lib.hid (O_p.out.on ha_s); have BA_s := Lib.hid (B_p.out.trans (ha_s.mono B_p.out.size)); have XA_s := Lib.hid (X_p.out.on ha_s)
            have ZA_s := Lib.hid (Nat.le_trans Z_p.out ha_s.size)
            clear ha_s
            go_wp2_with (at_builtin; refine wpList_appK kindRq (B := w.heap.size + 1) (l := o9) (m := [((r0, r1, r2) : Rqm)]) rfl _ _ rfl Try.underlying68 rfl rfl OA_s.out S_s.out (by simp; omega) (by unfold maxLen; simp; omega) ZA_s.out ?_)
            intro v_s w_s ho_s hg_s
            obtain ⟨x_s, n_s, c_s, rfl, -, -, ho_s⟩ := ho_s.shapeN
            have O_s := Lib.hid ho_s
            have B_s := Lib.hid (BA_s.out.grown hg_s BA_s.out.size (fun g hg => by have := (OA_s.out.lt g hg).1; omega))
            have X_s := Lib.hid (XA_s.out.grown hg_s (fun e5 => by have := (OA_s.out.lt _ (Eq.symm e5)).1; omega))
            have Z_s := Lib.hid (show w.heap.size + 1 ≤ w_s.heap.size from Nat.le_trans ZA_s.out hg_s.size)
            clear r0c r1c r2c ho_s hg_s
            have A0 := Lib.hid (kc HA.out B_s.out); have R0 := Lib.hid (X_s.out.cell 0)
            go_wp2_with fail
            refine rpc (f := f) (rf := r0) hlt A0 R0 ?_
            intro u31 u32 u33 u34 u35 u36 u37 wq hbq
            have O_q := Lib.hid (O_s.out.on hbq); have X_q := Lib.hid (X_s.out.on hbq); have B_q := Lib.hid (B_s.out.trans (hbq.mono B_s.out.size)); have Z_q := Lib.hid (Nat.le_trans Z_s.out hbq.size)
            clear hbq
            have hvq : (f != r0) = true := by simpa using hfc
            have e0 := kc HA.out B_q.out; have e1 := kc HA1.out B_q.out; have e2 := kc HA2.out B_q.out
            have ha_t := (Below.refl wq.heap.size wq).alloc (Nat.le_refl _) (.cells #[.int .i64 f, .int .i64 u, .int .i64 e] 91)
            have S_t := Lib.hid (one_k (k := kRq) szRq_cells (e := 91) (W := wq) (m := ((f, u, e) : Rqm)) (cs := [.int .i64 f, .int .i64 u, .int .i64 e]) rfl)
            have OA_t := Lib.hid (O_q.out.on ha_t); have BA_t := Lib.hid (B_q.out.trans (ha_t.mono B_q.out.size)); have XA_t := Lib.hid (X_q.out.on ha_t)
            have ZA_t := Lib.hid (Nat.le_trans Z_q.out ha_t.size)
            clear ha_t
            go_wp2_with (at_builtin; refine wpList_appK kindRq (B := w.heap.size + 1) (l := (o9 ++ [((r0, r1, r2) : Rqm)])) (m := [((f, u, e) : Rqm)]) rfl _ _ rfl Try.underlying68 rfl rfl OA_t.out S_t.out (by simp; omega) (by unfold maxLen; simp; omega) ZA_t.out ?_)
            intro v_t w_t ho_t hg_t
            obtain ⟨x_t, n_t, c_t, rfl, -, -, ho_t⟩ := ho_t.shapeN
            have O_t := Lib.hid ho_t
            have B_t := Lib.hid (BA_t.out.grown hg_t BA_t.out.size (fun g hg => by have := (OA_t.out.lt g hg).1; omega))
            have X_t := Lib.hid (XA_t.out.grown hg_t (fun e5 => by have := (OA_t.out.lt _ (Eq.symm e5)).1; omega))
            have Z_t := Lib.hid (show w.heap.size + 1 ≤ w_t.heap.size from Nat.le_trans ZA_t.out hg_t.size)
            clear ho_t hg_t
            clear e0 e1 e2 hfc
            go_wp2
            go_roundw
            case rel => exact ⟨k + 1, by omega, by go_num, x_t, n_t, c_t, _, true, rfl, rfl, HPM, O_t, X_t, B_t, Z_t⟩
            case measure => simp [intOf]; omega
        · have hvp : decide (r0 < f) = false := decide_eq_false hgt
          by_cases hfc : f = r0
          · have HPM := Lib.hid (show putM (r0, r1, r2) (l.take (k + 1)) = (o9, false) from by
              rw [HTK.out, putM_step _ _ _ _ _ hpm.out]
              simp [gtR, fcR, hfc])
            have A0 := Lib.hid (kc HA.out B_p.out); have R0 := Lib.hid (X_p.out.cell 0)
            go_wp2_with fail
            refine rpc (f := f) (rf := r0) hlt A0 R0 ?_
            intro u31 u32 u33 u34 u35 u36 u37 wq hbq
            have O_q := Lib.hid (O_p.out.on hbq); have X_q := Lib.hid (X_p.out.on hbq); have B_q := Lib.hid (B_p.out.trans (hbq.mono B_p.out.size)); have Z_q := Lib.hid (Nat.le_trans Z_p.out hbq.size)
            clear hbq
            have hvq : (f != r0) = false := by simpa using hfc
            clear hfc
            go_wp2
            go_roundw
            case rel => exact ⟨k + 1, by omega, by go_num, xu, nu, cu, _, false, rfl, rfl, HPM, O_q, X_q, B_q, Z_q⟩
            case measure => simp [intOf]; omega
          · have HPM := Lib.hid (show putM (r0, r1, r2) (l.take (k + 1)) = (o9 ++ [(f, u, e)], false) from by
              rw [HTK.out, putM_step _ _ _ _ _ hpm.out]
              simp [gtR, fcR, hfc, hgt])
            have A0 := Lib.hid (kc HA.out B_p.out); have R0 := Lib.hid (X_p.out.cell 0)
            go_wp2_with fail
            refine rpc (f := f) (rf := r0) hlt A0 R0 ?_
            intro u31 u32 u33 u34 u35 u36 u37 wq hbq
            have O_q := Lib.hid (O_p.out.on hbq); have X_q := Lib.hid (X_p.out.on hbq); have B_q := Lib.hid (B_p.out.trans (hbq.mono B_p.out.size)); have Z_q := Lib.hid (Nat.le_trans Z_p.out hbq.size)
            clear hbq
            have hvq : (f != r0) = true := by simpa using hfc
            have e0 := kc HA.out B_q.out; have e1 := kc HA1.out B_q.out; have e2 := kc HA2.out B_q.out
            have ha_t := (Below.refl wq.heap.size wq).alloc (Nat.le_refl _) (.cells #[.int .i64 f, .int .i64 u, .int .i64 e] 91)
            have S_t := Lib.hid (one_k (k := kRq) szRq_cells (e := 91) (W := wq) (m := ((f, u, e) : Rqm)) (cs := [.int .i64 f, .int .i64 u, .int .i64 e]) rfl)
            have OA_t := Lib.hid (O_q.out.on ha_t); have BA_t := Lib.hid (B_q.out.trans (ha_t.mono B_q.out.size)); have XA_t := Lib.hid (X_q.out.on ha_t)
            have ZA_t := Lib.hid (Nat.le_trans Z_q.out ha_t.size)
            clear ha_t
            go_wp2_with (at_builtin; refine wpList_appK kindRq (B := w.heap.size + 1) (l := o9) (m := [((f, u, e) : Rqm)]) rfl _ _ rfl Try.underlying68 rfl rfl OA_t.out S_t.out (by simp; omega) (by unfold maxLen; simp; omega) ZA_t.out ?_)
            intro v_t w_t ho_t hg_t
            obtain ⟨x_t, n_t, c_t, rfl, -, -, ho_t⟩ := ho_t.shapeN
            have O_t := Lib.hid ho_t
            have B_t := Lib.hid (BA_t.out.grown hg_t BA_t.out.size (fun g hg => by have := (OA_t.out.lt g hg).1; omega))
            have X_t := Lib.hid (XA_t.out.grown hg_t (fun e5 => by have := (OA_t.out.lt _ (Eq.symm e5)).1; omega))
            have Z_t := Lib.hid (show w.heap.size + 1 ≤ w_t.heap.size from Nat.le_trans ZA_t.out hg_t.size)
            clear ho_t hg_t
            clear e0 e1 e2 hfc
            go_wp2
            go_roundw
            case rel => exact ⟨k + 1, by omega, by go_num, x_t, n_t, c_t, _, false, rfl, rfl, HPM, O_t, X_t, B_t, Z_t⟩
            case measure => simp [intOf]; omega
    · obtain rfl : k = n := by omega
      have hpe := putM_end _ _ _ _ hpm.out
      rw [List.take_of_length_le (by rw [HN.out]; exact Nat.le_refl _)] at hpe
      have HPE := Lib.hid hpe
      have O_p := ho; have X_p := hx; have B_p := hb; have Z_p := hz
      obtain ⟨wp, hwp⟩ : ∃ wp, wp = wr := ⟨_, rfl⟩
      subst hwp
      clear hpe hlt
      cases d9 with
      | true =>
        go_wp2
        go_ret
        exact ⟨_, rfl, (show OwnK _ _ _ _ _ _ (putR l (r0, r1, r2)) from by rw [← HPE.out]; exact O_p.out).mono (Nat.le_succ _), B_p.out⟩
      | false =>
        have r0c := X_p.out.cell 0; have r1c := X_p.out.cell 1; have r2c := X_p.out.cell 2
        have ha_s := (Below.refl wp.heap.size wp).alloc (Nat.le_refl _) (.cells #[.int .i64 r0, .int .i64 r1, .int .i64 r2] 91)
        have S_s := Lib.hid (one_k (k := kRq) szRq_cells (e := 91) (W := wp) (m := ((r0, r1, r2) : Rqm)) (cs := [.int .i64 r0, .int .i64 r1, .int .i64 r2]) rfl)
        have OA_s := Lib.hid (O_p.out.on ha_s); have BA_s := Lib.hid (B_p.out.trans (ha_s.mono B_p.out.size)); have XA_s := Lib.hid (X_p.out.on ha_s)
        have ZA_s := Lib.hid (Nat.le_trans Z_p.out ha_s.size)
        clear ha_s
        go_wp2_with (at_builtin; refine wpList_appK kindRq (B := w.heap.size + 1) (l := o9) (m := [((r0, r1, r2) : Rqm)]) rfl _ _ rfl Try.underlying68 rfl rfl OA_s.out S_s.out (by simp; omega) (by unfold maxLen; simp; omega) ZA_s.out ?_)
        intro v_s w_s ho_s hg_s
        obtain ⟨x_s, n_s, c_s, rfl, -, -, ho_s⟩ := ho_s.shapeN
        have O_s := Lib.hid ho_s
        have B_s := Lib.hid (BA_s.out.grown hg_s BA_s.out.size (fun g hg => by have := (OA_s.out.lt g hg).1; omega))
        have X_s := Lib.hid (XA_s.out.grown hg_s (fun e5 => by have := (OA_s.out.lt _ (Eq.symm e5)).1; omega))
        have Z_s := Lib.hid (show w.heap.size + 1 ≤ w_s.heap.size from Nat.le_trans ZA_s.out hg_s.size)
        clear r0c r1c r2c ho_s hg_s
        go_wp2
        go_ret
        exact ⟨_, rfl, (show OwnK _ _ _ _ _ _ (putR l (r0, r1, r2)) from by rw [← HPE.out]; exact O_s.out).mono (Nat.le_succ _), B_s.out⟩
end Go.Proofs.Ytjphnlkdbhcblaa.Row
/- The program finds a pending interest: pendingIndex, HasPending, LastSentAt. No conditions but that lengths fit. -/
namespace Go.Proofs.Ytjphnlkdbhcblaa.Row
open Go.ChangeShapes Go.WideShapes Go.ChangeAt Go.RowKit Go.Instr
set_option linter.unusedVariables false
set_option maxRecDepth 100000
set_option maxHeartbeats 2000000 in
theorem indexP1 (b0 : Addr) (p : Pit → Bool) (ok : Pit → Prop) (v : Value) (l : List Pit) (w : World) (z : Int) (hz : ixL p l = z) (h : kLPi.At w v l) (hl : l.length ≤ 9000000) (hp : ∀ x ∈ l, ok x) (hc : ClosK Try.prog kPi 124 #[.pointer (some b0)] p ok w) :
    Calls Try.prog 123 #[v, .func (.func 124) #[] #[.pointer (some b0)]] w fun e w' => e = .returned (.int .i64 z) ∧ Below w.heap.size w w' := by
  obtain ⟨x, n, cx, L, rfl, hn, ht, hh, hel⟩ := kLPi_at h
  have hlen : l.length = n := by rw [← ht, List.length_map]; exact hn.symm
  rw [hlen] at hl
  have hcap : n ≤ cx := by obtain ⟨x', n', cap', hv, hn', hc', -⟩ := hh.shapeN; cases hv; exact hc'
  have HN := Lib.hid hn; have HT := Lib.hid ht; have HH := Lib.hid hh; have HEL := Lib.hid hel; have HLEN := Lib.hid hlen; have HP := Lib.hid hp; have HC := Lib.hid hc; have HZ := Lib.hid hz
  clear hn h hh hc hp ht hel hlen hz
  go_enter Try.func123, Try.ntmps123
  go_wp2
  go_loopw [8] (fun iv wr => ∃ i : Nat, i ≤ n ∧ iv = .int .i64 i ∧ Hid (noL p l i) ∧ Hid (Below w.heap.size w wr)) (fun iv _ => n - (intOf iv).toNat)
  case atStart => exact ⟨0, Nat.zero_le _, rfl, Lib.hid (noL_zero _ _), Lib.hid (Below.refl _ _)⟩
  case round =>
    obtain ⟨k, hk, rfl, ha, hb⟩ := hrel
    by_cases hlt : k < n
    · have hlen := HN.out
      obtain ⟨b, off, y0, m0, d0, y1, m1, d1, rfl, -, hc0, hc1, hc2, hA⟩ := kLPi_elem (HH.out.on hb.out) (fun y hy => kPi.holds_on (HEL.out y hy) hb.out) (j := k) (by omega)
      have hpt : nth l k = kPi.strip (nth L k) := by rw [← HT.out, nth_map _ (by omega)]
      have hps := HP.out (nth l k) (nth_mem (by have := HLEN.out; omega))
      rw [hpt] at hps
      obtain ⟨q, hq⟩ : ∃ q, p (kPi.strip (nth L k)) = q := ⟨_, rfl⟩
      have HCL := HC.out _ _ wr hb.out hA hps
      rw [hq] at HCL
      rw [← hpt] at hq
      replace HCL := Lib.hid HCL
      have HQ := Lib.hid hq
      clear hlen hpt hps hA hq
      go_wp2_with fail
      refine HCL.out.mono ?_
      rintro e w2 ⟨rfl, hb2⟩
      have HB2 := Lib.hid (hb.out.trans (hb2.mono hb.out.size))
      clear hb2 hc0 hc1 hc2 HCL
      cases q with
      | true =>
        have HV := Lib.hid (show z = (k : Int) from HZ.out.symm.trans (ixL_at (by have := HLEN.out; omega) ha.out HQ.out))
        go_wp2
        go_ret
        exact ⟨ret_int HV.out.symm, HB2.out⟩
      | false =>
        have HA := Lib.hid (noL_succ ha.out HQ.out)
        go_wp2
        go_roundw
        case rel => exact ⟨k + 1, by omega, by go_num, HA, HB2⟩
        case measure => simp [intOf]; omega
    · obtain rfl : k = n := by omega
      have HV := Lib.hid (show z = -1 from HZ.out.symm.trans (ixL_none (by rw [HLEN.out]; exact ha.out)))
      clear hlt
      go_wp2
      go_ret
      exact ⟨ret_int HV.out.symm, hb.out⟩
theorem clos_pi (g : Nat) (m : List ByteArray) (w : World) {xn : Option Addr} {nn cn : Nat} (hg : w.cell? ⟨g, 0, none⟩ = some (.slice xn nn cn)) (h : kN.At w (.agg #[.slice xn nn cn]) m) (hm : bulk m ≤ 1200000) :
    ClosK Try.prog kPi 124 #[.pointer (some ⟨g, 0, none⟩)] (isP m) (fun x => wtPi x ≤ 1200000) w := by
  intro x V w1 hb hA hx
  obtain ⟨x0, n0, c0, x1, n1, c1, rfl, hA⟩ := kPi_shapeA hA
  obtain ⟨hN, -⟩ := kPi_parts hA
  have hg1 := kc hg hb
  have HX := Lib.hid (Ret.Blk.new w1 #[.slice x0 n0 c0, .slice x1 n1 c1, .int .i64 x.2.2] 101)
  have hal := (Below.refl w1.heap.size w1).alloc (Nat.le_refl _) (.cells #[.slice x0 n0 c0, .slice x1 n1 c1, .int .i64 x.2.2] 101)
  have HG := Lib.hid (kc hg1 hal)
  have HN := Lib.hid (hN.on hal); have HM := Lib.hid ((h.on hb).on hal); have HB := Lib.hid hal
  have l1 := (wtPi_lens hx).1
  obtain ⟨q, hq⟩ : ∃ q, decide (x.1 = m) = q := ⟨_, rfl⟩
  have HQ := Lib.hid hq
  unfold isP
  rw [hq]
  clear hal hN hA hg1 hg h hb hq
  go_enter Try.func124, Try.ntmps124
  have q0 := HX.out.cell 0
  have g0 := HG.out
  go_wp2_with fail
  refine (iEqK q HQ.out HN.out HM.out (by omega) (by omega)).mono ?_
  rintro e w2 ⟨rfl, hb2⟩
  have HB2 := Lib.hid (HB.out.trans (hb2.mono HB.out.size))
  clear hb2
  go_wp2
  go_ret
  exact ⟨rfl, HB2.out⟩
set_option maxHeartbeats 2000000 in
theorem pIndex (V U : Value) (l : List Pit) (m : List ByteArray) (w : World) (z : Int) (hz : ixL (isP m) l = z) (h : kLPi.At w V l) (g : kN.At w U m) (hl : l.length ≤ 9000000) (hp : ∀ x ∈ l, wtPi x ≤ 1200000) (hm : bulk m ≤ 1200000) :
    Calls Try.prog 80 #[V, U] w fun e w' => e = .returned (.int .i64 z) ∧ Below w.heap.size w w' := by
  obtain ⟨x, n, c, rfl, h⟩ := kLPi_shapeA h
  obtain ⟨xn, nn, cn, rfl, g⟩ := kN_shapeA g
  have hal := (Below.refl w.heap.size w).alloc (Nat.le_refl _) (.cells #[.slice xn nn cn] 27)
  have HH := Lib.hid (h.on hal); have HB := Lib.hid hal; have HP := Lib.hid hp; have HZ := Lib.hid hz
  have HC := Lib.hid (clos_pi w.heap.size m (w.alloc (.cells #[.slice xn nn cn] 27)) ((Ret.Blk.new w #[.slice xn nn cn] 27).cell 0) (g.on hal) hm)
  have hmf : ∀ (fn : Fn) (first cap : Array Value) (w : World), (Instr.makeFunc fn first cap).run Try.prog w = .ok (.func fn first cap) w := fun _ _ _ _ => rfl
  clear h g hp hz hal
  go_enter Try.func80, Try.ntmps80
  go_wp2_with fail
  refine (indexP1 _ (isP m) _ _ l _ z HZ.out HH.out hl HP.out HC.out).mono ?_
  rintro e w1 ⟨rfl, hb⟩
  have HB2 := Lib.hid (HB.out.trans (hb.mono HB.out.size))
  clear hb
  go_wp2
  go_ret
  exact ⟨rfl, HB2.out⟩
end Go.Proofs.Ytjphnlkdbhcblaa.Row
/- The model finds a pending interest: l13Find, HasPending, LastSentAt. No conditions but that lengths fit. -/
namespace Go.Proofs.Ytjphnlkdbhcblaa.Row
open Go.ChangeShapes Go.WideShapes Go.ChangeAt Go.RowKit Go.Instr
set_option linter.unusedVariables false
set_option maxRecDepth 100000
set_option maxRecDepth 100000 in
set_option maxHeartbeats 4000000 in
theorem rfp {Q : Exit → Act → World → Prop} {v1 v2 v4 v6 v7 v8 v9 v10 v11 v12 v13 v14 v15 v16 v17 v18 v19 : Value} {w : World} {b off n c g k na ca : Nat} {xa : Option Addr} {a m : List ByteArray} {z : Bool} {xn : Option Addr} {nn cn : Nat} (hk : k < n) (hkc : k ≤ c) (hn : n ≤ 9000000) (HZ : Hid (decide (a = m) = z)) (H_a : Hid (kN.At w (.agg #[.slice xa na ca]) a)) (H_m : Hid (kN.At w (.agg #[.slice xn nn cn]) m)) (HAB : Hid (bulk a ≤ 1200000)) (HMB : Hid (bulk m ≤ 1200000)) (K0 : Hid (w.cell? ⟨g, 0, none⟩ = some (.slice xn nn cn))) (K1 : Hid (w.cell? ⟨b, off + k * 3, none⟩ = some (.slice xa na ca)))
  (hQ : ∀ (u12 u13 u14 u15 u16 u17 : Value)  (wx : World), Below w.heap.size w wx → Q .normal ⟨#[.slice (some ⟨b, off, none⟩) n c, v1, v2, .pointer (some ⟨g, 0, none⟩), v4, .int .i64 k, v6, v7, v8, v9, v10, v11, u12, u13, u14, u15, u16, u17, .bool z, v19], []⟩ wx) :
  (Code.region 4 #[⟨some 12, .move (.tmp 0), 35, "l13_pend.go:7", #[], none⟩,
   ⟨some 13, .move (.tmp 5), 3, "l13_pend.go:7", #[], none⟩,
   ⟨some 14, .indexAddr 35 (.tmp 12) (.tmp 13), 0, "l13_pend.go:7", #[⟨0, .data⟩, ⟨1, .data⟩], none⟩,
   ⟨some 15, .fieldAddr 101 (.tmp 14) 0, 0, "l13_pend.go:7", #[⟨2, .data⟩], none⟩,
   ⟨some 16, .load 27 (.tmp 15), 27, "l13_pend.go:7", #[⟨3, .data⟩], none⟩,
   ⟨some 17, .load 27 (.tmp 3), 27, "l13_pend.go:7", #[], none⟩,
   ⟨some 18, .call ⟨.value (.func 83), #[.tmp 16, .tmp 17], #[27, 27]⟩, 4, "l13_pend.go:7", #[⟨4, .data⟩, ⟨5, .data⟩], none⟩] true).wp Try.prog Q ⟨#[.slice (some ⟨b, off, none⟩) n c, v1, v2, .pointer (some ⟨g, 0, none⟩), v4, .int .i64 k, v6, v7, v8, v9, v10, v11, v12, v13, v14, v15, v16, v17, v18, v19], []⟩ w := by
 have HQ := Lib.hid hQ; clear hQ
 have hdr : Below w.heap.size w w.drew := (Below.refl _ _).drew
 have BB := Lib.hid hdr
 refine wp_region_noPanic ?_
 refine wp_region_held_drew (S := (fun w' => w'.cell? ⟨g, 0, none⟩ = some (.slice xn nn cn) ∧ w'.cell? ⟨b, off + k * 3, none⟩ = some (.slice xa na ca))) (by kernel_rfl) ?_ (fun hHeld => ?_)
 ·
  exact ⟨kc K0.out BB.out, kc K1.out BB.out⟩
 clear hdr
 generalize w.drew = wd at *
 refine wpAnyH_take (i := 0) (oi := ⟨some 12, .move (.tmp 0), 35, "l13_pend.go:7", #[], none⟩) (v := ?_) rfl (by kernel_rfl) (by kernel_rfl) (by kernel_rfl) (fun _ _ _ h => h) (Or.inl ⟨by rfl, ?_⟩) (by assumption) ?_
 rotate_left
 ·
  intro w' hSw; (try dsimp only at hSw); first | (go_simp; done) | (go_simp; with_reducible rfl)
 (try simp only [Act.put, Row.pB0, Row.pB1, Row.pB2])
 refine wpAnyH_take (i := 1) (oi := ⟨some 13, .move (.tmp 5), 3, "l13_pend.go:7", #[], none⟩) (v := ?_) rfl (by kernel_rfl) (by kernel_rfl) (by kernel_rfl) (fun _ _ _ h => h) (Or.inl ⟨by rfl, ?_⟩) (by assumption) ?_
 rotate_left
 ·
  intro w' hSw; (try dsimp only at hSw); first | (go_simp; done) | (go_simp; with_reducible rfl)
 (try simp only [Act.put, Row.pB0, Row.pB1, Row.pB2])
 refine wpAnyH_take (i := 2) (oi := ⟨some 14, .indexAddr 35 (.tmp 12) (.tmp 13), 0, "l13_pend.go:7", #[⟨0, .data⟩, ⟨1, .data⟩], none⟩) (v := ?_) rfl (by kernel_rfl) (by kernel_rfl) (by kernel_rfl) (fun _ _ _ h => h) (Or.inl ⟨by rfl, ?_⟩) (by assumption) ?_
 rotate_left
 ·
  intro w' hSw; (try dsimp only at hSw); first | (go_simp; done) | (go_simp; with_reducible rfl)
 (try simp only [Act.put, Row.pB0, Row.pB1, Row.pB2])
 refine wpAnyH_take (i := 3) (oi := ⟨some 15, .fieldAddr 101 (.tmp 14) 0, 0, "l13_pend.go:7", #[⟨2, .data⟩], none⟩) (v := ?_) rfl (by kernel_rfl) (by kernel_rfl) (by kernel_rfl) (fun _ _ _ h => h) (Or.inl ⟨by rfl, ?_⟩) (by assumption) ?_
 rotate_left
 ·
  intro w' hSw; (try dsimp only at hSw); first | (go_simp; done) | (go_simp; with_reducible rfl)
 (try simp only [Act.put, Row.pB0, Row.pB1, Row.pB2])
 refine wpAnyH_take (i := 4) (oi := ⟨some 16, .load 27 (.tmp 15), 27, "l13_pend.go:7", #[⟨3, .data⟩], none⟩) (v := ?_) rfl (by kernel_rfl) (by kernel_rfl) (by kernel_rfl) (fun _ _ _ h => h) (Or.inl ⟨by rfl, ?_⟩) (by assumption) ?_
 rotate_left
 ·
  intro w' hSw; (try dsimp only at hSw); first | (go_simp; done) | (go_simp; with_reducible rfl)
 (try simp only [Act.put, Row.pB0, Row.pB1, Row.pB2])
 refine wpAnyH_take (i := 5) (oi := ⟨some 17, .load 27 (.tmp 3), 27, "l13_pend.go:7", #[], none⟩) (v := ?_) rfl (by kernel_rfl) (by kernel_rfl) (by kernel_rfl) (fun _ _ _ h => h) (Or.inl ⟨by rfl, ?_⟩) (by assumption) ?_
 rotate_left
 ·
  intro w' hSw; (try dsimp only at hSw); first | (go_simp; done) | (go_simp; with_reducible rfl)
 (try simp only [Act.put, Row.pB0, Row.pB1, Row.pB2])
 refine wpAnyH_ready (rs := [6]) (by kernel_rfl) (by simp) ?_
 refine AllReadyH.cons (o := ⟨some 18, .call ⟨.value (.func 83), #[.tmp 16, .tmp 17], #[27, 27]⟩, 4, "l13_pend.go:7", #[⟨4, .data⟩, ⟨5, .data⟩], none⟩) rfl (fun K hK => ?_) AllReadyH.nil
 go_simp
 refine (sEqK z HZ.out (H_a.out.on BB.out) (H_m.out.on BB.out) (Nat.le_trans HAB.out (by decide)) (Nat.le_trans HMB.out (by decide))).mono ?_
 rintro e wn1 ⟨rfl, hb⟩
 replace BB := Lib.hid (BB.out.trans (hb.mono BB.out.size))
 clear hb
 (try go_wp2_with fail)
 clear hHeld
 refine hK.out _ _ ?_ (fun hHeld => ?_)
 ·
  (try dsimp only); exact ⟨kc K0.out BB.out, kc K1.out BB.out⟩
 clear hK K
 (try simp only [Act.put, Row.pB0, Row.pB1, Row.pB2])
 refine wpAnyH_done (by kernel_rfl) ?_ _
 exact NoPanic.normal (HQ.out _ _ _ _ _ _  _  BB.out)
set_option maxHeartbeats 4000000 in
theorem sFindP (V U : Value) (l : List Pit) (m : List ByteArray) (w : World) (z : Int) (hz : ixL (isP m) l = z) (h : kLPi.At w V l) (g : kN.At w U m) (hl : l.length ≤ 9000000) (hp : ∀ x ∈ l, wtPi x ≤ 1200000) (hm : bulk m ≤ 1200000) :
    Calls Try.prog 77 #[V, U] w fun e w' => e = .returned (.int .i64 z) ∧ Below w.heap.size w w' := by
  obtain ⟨x, n, cx, L, rfl, hn, ht, hh, hel⟩ := kLPi_at h
  have hlen : l.length = n := by rw [← ht, List.length_map]; exact hn.symm
  rw [hlen] at hl
  have hcap : n ≤ cx := by obtain ⟨x', n', cap', hv, hn', hc', -⟩ := hh.shapeN; cases hv; exact hc'
  obtain ⟨xn, nn, cn, rfl, g⟩ := kN_shapeA g
  have b1 := (Below.refl w.heap.size w).alloc (Nat.le_refl _) (.cells #[.slice xn nn cn] 27)
  have HX := Lib.hid (Ret.Blk.new w #[.slice xn nn cn] 27)
  have HG := Lib.hid (g.on b1); have HB := Lib.hid b1; have HZ := Lib.hid hz; have HM := Lib.hid hm
  have HN := Lib.hid hn; have HT := Lib.hid ht; have HH := Lib.hid hh; have HEL := Lib.hid hel; have HLEN := Lib.hid hlen; have HP := Lib.hid hp
  clear b1 g hz hm hn ht hh hel hlen hp h
  go_enter Try.func77, Try.ntmps77
  go_wp2
  go_loopw [5] (fun iv wr => ∃ i : Nat, i ≤ n ∧ iv = .int .i64 i ∧ Hid (noL (isP m) l i) ∧ Hid (Ret.Blk wr w.heap.size #[.slice xn nn cn] 27) ∧ Hid (kN.At wr (.agg #[.slice xn nn cn]) m) ∧ Hid (Below w.heap.size w wr)) (fun iv _ => n - (intOf iv).toNat)
  case atStart => exact ⟨0, Nat.zero_le _, rfl, Lib.hid (noL_zero _ _), HX, HG, HB⟩
  case round =>
    obtain ⟨k, hk, rfl, ha, hx, hg, hb⟩ := hrel
    by_cases hlt : k < n
    · have hlen := HN.out
      obtain ⟨b, off, y0, m0, d0, y1, m1, d1, rfl, -, hc0, hc1, hc2, hA⟩ := kLPi_elem (HH.out.on hb.out) (fun y hy => kPi.holds_on (HEL.out y hy) hb.out) (j := k) (by omega)
      have hpt : nth l k = kPi.strip (nth L k) := by rw [← HT.out, nth_map _ (by omega)]
      have hps := HP.out (nth l k) (nth_mem (by have := HLEN.out; omega))
      rw [← hpt] at hA hc2
      obtain ⟨hNM, hRQ⟩ := kPi_parts hA
      have HA := Lib.hid hA; have HNM := Lib.hid hNM; have HRQ := Lib.hid hRQ; have HPS := Lib.hid hps; have HPN := Lib.hid (show bulk (nth l k).1 ≤ 1200000 from (wtPi_lens hps).1); have HPR := Lib.hid (show (nth l k).2.1.length ≤ 1200000 from (wtPi_lens hps).2)
      have H0 := Lib.hid hc0; have H1 := Lib.hid hc1; have H2 := Lib.hid hc2
      clear hlen hpt hps hA hNM hRQ
      obtain ⟨q, hq⟩ : ∃ q, decide ((nth l k).1 = m) = q := ⟨_, rfl⟩
      have HQ := Lib.hid hq; clear hq hc0 hc1 hc2
      go_wp2_with fail
      refine rfp hlt (by omega) hl HQ HNM hg HPN HM (Lib.hid (hx.out.cell 0)) H0 ?_
      intro u12 u13 u14 u15 u16 u17 wx hbx
      have hx2 := Lib.hid (hx.out.on hbx); have hg2 := Lib.hid (hg.out.on hbx); have hb2 := Lib.hid (hb.out.trans (hbx.mono hb.out.size))
      clear hbx
      cases q with
      | true =>
        have HV := Lib.hid (show z = (k : Int) from HZ.out.symm.trans (ixL_at (by have := HLEN.out; omega) ha.out HQ.out))
        go_wp2
        go_ret
        exact ⟨ret_int HV.out.symm, hb2.out⟩
      | false =>
        have HA2 := Lib.hid (noL_succ ha.out HQ.out)
        go_wp2
        go_roundw
        case rel => exact ⟨k + 1, by omega, by go_num, HA2, hx2, hg2, hb2⟩
        case measure => simp [intOf]; omega
    · obtain rfl : k = n := by omega
      have HV := Lib.hid (show z = -1 from HZ.out.symm.trans (ixL_none (by rw [HLEN.out]; exact ha.out)))
      clear hlt
      go_wp2
      go_ret
      exact ⟨ret_int HV.out.symm, hb.out⟩
end Go.Proofs.Ytjphnlkdbhcblaa.Row
/- Lists of elements of a kind, marked part by part: what a part's marking leaves of the list. For any kind and any program. No conditions. -/
namespace Go.Proofs.Ytjphnlkdbhcblaa.Row
open Go.ChangeShapes Go.WideShapes Go.ChangeAt Go.RowKit Go.Instr
set_option linter.unusedVariables false
set_option linter.unusedSectionVars false
set_option maxRecDepth 100000
section
variable {α M β N : Type} [Inhabited M] {k : Kd α M} {l : Kd β N} {B E : Nat} {w w' : World} {P : Program}
def MarkF (P : Program) (k : Kd α M) (fn : FuncId) (arg : M → Value) (adv : α → Nat) (mk : Int → α → α) : Prop :=
  ∀ (B E : Nat) (x : M) (w : World) (q : Int), k.Own B E w x → adv (k.strip x) ≤ 100000000 → 0 ≤ q → q + (adv (k.strip x) : Int) ≤ 100000000000 →
    Calls P fn #[arg x, .int .i64 q] w fun e w' => e = .returned (.int .i64 (q + (adv (k.strip x) : Int))) ∧ ∃ x', k.cells x' = k.cells x ∧ k.blocks x' = k.blocks x ∧ k.strip x' = mk q (k.strip x) ∧ k.Own B E w' x' ∧ WroteBy (k.blocks x) w w'
theorem MarkF.fst {fn : FuncId} {arg : M → Value} {adv : α → Nat} {mk : Int → α → α} (h : MarkF P k fn arg adv mk) (l : Kd β N) : MarkF P (k.pair l) fn (fun x => arg x.1) (fun a => adv a.1) (fun q a => (mk q a.1, a.2)) := by
  intro B E x w q ho hl h0 h1
  obtain ⟨m, n⟩ := x
  obtain ⟨o1, o2, hd⟩ := ho.parts
  refine (h B E m w q o1 hl h0 h1).mono ?_
  rintro e w' ⟨rfl, m', c, b, s, o, hw⟩
  refine ⟨rfl, (m', n), ?_, ?_, ?_, ?_, ?_⟩
  · show k.cells m' ++ l.cells n = k.cells m ++ l.cells n
    rw [c]
  · show k.blocks m' ++ l.blocks n = k.blocks m ++ l.blocks n
    rw [b]
  · show (k.strip m', l.strip n) = (mk q (k.strip m), l.strip n)
    rw [s]
  · exact Kd.Own.join o (hw.own o2 (fun g hg hg2 => hd g hg2 hg)) (by rw [b]; exact hd)
  · exact hw.more (fun g hg => List.mem_append_left _ hg)
theorem MarkF.snd {fn : FuncId} {arg : N → Value} {adv : β → Nat} {mk : Int → β → β} (h : MarkF P l fn arg adv mk) (k : Kd α M) : MarkF P (k.pair l) fn (fun x => arg x.2) (fun a => adv a.2) (fun q a => (a.1, mk q a.2)) := by
  intro B E x w q ho hl h0 h1
  obtain ⟨m, n⟩ := x
  obtain ⟨o1, o2, hd⟩ := ho.parts
  refine (h B E n w q o2 hl h0 h1).mono ?_
  rintro e w' ⟨rfl, n', c, b, s, o, hw⟩
  refine ⟨rfl, (m, n'), ?_, ?_, ?_, ?_, ?_⟩
  · show k.cells m ++ l.cells n' = k.cells m ++ l.cells n
    rw [c]
  · show k.blocks m ++ l.blocks n' = k.blocks m ++ l.blocks n
    rw [b]
  · show (k.strip m, l.strip n') = (k.strip m, mk q (l.strip n))
    rw [s]
  · exact Kd.Own.join (hw.own o1 (fun g hg hg2 => hd g hg hg2)) o (by rw [b]; exact hd)
  · exact hw.more (fun g hg => List.mem_append_right _ hg)
theorem flat_disj {γ : Type} {f : γ → List Nat} {L : List γ} (h : (L.flatMap f).Nodup) {i j : Nat} (hi : i < L.length) (hj : j < L.length) (hne : i ≠ j) : ∀ q ∈ f L[i], q ∉ f L[j] := by
  have h2 := (List.pairwise_flatMap.1 h).2
  have h3 := List.pairwise_iff_getElem.1 h2
  intro q hq hq2
  rcases Nat.lt_or_gt_of_ne hne with hl | hl
  · exact h3 i j hi hj hl q hq q hq2 rfl
  · exact h3 j i hj hi hl q hq2 q hq rfl
theorem flatB_one {γ : Type} {f : γ → List Nat} {L : List γ} (h : (L.flatMap f).Nodup) {j : Nat} (hj : j < L.length) : (f L[j]).Nodup :=
  (List.pairwise_flatMap.1 h).1 _ (List.getElem_mem hj)
theorem flatMap_set {γ δ : Type} {f : γ → List δ} {L : List γ} {j : Nat} (hj : j < L.length) {y : γ} (e : f y = f L[j]) : (L.set j y).flatMap f = L.flatMap f := by
  rw [List.flatMap_def, List.flatMap_def, List.map_set]
  congr 1
  have : f y = (L.map f)[j]'(by simpa using hj) := by simp [e]
  rw [this, List.set_getElem_self]
variable {e : TypeId} {ad : Option Addr} {n cap j : Nat} {L : List M}
theorem Kd.Own.row (h : (k.slice e).Own B E w ⟨ad, n, cap, L⟩) : OwnK e k.cells k.size B w (.slice ad n cap) L := h.1.1
theorem Kd.Own.apart (h : (k.slice e).Own B E w ⟨ad, n, cap, L⟩) : (L.flatMap k.blocks).Nodup ∧ ∀ g, (Value.slice ad n cap).ownBlock = some g → g ∉ L.flatMap k.blocks := by
  have h2 : ((Value.slice ad n cap).ownBlock.toList ++ L.flatMap k.blocks).Nodup := h.2.1
  have h3 := List.nodup_append.1 h2
  exact ⟨h3.2.1, fun g hg hg2 => h3.2.2 g (by simp [hg]) g hg2 rfl⟩
theorem Kd.Own.elem (h : (k.slice e).Own B E w ⟨ad, n, cap, L⟩) (hj : j < L.length) : k.Own B E w (nth L j) := by
  rw [nth_eq hj]
  refine ⟨h.1.2 _ (List.getElem_mem hj), flatB_one h.apart.1 hj, fun g hg => h.2.2 g ?_⟩
  exact List.mem_append_right _ (List.mem_flatMap.2 ⟨_, List.getElem_mem hj, hg⟩)
theorem Kd.Own.part (h : (k.slice e).Own B E w ⟨ad, n, cap, L⟩) (hj : j < L.length) {x' : M} (hc : k.cells x' = k.cells (nth L j)) (hb : k.blocks x' = k.blocks (nth L j)) (ho : k.Own B E w' x') (hw : WroteBy (k.blocks (nth L j)) w w') :
    (k.slice e).Own B E w' ⟨ad, n, cap, L.set j x'⟩ ∧ WroteBy (L.flatMap k.blocks) w w' := by
  rw [nth_eq hj] at hc hb hw
  obtain ⟨hnd, hrow⟩ := h.apart
  have hfb := flatMap_set hj hb
  have hfc : Row.flat k.cells (L.set j x') = Row.flat k.cells L := by
    unfold Row.flat
    exact flatMap_set hj hc
  refine ⟨⟨⟨?_, fun y hy => ?_⟩, ?_, ?_⟩, hw.more (fun g hg => List.mem_flatMap.2 ⟨_, List.getElem_mem hj, hg⟩)⟩
  · have hk : OwnK e k.cells k.size B w' (.slice ad n cap) L := ownK_keep h.row (fun g hg => hw.block g (h.row.lt g hg).2 (fun hg2 => hrow g hg (List.mem_flatMap.2 ⟨_, List.getElem_mem hj, hg2⟩)))
    show OwnK e k.cells k.size B w' (.slice ad n cap) (L.set j x')
    unfold OwnK at hk ⊢
    rw [List.length_set, hfc]
    exact hk
  · obtain ⟨i, hi, rfl⟩ := List.getElem_of_mem (show y ∈ L.set j x' from hy)
    have hi2 : i < L.length := by simpa using hi
    by_cases e1 : j = i
    · subst e1
      rw [List.getElem_set_self]
      exact ho.1
    · rw [List.getElem_set_ne e1]
      refine k.own_keep (h.1.2 _ (List.getElem_mem hi2)) (fun g hg => hw.block g (k.own_lt (h.1.2 _ (List.getElem_mem hi2)) g hg).2 (fun hg2 => flat_disj hnd hi2 hj (fun e2 => e1 e2.symm) g hg hg2))
  · show ((Value.slice ad n cap).ownBlock.toList ++ (L.set j x').flatMap k.blocks).Nodup
    rw [hfb]
    exact h.2.1
  · intro g hg
    have hg2 : g ∈ (Value.slice ad n cap).ownBlock.toList ++ (L.set j x').flatMap k.blocks := hg
    rw [hfb] at hg2
    exact h.2.2 g hg2
theorem Kd.Own.put {g : Nat} (h : (k.slice e).Own B E w ⟨some ⟨g, 0, none⟩, n, cap, L⟩) (hn : n = L.length) (hj : j < L.length) {i : Nat} (hi : i < k.size) {u : Value} {x' : M} (hc : k.cells x' = (k.cells (nth L j)).set i u) (hb : k.blocks x' = k.blocks (nth L j)) (ho : ∀ {W : World}, k.own B W (nth L j) → k.own B W x') :
    (k.slice e).Own B E (w.setCell ⟨g, j * k.size + i, none⟩ u) ⟨some ⟨g, 0, none⟩, n, cap, L.set j x'⟩ ∧ w.grownBy (w.setCell ⟨g, j * k.size + i, none⟩ u) (some g) := by
  obtain ⟨a1, a2⟩ := ownK_store (fun m => k.len m) h.row hn hj hi hc
  obtain ⟨hnd, hrow⟩ := h.apart
  have hg0 := hrow g rfl
  have hfb := flatMap_set (f := k.blocks) hj (by rw [hb, nth_eq hj])
  have keep : ∀ {y : M}, y ∈ L → k.own B (w.setCell ⟨g, j * k.size + i, none⟩ u) y := fun {y} hy => k.own_keep (h.1.2 y hy) (fun q hq => a2.block q (k.own_lt (h.1.2 y hy) q hq).2 (fun e1 => hg0 (by cases e1; exact List.mem_flatMap.2 ⟨y, hy, hq⟩)))
  refine ⟨⟨⟨a1, fun y hy => ?_⟩, ?_, ?_⟩, a2⟩
  · rcases List.mem_or_eq_of_mem_set (show y ∈ L.set j x' from hy) with hy | rfl
    · exact keep hy
    · exact ho (keep (nth_mem hj))
  · show ((Value.slice (some ⟨g, 0, none⟩) n cap).ownBlock.toList ++ (L.set j x').flatMap k.blocks).Nodup
    rw [hfb]
    exact h.2.1
  · intro q hq
    have hg2 : q ∈ (Value.slice (some ⟨g, 0, none⟩) n cap).ownBlock.toList ++ (L.set j x').flatMap k.blocks := hq
    rw [hfb] at hg2
    exact h.2.2 q hg2
end
section
variable {α : Type} [Inhabited α] (a : α → Nat) (f : Int → α → α)
def advK : List α → Nat
  | [] => 0
  | x :: r => a x + advK r
def mkLK (q : Int) : List α → List α
  | [] => []
  | x :: r => f q x :: mkLK (q + (a x : Int)) r
theorem advK_append : ∀ (l m : List α), advK a (l ++ m) = advK a l + advK a m
  | [], m => by simp [advK]
  | x :: l, m => by simp [advK, advK_append l m]; omega
theorem advK_take {l : List α} {j : Nat} (h : j < l.length) : advK a (l.take (j + 1)) = advK a (l.take j) + a (nth l j) := by
  rw [List.take_succ_eq_append_getElem h, advK_append, nth_eq h]; simp [advK]
theorem advK_take_le (l : List α) (j : Nat) : advK a (l.take j) ≤ advK a l := by
  have := advK_append a (l.take j) (l.drop j)
  rw [List.take_append_drop] at this; omega
theorem mkLK_append (q : Int) : ∀ (l m : List α), mkLK a f q (l ++ m) = mkLK a f q l ++ mkLK a f (q + (advK a l : Int)) m
  | [], m => by simp [mkLK, advK]
  | x :: l, m => by
    simp only [List.cons_append, mkLK, advK, mkLK_append _ l m]
    congr 3
    simp; omega
theorem mkLK_length (q : Int) : ∀ l : List α, (mkLK a f q l).length = l.length
  | [] => rfl
  | x :: r => by simp [mkLK, mkLK_length _ r]
theorem mkLK_take (q : Int) {l : List α} {j : Nat} (h : j < l.length) : mkLK a f q (l.take (j + 1)) = mkLK a f q (l.take j) ++ [f (q + (advK a (l.take j) : Int)) (nth l j)] := by
  rw [List.take_succ_eq_append_getElem h, mkLK_append, nth_eq h]; rfl
theorem mkLK_at (q : Int) {l : List α} {j : Nat} (h : j < l.length) : nth (mkLK a f q l) j = f (q + (advK a (l.take j) : Int)) (nth l j) := by
  have e := mkLK_append a f q (l.take (j + 1)) (l.drop (j + 1))
  rw [List.take_append_drop, mkLK_take a f q h] at e
  have h2 : (mkLK a f q (l.take j)).length = j := by rw [mkLK_length, List.length_take]; omega
  rw [e]
  simp only [nth, List.getD]
  rw [List.append_assoc, List.getElem?_append_right (by omega), h2]
  simp
end
end Go.Proofs.Ytjphnlkdbhcblaa.Row
/- MarkSent, model and program. No conditions but that lengths fit. -/
namespace Go.Proofs.Ytjphnlkdbhcblaa.Row
open Go.ChangeShapes Go.WideShapes Go.ChangeAt Go.RowKit Go.Instr
set_option linter.unusedVariables false
set_option maxRecDepth 100000
theorem row_form {α M : Type} {k : Kd α M} {e : TypeId} {B E : Nat} {w : World} {x : Option Addr} {n c : Nat} {L : List M} (h : (k.slice e).Own B E w ⟨x, n, c, L⟩) {j : Nat} (hj : j < L.length) : ∃ g, x = some ⟨g, 0, none⟩ ∧ n = L.length ∧ n ≤ c ∧ B ≤ g ∧ g < w.heap.size := by
  have hnl : n = L.length := h.1.1.holds.lenEq
  have hnc : n ≤ c := by obtain ⟨x', n', cap', hv, hn', hc', -⟩ := h.1.1.holds.shapeN; cases hv; exact hc'
  rcases h.1.1.form with ⟨hv, hL⟩ | ⟨g, cap', hv, h1, h2, h3, h4⟩
  · rw [show L = [] from hL] at hj
    exact absurd hj (by simp)
  · replace hv : Value.slice x n c = .slice (some ⟨g, 0, none⟩) L.length cap' := hv
    injection hv with e5 e6 e7
    exact ⟨g, e5, hnl, hnc, h1, h2⟩
end Go.Proofs.Ytjphnlkdbhcblaa.Row
/- wantedRequesters: what its iterator hands to a loop. No conditions but that lengths fit. -/
namespace Go.Proofs.Ytjphnlkdbhcblaa.Row
open Go.ChangeShapes Go.WideShapes Go.ChangeAt Go.RowKit Go.Instr
open Go.Shelf
attribute [local go_sem] Oper.semAt_some
set_option linter.unusedVariables false
set_option maxRecDepth 100000
def rqV (x : Rqt) : Value := .agg #[.int .i64 x.1, .int .i64 x.2.1, .int .i64 x.2.2]
theorem at_rqV (w : World) (x : Rqt) : kRq.At w (rqV x) x := kRq_of
theorem belowK_t9 {n₀ : Nat} {X Y Z : World} (h : Below n₀ X Y) (k : Below n₀ Y Z) : Below n₀ X Z := h.trans k
theorem grown_none {W W' : World} (h : Below W.heap.size W W') : W.grownBy W' none := Sl.grown_of_below h none
set_option maxHeartbeats 4000000 in
theorem wantR (n : Nat) (hn : 1 ≤ n) (l Bl Bf Bc n₀ : Nat) (x : Option Addr) (len cap : Nat) (L : List Rqm) (p : Rqt → Bool) (w0 : World) (hw0 : w0.heap.size = n₀) (hl9 : len ≤ 9000000) (hlen : len = L.length) (hlc : len ≤ cap)
    (J Jx : List Rqt → World → Prop) (hJ : ∀ s W W', J s W → Below W.heap.size W W' → J s W')
    (hc : ClosK Try.prog kRq 128 #[.pointer (some ⟨Bc, 0, none⟩)] p (fun _ => True) w0) (hBl : w0.cell? ⟨Bl, 0, none⟩ = some (.slice x len cap)) (hBf : w0.cell? ⟨Bf, 0, none⟩ = some (.func (.func 128) #[] #[.pointer (some ⟨Bc, 0, none⟩)])) (hh : HoldsK kRq.cells 3 w0 (.slice x len cap) L)
    (hY : ∀ pre y W, J pre W → pre.length < (L.filter p).length → YieldAt Fence.wide (n - 1) Try.prog l #[rqV y] W fun e W' =>
      (e = .returned (.bool true) ∧ J (pre ++ [y]) W' ∧ Below n₀ W W') ∨ (e = .returned (.bool false) ∧ Jx (pre ++ [y]) W'))
    (W : World) (hW : Below n₀ w0 W) (h0 : J [] W) :
    CallsIn Fence.wide n Try.prog 134 #[.func (.yield l) #[] #[], .pointer (some ⟨Bl, 0, none⟩), .pointer (some ⟨Bf, 0, none⟩)] W fun e W' => (∃ v, e = .returned v) ∧ (J (L.filter p) W' ∨ ∃ pre, Jx pre W') := by
  refine callsIn_of_wp Try.func134 rfl trivial ?_ rfl
  simp only [Try.ntmps134, List.size_toArray, List.length_cons, List.length_nil, Nat.reduceAdd, Nat.reduceSub, Array.replicate_succ, Array.replicate_zero, List.push_toArray, List.append_toArray, List.nil_append, List.cons_append]
  have q0 : W.cell? ⟨Bl, 0, none⟩ = some (.slice x len cap) := (hW.cell (by rw [← hw0]; exact Ret.cell_lt hBl)).trans hBl
  have HC := Lib.hid hc; have HBl := Lib.hid hBl; have HBf := Lib.hid hBf; have HH := Lib.hid hh; have HW0 := Lib.hid hw0; have HY := Lib.hid hY; have HJ := Lib.hid hJ; have HLEN := Lib.hid hlen
  clear hc hBl hBf hh hw0 hY hJ hlen
  gi_wp2
  gi_loopw [8] (fun iv wr => ∃ k : Nat, k ≤ len ∧ iv = .int .i64 k ∧ J ((L.take k).filter p) wr ∧ Hid (Below n₀ w0 wr)) (fun iv _ => len - (intOf iv).toNat)
  case atStart => exact ⟨0, Nat.zero_le _, rfl, h0, Lib.hid hW⟩
  case round =>
    obtain ⟨k, hk, rfl, hJs, hb⟩ := hrel
    by_cases hlt : k < len
    · have hlen := HLEN.out
      have hb0 : Below w0.heap.size w0 wr := by rw [HW0.out]; exact hb.out
      obtain ⟨b, off, rfl, hcm⟩ := HH.out.at szRq_cells (j := k) (by omega)
      obtain ⟨f, u, e, hx⟩ : ∃ f u e, nth L k = (f, u, e) := ⟨_, _, _, rfl⟩
      have hcc : ∀ i, i < 3 → wr.cell? ⟨b, off + k * 3 + i, none⟩ = ([.int .i64 f, .int .i64 u, .int .i64 e] : List Value)[i]? := fun i hi => by
        have h5 := hcm i hi
        rw [hx, ← Nat.add_assoc] at h5
        have h6 : ([.int .i64 f, .int .i64 u, .int .i64 e] : List Value)[i]? = some (([.int .i64 f, .int .i64 u, .int .i64 e] : List Value)[i]'hi) := List.getElem?_eq_getElem hi
        rw [h6]
        exact kc (h5.trans h6) hb0
      have c0 : wr.cell? ⟨b, off + k * 3, none⟩ = some (.int .i64 f) := hcc 0 (by decide)
      have c1 : wr.cell? ⟨b, off + k * 3 + 1, none⟩ = some (.int .i64 u) := hcc 1 (by decide)
      have c2 : wr.cell? ⟨b, off + k * 3 + 2, none⟩ = some (.int .i64 e) := hcc 2 (by decide)
      have hal := (Below.refl wr.heap.size wr).alloc (Nat.le_refl _) (.cells #[.int .i64 f, .int .i64 u, .int .i64 e] 91)
      have f0 : (wr.alloc (.cells #[.int .i64 f, .int .i64 u, .int .i64 e] 91)).cell? ⟨Bf, 0, none⟩ = some (.func (.func 128) #[] #[.pointer (some ⟨Bc, 0, none⟩)]) := kc (kc HBf.out hb0) hal
      have HX := Lib.hid (Ret.Blk.new wr #[.int .i64 f, .int .i64 u, .int .i64 e] 91)
      have HB1 := Lib.hid (hb.out.trans (hal.mono (by have := hb.out.size; have := HW0.out; omega)))
      obtain ⟨q, hq⟩ : ∃ q, p (f, u, e) = q := ⟨_, rfl⟩
      have HCL := HC.out (f, u, e) (rqV (f, u, e)) (wr.alloc (.cells #[.int .i64 f, .int .i64 u, .int .i64 e] 91)) (by rw [HW0.out]; exact HB1.out) (at_rqV _ _) trivial
      rw [hq] at HCL
      replace HCL := Lib.hid HCL
      have HJ1 := Lib.hid (HJ.out _ _ _ hJs hal)
      have HQ := Lib.hid hq; have HXE := Lib.hid hx
      clear hcm hcc hx hal hq hlen hb0 hJs
      have hkl : k < L.length := by have := HLEN.out; omega
      cases q with
      | false =>
        have HF := Lib.hid (show (L.take (k + 1)).filter p = (L.take k).filter p from filter_sk hkl (by rw [HXE.out]; exact HQ.out))
        gi_wp2
        refine ⟨trivial, ?_⟩
        gi_at_call 128
        refine (callsIn_wide.2 HCL.out).mono ?_
        rintro e' w2 ⟨rfl, hb2⟩
        have HB2 := Lib.hid (HB1.out.trans (hb2.mono (by have := HB1.out.size; have := HW0.out; omega)))
        have HJ2 := Lib.hid (HJ.out _ _ _ HJ1.out hb2)
        have hx2 := (HX.out.on hb2)
        have x0 : w2.cell? ⟨wr.heap.size, 0, none⟩ = some (.int .i64 f) := hx2.cell 0
        have x1 : w2.cell? ⟨wr.heap.size, 1, none⟩ = some (.int .i64 u) := hx2.cell 1
        have x2 : w2.cell? ⟨wr.heap.size, 2, none⟩ = some (.int .i64 e) := hx2.cell 2
        clear hb2 hx2
        gi_wp2
        refine ⟨(fun f hf => nomatch hf), ?_⟩
        gi_wp2
        go_roundw
        case rel => exact ⟨k + 1, by omega, by go_num, HF.out ▸ HJ2.out, HB2⟩
        case measure => simp [intOf]; omega
      | true =>
        have HF := Lib.hid (show (L.take (k + 1)).filter p = (L.take k).filter p ++ [(f, u, e)] from by rw [filter_nx hkl (by rw [HXE.out]; exact HQ.out), HXE.out])
        have hlt2 : ((L.take k).filter p).length < (L.filter p).length := by
          have h5 : ((L.take (k + 1)).filter p).length ≤ (L.filter p).length := (List.Sublist.filter _ (List.take_sublist _ _)).length_le
          rw [HF.out, List.length_append] at h5
          simp only [List.length_singleton] at h5
          omega
        gi_wp2
        refine ⟨trivial, ?_⟩
        gi_at_call 128
        refine (callsIn_wide.2 HCL.out).mono ?_
        rintro e' w2 ⟨rfl, hb2⟩
        have HB2 := Lib.hid (HB1.out.trans (hb2.mono (by have := HB1.out.size; have := HW0.out; omega)))
        have HJ2 := Lib.hid (HJ.out _ _ _ HJ1.out hb2)
        have hx2 := (HX.out.on hb2)
        have x0 : w2.cell? ⟨wr.heap.size, 0, none⟩ = some (.int .i64 f) := hx2.cell 0
        have x1 : w2.cell? ⟨wr.heap.size, 1, none⟩ = some (.int .i64 u) := hx2.cell 1
        have x2 : w2.cell? ⟨wr.heap.size, 2, none⟩ = some (.int .i64 e) := hx2.cell 2
        clear hb2 hx2
        obtain ⟨fn, tmps, assign, body, hy, hR⟩ := HY.out _ (f, u, e) w2 HJ2.out hlt2
        unfold rqV at hy
        dsimp only at hy
        gi_wp2
        refine hR.mono ?_
        rintro e' W3 (⟨rfl, hJ3, hk3⟩ | ⟨rfl, hJx3⟩)
        · have HB3 := Lib.hid (HB2.out.trans hk3)
          gi_wp2
          go_roundw
          case rel => exact ⟨k + 1, by omega, by go_num, HF.out ▸ hJ3, HB3⟩
          case measure => simp [intOf]; omega
        · gi_wp2
          refine bodyPost_ret (results_none rfl _ _ _) rfl ?_
          exact ⟨⟨_, rfl⟩, .inr ⟨_, hJx3⟩⟩
    · obtain rfl : k = len := by omega
      have HF := Lib.hid (show (L.take k).filter p = L.filter p by rw [List.take_of_length_le (by rw [HLEN.out]; exact Nat.le_refl _)])
      gi_wp2
      go_end0
      exact ⟨⟨_, rfl⟩, .inl (HF.out ▸ hJs)⟩
end Go.Proofs.Ytjphnlkdbhcblaa.Row
/- slices.Collect over wantedRequesters. No conditions but that lengths fit. -/
namespace Go.Proofs.Ytjphnlkdbhcblaa.Row
open Go.ChangeShapes Go.WideShapes Go.ChangeAt Go.RowKit Go.Instr
open Go.Shelf
attribute [local go_sem] Oper.semAt_some
set_option linter.unusedVariables false
set_option maxRecDepth 100000
theorem blk3_new (W : World) (a b c : Value) (t : TypeId) (j : Nat) (u : Value) (hj : [a, b, c][j]? = some u) : (W.alloc (.cells #[a, b, c] t)).cell? ((⟨W.heap.size, 0, none⟩ : Addr).add j) = some u := by
  have h5 := (Ret.Blk.new W #[a, b, c] t).cell j
  have h7 : (⟨W.heap.size, 0, none⟩ : Addr).add j = ⟨W.heap.size, j, none⟩ := by simp [Addr.add]; intro h; exact h.symm
  rw [h7]
  refine h5.trans ?_
  simpa using hj
theorem blk_own {g : Nat} {cs : Array Value} {t : TypeId} : Go.Own (fun (_ : Unit) W => Ret.Blk W g cs t) := fun s X Y row hs hg hrow => by
  refine (hg.block g hs.lt (fun e => ?_)).trans hs
  obtain ⟨o, ho, hc⟩ := hrow g e.symm
  rw [show X.heap[g]? = _ from hs] at ho
  cases ho
  cases hc
theorem stopsR (n : Nat) (hn : 1 ≤ n) (Bl Bf Bc : Nat) (x : Option Addr) (len cap : Nat) (L : List Rqm) (p : Rqt → Bool) (w0 : World) (hl9 : len ≤ 9000000) (hlen : len = L.length) (hlc : len ≤ cap)
    (hc : ClosK Try.prog kRq 128 #[.pointer (some ⟨Bc, 0, none⟩)] p (fun _ => True) w0) (hBl : w0.cell? ⟨Bl, 0, none⟩ = some (.slice x len cap)) (hBf : w0.cell? ⟨Bf, 0, none⟩ = some (.func (.func 128) #[] #[.pointer (some ⟨Bc, 0, none⟩)])) (hh : HoldsK kRq.cells 3 w0 (.slice x len cap) L) :
    SeqStopsK Fence.wide n Try.prog 134 #[.pointer (some ⟨Bl, 0, none⟩), .pointer (some ⟨Bf, 0, none⟩)] (fun y : Rqt => #[.agg #[.int .i64 y.1, .int .i64 y.2.1, .int .i64 y.2.2]]) (Below w0.heap.size) (fun ys => ys = L.filter p) (fun _ => True) (L.filter p).length w0 := fun l J Jx W hW hJ _ hY h0 =>
  (wantR n hn l Bl Bf Bc w0.heap.size x len cap L p w0 rfl hl9 hlen hlc J Jx (fun s X Y hs hb => hJ s X Y none hs (grown_none hb) (fun r e => by cases e)) hc hBl hBf hh hY W hW h0).mono fun e W' h =>
    ⟨h.1, h.2.elim (fun h => .inl ⟨_, rfl, h⟩) (fun ⟨pre, h⟩ => .inr ⟨pre, trivial, h⟩)⟩
set_option maxRecDepth 100000 in
set_option maxHeartbeats 8000000 in
theorem appSeqR (Bl Bf Bc : Nat) (x : Option Addr) (len cap : Nat) (L : List Rqm) (p : Rqt → Bool) (w : World) (hl9 : len ≤ 1200000) (hlen : len = L.length) (hlc : len ≤ cap)
    (hc : ClosK Try.prog kRq 128 #[.pointer (some ⟨Bc, 0, none⟩)] p (fun _ => True) w) (hBl : w.cell? ⟨Bl, 0, none⟩ = some (.slice x len cap)) (hBf : w.cell? ⟨Bf, 0, none⟩ = some (.func (.func 128) #[] #[.pointer (some ⟨Bc, 0, none⟩)])) (hh : HoldsK kRq.cells 3 w (.slice x len cap) L) :
    Calls Try.prog 133 #[.slice none 0 0, .func (.func 134) #[] #[.pointer (some ⟨Bl, 0, none⟩), .pointer (some ⟨Bf, 0, none⟩)]] w fun e w' => ∃ v, e = .returned v ∧ OwnK 91 kRq.cells 3 w.heap.size w' v (L.filter p) ∧ Below w.heap.size w w' := by
  have HSQ := Lib.hid (stopsR 2 (by decide) Bl Bf Bc x len cap L p w (by omega) hlen hlc hc hBl hBf hh)
  have hfl : (L.filter p).length ≤ 1200000 := Nat.le_trans (List.length_filter_le _ _) (by omega)
  obtain ⟨i0, hi, hz0, hz1, hz2⟩ := info_parts kindRq.elem
  have bO := Boxed.new w 68 (.slice none 0 0)
  have hB0 : Below w.heap.size w (w.alloc (.cells #[.slice none 0 0] 68)) := (Below.refl _ w).alloc (Nat.le_refl _) _
  clear hc hBl hBf hh hlen hlc hl9
  refine (callsIn_wide (n := 3)).1 ?_
  refine callsIn_of_wp_marks Try.func133 rfl trivial ?_ rfl
  simp only [Try.ntmps133, List.size_toArray, List.length_cons, List.length_nil, Nat.reduceAdd, Nat.reduceSub, Array.replicate_succ, Array.replicate_zero, List.push_toArray, List.append_toArray, List.nil_append, List.cons_append]
  gi_wp2
  refine wpIn_rangeFunc_ownH rfl (by omega) (gf := 134) (lb := #[.pointer (some ⟨Bl, 0, none⟩), .pointer (some ⟨Bf, 0, none⟩)]) rfl trivial (enters_of Try.func134 (by kernel_rfl) rfl)
    HSQ.out belowK_t9 (belowK_b (by simp)) hB0 (fun _ => rfl)
    (fun pre W => (∃ v, Boxed W w.heap.size 68 v ∧ W.ownsRow w.heap.size 91 3 v pre.length (flat kRq.cells pre) ∧ True) ∧ Below w.heap.size w W)
    (fun _ _ _ => False)
    (OwnFrom.and (Own.from (holdsRow_own w.heap.size w.heap.size 68 91 3 (fun pre : List Rqt => pre.length) (fun pre => flat kRq.cells pre) (fun _ _ => True)) _) (ownFrom_below (Nat.le_refl _) (by simp)))
    (fun _ _ _ _ _ hs _ _ => hs)
    ⟨⟨_, bO, World.ownsRow_nil _ _ _ _, trivial⟩, hB0⟩
    (fun y a' W => ∃ Bx, w.heap.size < Bx ∧ Ret.Blk W Bx #[.int .i64 y.1, .int .i64 y.2.1, .int .i64 y.2.2] 91 ∧ a' = { tmps := #[.slice none 0 0, .func (.func 134) #[] #[.pointer (some ⟨Bl, 0, none⟩), .pointer (some ⟨Bf, 0, none⟩)], .pointer (some ⟨w.heap.size, 0, none⟩), undef, .slice none 0 0, .pointer (some ⟨Bx, 0, none⟩), .func (.func 134) #[] #[.pointer (some ⟨Bl, 0, none⟩), .pointer (some ⟨Bf, 0, none⟩)], .agg #[.int .i64 y.1, .int .i64 y.2.1, .int .i64 y.2.2], undef, undef, undef, undef, undef], defers := [] })
    (fun y a' _ X Y row hs hg hr => by obtain ⟨Bx, h1, h2, h3⟩ := hs; exact ⟨Bx, h1, blk_own () X Y row h2 hg (fun r e => (hr r e).2), h3⟩)
    ?assign ?body ?done ?stop
  case assign =>
    rintro l pre y W K ⟨⟨v, bS, hrow, -⟩, hB⟩ hK
    gi_wp2
    exact hK _ _ ((KeepsOthers.alloc _ _).from _) ((Below.refl _ W).alloc hB.size _) ⟨⟨v, bS.alloc _, hrow.alloc _, trivial⟩, hB.alloc hB.size _⟩ ⟨W.heap.size, bS.lt, Ret.Blk.new W _ _, rfl⟩
  case body =>
    rintro l pre y a' W hl - ⟨⟨v, hv, hrow, -⟩, hB⟩ ⟨Bx, hBx, bX, rfl⟩ hlt
    have hc := hv.cell
    have x0 := bX.cell 0; have x1 := bX.cell 1; have x2 := bX.cell 2
    have hpl : pre.length + 1 ≤ 1200000 := by omega
    gi_wp2_with (gi_at_builtin; refine wpListIn_append_own _ rfl _ _ 68 rfl w.heap.size 91 i0 (.agg #[.int .i64 0, .int .i64 0, .int .i64 0]) 3 _ Try.underlying68 hi hz0 hz1 hz2 rfl (by decide) _ _ _ rfl (hrow.alloc _) ⟨W.heap.size, 0, none⟩ 1 1 [.int .i64 y.1, .int .i64 y.2.1, .int .i64 y.2.2] rfl rfl (blk3_new W _ _ _ _) (by simp [Value.oneCell']) (by unfold maxLen; omega) (by omega) (by have := hB.size; simp; omega) ?_; intro v' w1 hown' hgrow _; obtain ⟨g', cap', rfl⟩ := ownsRow_succ hown'; obtain ⟨hv1, hv2, hr2, hk2, hb2⟩ := hv.appended (by decide) hrow hB.size (Nat.le_refl _) hown' hgrow; have hc1 := hv1.cell; have hf1 := hv1.frozen)
    exact ⟨hk2.from _, hb2, ⟨_, hv2, by rw [List.length_append, flat_append]; exact hr2, trivial⟩, hB.trans hb2⟩
  case done =>
    rintro D ys W hD rfl ⟨⟨v, hv, hrow, -⟩, hB⟩ hK
    have hc := hv.cell
    gi_wp2
    refine ⟨by simp, .inl ⟨_, _, rfl, run_takeDeferred hK, ?_⟩⟩
    exact ⟨_, results_tmp rfl _ _ _, v, rfl, ownsRow_putObj hrow _ hK rfl, hB.trans (belowK_b (w := w) (Nat.le_refl _) W D _ _ (by simp at hD; omega) hK rfl rfl)⟩
  case stop =>
    rintro D c pre W _ _ h _
    exact h.elim
set_option maxHeartbeats 2000000 in
theorem collectR (Bl Bf Bc : Nat) (x : Option Addr) (len cap : Nat) (L : List Rqm) (p : Rqt → Bool) (w : World) (hl9 : len ≤ 1200000) (hlen : len = L.length) (hlc : len ≤ cap)
    (hc : ClosK Try.prog kRq 128 #[.pointer (some ⟨Bc, 0, none⟩)] p (fun _ => True) w) (hBl : w.cell? ⟨Bl, 0, none⟩ = some (.slice x len cap)) (hBf : w.cell? ⟨Bf, 0, none⟩ = some (.func (.func 128) #[] #[.pointer (some ⟨Bc, 0, none⟩)])) (hh : HoldsK kRq.cells 3 w (.slice x len cap) L) :
    Calls Try.prog 101 #[.func (.func 134) #[] #[.pointer (some ⟨Bl, 0, none⟩), .pointer (some ⟨Bf, 0, none⟩)]] w fun e w' => ∃ v, e = .returned v ∧ OwnK 91 kRq.cells 3 w.heap.size w' v (L.filter p) ∧ Below w.heap.size w w' := by
  have HA := Lib.hid (appSeqR Bl Bf Bc x len cap L p w hl9 hlen hlc hc hBl hBf hh)
  clear hc hBl hBf hh hlen hlc hl9
  go_enter Try.func101, Try.ntmps101
  go_wp2_with fail
  refine HA.out.mono ?_
  rintro e w1 ⟨v, rfl, ho, hb⟩
  obtain ⟨x1, n1, c1, rfl, -, -, ho⟩ := ho.shapeN
  have HO := Lib.hid ho; have HB := Lib.hid hb
  clear ho hb
  go_wp2_with fail
  go_ret
  exact ⟨_, rfl, HO.out, HB.out⟩
end Go.Proofs.Ytjphnlkdbhcblaa.Row
/- requestersOf: what its iterator hands to a loop. No conditions but that lengths fit. -/
namespace Go.Proofs.Ytjphnlkdbhcblaa.Row
open Go.ChangeShapes Go.WideShapes Go.ChangeAt Go.RowKit Go.Instr
open Go.Shelf
attribute [local go_sem] Oper.semAt_some
set_option linter.unusedVariables false
set_option maxRecDepth 100000
def reqsOf (n : List ByteArray) (l : List Pit) : List Rqt := l.flatMap fun x => if isP n x = true then x.2.1 else []
end Go.Proofs.Ytjphnlkdbhcblaa.Row
/- slices.Delete and slices.DeleteFunc on rows of pending interests and of seen nonces. No conditions but that lengths fit. -/
namespace Go.Proofs.Ytjphnlkdbhcblaa.Row
open Go.ChangeShapes Go.WideShapes Go.ChangeAt Go.RowKit Go.Instr
set_option linter.unusedVariables false
set_option maxRecDepth 100000
end Go.Proofs.Ytjphnlkdbhcblaa.Row
/- slices.Grow and slices.Concat on seen nonces. No conditions but that lengths fit. -/
namespace Go.Proofs.Ytjphnlkdbhcblaa.Row
open Go.ChangeShapes Go.WideShapes Go.ChangeAt Go.RowKit Go.Instr
set_option linter.unusedVariables false
set_option maxRecDepth 100000
def GivesSn (w : World) (L : List Snm) (e : Ending) (w' : World) : Prop := ∃ v, e = .returned v ∧ OwnK 38 kSn.cells 2 w.heap.size w' v L ∧ Below w.heap.size w w'
def catSn (ls : Nat → List Snm) : Nat → List Snm
  | 0 => []
  | k + 1 => catSn ls k ++ ls k
end Go.Proofs.Ytjphnlkdbhcblaa.Row
/- Slices of bytes in the words of kinds: sz, to, eq, mark, held. No conditions but that lengths fit. -/
namespace Go.Proofs.Ytjphnlkdbhcblaa.Row
open Go.ChangeShapes Go.WideShapes Go.ChangeAt Go.RowKit Go.Instr
set_option linter.unusedVariables false
set_option maxRecDepth 100000
def okB (l : List Int) : Prop := l.length ≤ 9223372036854775807
end Go.Proofs.Ytjphnlkdbhcblaa.Row
/- Names and bytes as parts that are marked; an element of a list, step by step. No conditions but that lengths fit. -/
namespace Go.Proofs.Ytjphnlkdbhcblaa.Row
open Go.ChangeShapes Go.WideShapes Go.ChangeAt Go.RowKit Go.Instr
set_option linter.unusedVariables false
set_option linter.unusedSectionVars false
set_option maxRecDepth 100000
theorem markF_N : MarkF Try.prog kN 97 (fun m => m.v) (fun l => l.length) (fun q l => marks markT q l.length) := by
  intro B E m w k h hl h0 h1
  have ho := kN_own1 h.1
  rw [kN_strip] at hl h1 ⊢
  refine (markStringS B m.v m.els w k ho hl h0 (by omega)).mono ?_
  rintro e w' ⟨a, b, c⟩
  refine ⟨a, ⟨m.ad, m.n, m.cap, marks markT k m.els.length⟩, rfl, by rw [kN_blocks, kN_blocks]; rfl, by rw [kN_strip], ⟨kN_own2 b, ?_, ?_⟩, WroteBy.of c (fun g hg => by rw [kN_blocks]; simp [hg])⟩
  · have := h.2.1
    rw [kN_blocks] at this ⊢
    exact this
  · have := h.2.2
    rw [kN_blocks] at this ⊢
    exact this
section
variable {α M : Type} [Inhabited M] {k : Kd α M} {B E : Nat} {w w' : World} {e : TypeId} {ad : Option Addr} {n cap j g : Nat} {Z : List M} {x x' : M}
theorem nth_set9 {γ : Type} [Inhabited γ] {Z : List γ} {j : Nat} (hj : j < Z.length) (x : γ) : nth (Z.set j x) j = x := by
  rw [nth_eq (by simpa using hj), List.getElem_set_self]
theorem set_nth9 {γ : Type} [Inhabited γ] {Z : List γ} {j : Nat} (hj : j < Z.length) : Z.set j (nth Z j) = Z := by
  rw [nth_eq hj, List.set_getElem_self]
theorem Kd.Own.elem9 (h : (k.slice e).Own B E w ⟨ad, n, cap, Z.set j x⟩) (hj : j < Z.length) : k.Own B E w x := by
  have := Kd.Own.elem h (j := j) (by simpa using hj)
  rwa [nth_set9 hj] at this
theorem Kd.Own.part9 (h : (k.slice e).Own B E w ⟨ad, n, cap, Z.set j x⟩) (hj : j < Z.length) (hc : k.cells x' = k.cells x) (hb : k.blocks x' = k.blocks x) (ho : k.Own B E w' x') (hw : WroteBy (k.blocks x) w w') :
    (k.slice e).Own B E w' ⟨ad, n, cap, Z.set j x'⟩ := by
  have := (Kd.Own.part h (j := j) (by simpa using hj) (x' := x') (by rw [nth_set9 hj]; exact hc) (by rw [nth_set9 hj]; exact hb) ho (by rw [nth_set9 hj]; exact hw)).1
  rwa [List.set_set] at this
theorem Kd.Own.put9 (h : (k.slice e).Own B E w ⟨some ⟨g, 0, none⟩, n, cap, Z.set j x⟩) (hn : n = Z.length) (hj : j < Z.length) {i : Nat} (hi : i < k.size) {u : Value} (hc : k.cells x' = (k.cells x).set i u) (hb : k.blocks x' = k.blocks x) (ho : ∀ {W : World}, k.own B W x → k.own B W x') :
    (k.slice e).Own B E (w.setCell ⟨g, j * k.size + i, none⟩ u) ⟨some ⟨g, 0, none⟩, n, cap, Z.set j x'⟩ := by
  have := (Kd.Own.put h (j := j) (by simpa using hn) (by simpa using hj) hi (u := u) (x' := x') (by rw [nth_set9 hj]; exact hc) (by rw [nth_set9 hj]; exact hb) (by rw [nth_set9 hj]; exact ho)).1
  rwa [List.set_set] at this
theorem Kd.Own.cell9 (h : (k.slice e).Own B E w ⟨some ⟨g, 0, none⟩, n, cap, Z.set j x⟩) (hn : n = Z.length) (hj : j < Z.length) {i : Nat} (hi : i < k.size) : w.cell? ⟨g, j * k.size + i, none⟩ = (k.cells x)[i]? ∧ w.frozen? ⟨g, j * k.size + i, none⟩ = false := by
  have := ownK_cell (fun m => k.len m) h.row (by simpa using hn) (j := j) (by simpa using hj) hi
  rwa [nth_set9 hj] at this
theorem nth_over {γ : Type} [Inhabited γ] {M L : List γ} {j : Nat} (hm : M.length = j) (hj : j < L.length) : nth (M ++ L.drop j) j = nth L j := by
  simp only [nth, List.getD]
  rw [List.getElem?_append_right (by rw [hm]; exact Nat.le_refl _), hm]
  simp
theorem set_over {γ : Type} [Inhabited γ] {M L : List γ} {j : Nat} (hm : M.length = j) (hj : j < L.length) (x : γ) : (M ++ L.drop j).set j x = M ++ [x] ++ L.drop (j + 1) := by
  have hd : L.drop j = nth L j :: L.drop (j + 1) := by rw [nth_eq hj, List.getElem_cons_drop]
  rw [List.set_append_right _ _ (by rw [hm]; exact Nat.le_refl _), hm, Nat.sub_self, hd, List.set_cons_zero, List.append_assoc]
  rfl
end
end Go.Proofs.Ytjphnlkdbhcblaa.Row
/- Lists of Requester: marked and looked at. No conditions but that lengths fit. -/
namespace Go.Proofs.Ytjphnlkdbhcblaa.Row
open Go.ChangeShapes Go.WideShapes Go.ChangeAt Go.RowKit Go.Instr
set_option linter.unusedVariables false
set_option maxRecDepth 100000
def mvRq (z : Rqt) : Nat := 3
def meRq (q : Int) (z : Rqt) : Rqt := (q, q + 1, q + 1 + 1)
set_option maxHeartbeats 4000000 in
theorem markRequesterSK (B E : Nat) (m : Rw Rqm) (w : World) (k : Int) (h : kLRq.Own B E w m) (hl : advK mvRq (kLRq.strip m) ≤ 100000000) (h0 : 0 ≤ k) (h1 : k + (advK mvRq (kLRq.strip m) : Int) ≤ 100000000000) :
    Calls Try.prog 51 #[kLRq.val m, .int .i64 k] w fun e w' => e = .returned (.int .i64 (k + (advK mvRq (kLRq.strip m) : Int))) ∧ ∃ m', kLRq.val m' = kLRq.val m ∧ kLRq.blocks m' = kLRq.blocks m ∧ kLRq.strip m' = mkLK mvRq meRq k (kLRq.strip m) ∧ kLRq.Own B E w' m' ∧ WroteBy (kLRq.blocks m) w w' := by
  obtain ⟨ad, n, cap, L⟩ := m
  replace h : (kRq.slice 91).Own B E w ⟨ad, n, cap, L⟩ := h
  replace hl : advK mvRq (L.map kRq.strip) ≤ 100000000 := hl
  replace h1 : k + (advK mvRq (L.map kRq.strip) : Int) ≤ 100000000000 := h1
  show Calls Try.prog 51 #[.slice ad n cap, .int .i64 k] w fun e w' => e = .returned (.int .i64 (k + (advK mvRq (L.map kRq.strip) : Int))) ∧ ∃ m' : Rw Rqm, Rw.v m' = .slice ad n cap ∧ (kRq.slice 91).blocks m' = (kRq.slice 91).blocks ⟨ad, n, cap, L⟩ ∧ m'.els.map kRq.strip = mkLK mvRq meRq k (L.map kRq.strip) ∧ (kRq.slice 91).Own B E w' m' ∧ WroteBy ((kRq.slice 91).blocks ⟨ad, n, cap, L⟩) w w'
  rcases h.row.form with ⟨hv, hL⟩ | ⟨g, cap', hv, g1, g2, g3, g4⟩
  · cases hv
    subst hL
    have H := Lib.hid h; clear h
    go_enter Try.func51, Try.ntmps51
    go_wp2
    refine wp_loop_rounds 1 ?_
    rw [rounds_succ]
    go_wp2
    go_ret
    exact ⟨ret_int (by simp [advK]), ⟨⟨none, 0, 0, []⟩, rfl, rfl, rfl, H.out, WroteBy.refl _ _⟩⟩
  · cases hv
    have HROWLT := g2
    obtain ⟨n, hn⟩ : ∃ n, n = L.length := ⟨_, rfl⟩
    rw [← hn] at h g3 ⊢
    obtain ⟨l, hl9⟩ : ∃ l, L.map kRq.strip = l := ⟨_, rfl⟩
    rw [hl9] at hl h1 ⊢
    have hll : l.length = n := by rw [← hl9, List.length_map, hn]
    obtain ⟨bs, hbs⟩ : ∃ bs, (kRq.slice 91).blocks ⟨some ⟨g, 0, none⟩, n, cap, L⟩ = bs := ⟨_, rfl⟩
    have hgb : g ∈ bs := by rw [← hbs]; exact List.mem_append_left _ (by simp [Value.ownBlock, Rw.v])
    have heb : ∀ x ∈ L, ∀ q ∈ kRq.blocks x, q ∈ bs := fun x hx q hq => by rw [← hbs]; exact List.mem_append_right _ (List.mem_flatMap.2 ⟨x, hx, hq⟩)
    have hmaxl : n ≤ 140737488351232 ∨ True := Or.inr trivial
    have hn2 : n ≤ maxLen := by rw [hn]; exact h.row.len
    unfold maxLen at hn2
    rw [hbs]
    have HN := Lib.hid hn; have HT := Lib.hid hl9; have HLL := Lib.hid hll; have HBS := Lib.hid hbs; have HGB := Lib.hid hgb; have HEB := Lib.hid heb
    have HST := Lib.hid (fun j (hj : j < n) => advK_take mvRq (l := l) (j := j) (by rw [hll]; exact hj))
    have HLE := Lib.hid (fun j => advK_take_le mvRq l j)
    have HB : Hid ((kRq.slice 91).Own B E w ⟨some ⟨g, 0, none⟩, n, cap, [] ++ L.drop 0⟩) := Lib.hid (by simpa using h)
    clear hn h hl9 hll hbs hgb heb hmaxl
    go_enter Try.func51, Try.ntmps51
    go_wp2
    go_loopw [1, 5] (fun kv i wr => ∃ j : Nat, j ≤ n ∧ i = .int .i64 j ∧ ∃ p : Int, kv = .int .i64 p ∧ 0 ≤ p ∧ p ≤ 100000000000 ∧ Hid (p = k + (advK mvRq (l.take j) : Int)) ∧ ∃ M : List Rqm, Hid (M.length = j) ∧ Hid (M.map kRq.strip = mkLK mvRq meRq k (l.take j)) ∧ Hid (M.map kRq.blocks = (L.take j).map kRq.blocks) ∧ Hid ((kRq.slice 91).Own B E wr ⟨some ⟨g, 0, none⟩, n, cap, M ++ L.drop j⟩) ∧ Hid (WroteBy bs w wr)) (fun _ i _ => n - (intOf i).toNat)
    case atStart => exact ⟨0, Nat.zero_le _, rfl, k, rfl, h0, by omega, Lib.hid (by simp [advK]), [], Lib.hid rfl, Lib.hid (by simp [mkLK]), Lib.hid rfl, HB, Lib.hid (WroteBy.refl _ _)⟩
    case round =>
      obtain ⟨j, hj, rfl, p, rfl, hp0, hp1, HP, M, HM1, HM2, HM3, HO, HW⟩ := hrel
      by_cases hlt : j < n
      · have hjL : j < L.length := by have := HN.out; omega
        obtain ⟨x0, hx0⟩ : ∃ x, nth L j = x := ⟨_, rfl⟩
        obtain ⟨Z, hZ⟩ : ∃ Z, M ++ L.drop j = Z := ⟨_, rfl⟩
        have hZl : n = Z.length := by rw [← hZ, List.length_append, HM1.out, List.length_drop]; have := HN.out; omega
        have hjZ : j < Z.length := by omega
        have hx9 : nth Z j = x0 := by rw [← hZ, nth_over HM1.out hjL, hx0]
        have ho := HO.out
        rw [hZ, ← set_nth9 hjZ, hx9] at ho
        have hst := HST.out j hlt
        rw [show nth l j = kRq.strip x0 by rw [← HT.out, nth_map _ hjL, hx0]] at hst
        have hle := HLE.out (j + 1)
        have hxb := HEB.out x0 (by rw [← hx0]; exact nth_mem hjL)
        have hmv : mvRq (kRq.strip x0) = 3 := by rfl
        rw [hmv] at hst
        have hp := HP.out
        have btot : p + ((3 : Nat) : Int) ≤ 100000000000 := by omega
        have HX0 := Lib.hid hx0; have HZ := Lib.hid hZ; have HZL := Lib.hid hZl; have HJZ := Lib.hid hjZ; have HO0 := Lib.hid ho; have HSTP := Lib.hid hst; have HXB := Lib.hid hxb; have HJL := Lib.hid hjL; have HMV := Lib.hid hmv
        have HW0 := HW
        clear hx0 hZ hZl hjZ hx9 ho hst hle hxb hp hjL hmv 
        have c0 : wr.cell? ⟨g, j * 3, none⟩ = some (.int .i64 x0.1) := (HO0.out.cell9 HZL.out HJZ.out (i := 0) (by decide)).1; have t0 : wr.frozen? ⟨g, j * 3, none⟩ = false := (HO0.out.cell9 HZL.out HJZ.out (i := 0) (by decide)).2
        have c1 : wr.cell? ⟨g, j * 3 + 1, none⟩ = some (.int .i64 x0.2.1) := (HO0.out.cell9 HZL.out HJZ.out (i := 1) (by decide)).1; have t1 : wr.frozen? ⟨g, j * 3 + 1, none⟩ = false := (HO0.out.cell9 HZL.out HJZ.out (i := 1) (by decide)).2
        have c2 : wr.cell? ⟨g, j * 3 + 2, none⟩ = some (.int .i64 x0.2.2) := (HO0.out.cell9 HZL.out HJZ.out (i := 2) (by decide)).1; have t2 : wr.frozen? ⟨g, j * 3 + 2, none⟩ = false := (HO0.out.cell9 HZL.out HJZ.out (i := 2) (by decide)).2
        have HOF : Hid ((kRq.slice 91).Own B E (((wr.setCell ⟨g, j * 3, none⟩ (.int .i64 (p))).setCell ⟨g, j * 3 + 1, none⟩ (.int .i64 (p + 1))).setCell ⟨g, j * 3 + 2, none⟩ (.int .i64 (p + 1 + 1))) ⟨some ⟨g, 0, none⟩, n, cap, Z.set j (p, p + 1, p + 1 + 1)⟩) := Lib.hid (Kd.Own.put9 (x' := ((p, p + 1, p + 1 + 1) : Rqm)) (Kd.Own.put9 (x' := ((p, p + 1, x0.2.2) : Rqm)) (Kd.Own.put9 (x' := ((p, x0.2.1, x0.2.2) : Rqm)) HO0.out HZL.out HJZ.out (i := 0) (by decide) (u := .int .i64 (p)) rfl rfl (fun h => h)) HZL.out HJZ.out (i := 1) (by decide) (u := .int .i64 (p + 1)) rfl rfl (fun h => h)) HZL.out HJZ.out (i := 2) (by decide) (u := .int .i64 (p + 1 + 1)) rfl rfl (fun h => h))
        have HWF : Hid (WroteBy bs w (((wr.setCell ⟨g, j * 3, none⟩ (.int .i64 (p))).setCell ⟨g, j * 3 + 1, none⟩ (.int .i64 (p + 1))).setCell ⟨g, j * 3 + 2, none⟩ (.int .i64 (p + 1 + 1)))) := Lib.hid (((HW0.out.trans (WroteBy.of (Ret.grownBy_set wr ⟨g, j * 3, none⟩ (.int .i64 (p))) (fun q hq => by cases hq; exact HGB.out))).trans (WroteBy.of (Ret.grownBy_set (wr.setCell ⟨g, j * 3, none⟩ (.int .i64 (p))) ⟨g, j * 3 + 1, none⟩ (.int .i64 (p + 1))) (fun q hq => by cases hq; exact HGB.out))).trans (WroteBy.of (Ret.grownBy_set ((wr.setCell ⟨g, j * 3, none⟩ (.int .i64 (p))).setCell ⟨g, j * 3 + 1, none⟩ (.int .i64 (p + 1))) ⟨g, j * 3 + 2, none⟩ (.int .i64 (p + 1 + 1))) (fun q hq => by cases hq; exact HGB.out)))
        have HSF : Hid (kRq.strip (p, p + 1, p + 1 + 1) = meRq p (kRq.strip x0)) := Lib.hid rfl
        have HBF : Hid (kRq.blocks (p, p + 1, p + 1 + 1) = kRq.blocks x0) := Lib.hid (show _ = _ from rfl)
        clear HO0 HW0  
        go_wp2_with fail
        go_roundw
        case rel =>
          refine ⟨j + 1, by omega, by go_num, p + 1 + 1 + 1, by go_num, by omega, by omega, Lib.hid ?_, M ++ [(p, p + 1, p + 1 + 1)], Lib.hid ?_, Lib.hid ?_, Lib.hid ?_, Lib.hid ?_, HWF⟩
          · rw [HSTP.out, HP.out]; omega
          · simp [HM1.out]
          · rw [List.map_append, HM2.out, mkLK_take _ _ _ (by rw [HLL.out]; exact hlt), show nth l j = kRq.strip x0 by rw [← HT.out, nth_map _ HJL.out, HX0.out], ← HP.out, ← HSF.out]
            rfl
          · rw [List.map_append, HM3.out, List.take_succ_eq_append_getElem HJL.out, List.map_append, ← nth_eq HJL.out, HX0.out]
            simp only [List.map_cons, List.map_nil]
            rw [HBF.out]
          · have h9 := HOF.out
            rw [← HZ.out, set_over HM1.out HJL.out] at h9
            exact h9
        case measure => simp [intOf]; omega
      · obtain rfl : j = n := by omega
        clear hlt
        go_wp2
        go_ret
        have hn := HN.out
        have hp := HP.out
        have e1 : l.take j = l := List.take_of_length_le (by rw [HLL.out]; exact Nat.le_refl _)
        have e2 : L.take j = L := List.take_of_length_le (by omega)
        have e3 : L.drop j = [] := List.drop_eq_nil_of_le (by omega)
        have hh := HO.out
        have hm2 := HM2.out
        have hm3 := HM3.out
        rw [e1] at hp hm2
        rw [e2] at hm3
        rw [e3, List.append_nil] at hh
        refine ⟨ret_int hp, ⟨some ⟨g, 0, none⟩, j, cap, M⟩, rfl, ?_, hm2, hh, HW.out⟩
        rw [← HBS.out]
        show _ ++ M.flatMap kRq.blocks = _ ++ L.flatMap kRq.blocks
        rw [List.flatMap_def, List.flatMap_def, hm3]
        rfl
set_option maxHeartbeats 4000000 in
theorem heldRequesterSK (V : Value) (l : List Rqt) (w : World) (k : Int) (h : kLRq.At w V (mkLK mvRq meRq k l)) (hl : advK mvRq l ≤ 100000000) (hlen : l.length ≤ 100000000) (h0 : 0 ≤ k) (h1 : k + (advK mvRq l : Int) ≤ 100000000000) :
    Calls Try.prog 52 #[V, .int .i64 k] w fun e w' => e = .returned (.int .i64 (k + (advK mvRq l : Int))) ∧ Below w.heap.size w w' := by
  obtain ⟨ad, n, cap, L, rfl, hn, hL, hh, hel⟩ := kLRq_at h
  have hll : l.length = n := by have := congrArg List.length hL; rw [List.length_map, mkLK_length] at this; omega
  rw [hll] at hlen
  have HN := Lib.hid hn; have HT := Lib.hid hL; have HH := Lib.hid hh; have HEL := Lib.hid hel; have HLL := Lib.hid hll
  have HST := Lib.hid (fun j (hj : j < n) => advK_take mvRq (l := l) (j := j) (by rw [hll]; exact hj))
  have HLE := Lib.hid (fun j => advK_take_le mvRq l j)
  clear h hn hL hh hel hll
  go_enter Try.func52, Try.ntmps52
  go_wp2
  go_loopw [1, 5] (fun kv i wr => ∃ j : Nat, j ≤ n ∧ i = .int .i64 j ∧ ∃ p : Int, kv = .int .i64 p ∧ 0 ≤ p ∧ p ≤ 100000000000 ∧ Hid (p = k + (advK mvRq (l.take j) : Int)) ∧ Hid (Below w.heap.size w wr)) (fun _ i _ => n - (intOf i).toNat)
  case atStart => exact ⟨0, Nat.zero_le _, rfl, k, rfl, h0, by omega, Lib.hid (by simp [advK]), Lib.hid (Below.refl _ _)⟩
  case round =>
    obtain ⟨j, hj, rfl, p, rfl, hp0, hp1, HP, hb⟩ := hrel
    by_cases hlt : j < n
    · have hn := HN.out
      obtain ⟨b, off, rfl, -, hc0, hc1, hc2, ha⟩ := kLRq_elem (HH.out.on hb.out) (fun y hy => kRq.holds_on (HEL.out y hy) hb.out) (j := j) (by omega)
      have hme : kRq.strip (nth L j) = meRq p (nth l j) := by rw [← nth_map kRq.strip (by omega), HT.out, mkLK_at _ _ _ (by rw [HLL.out]; exact hlt), ← HP.out]
      rw [hme] at ha hc0 hc1 hc2
      have hst := HST.out j hlt
      have hle := HLE.out (j + 1)
      obtain ⟨z, hz⟩ : ∃ z, nth l j = z := ⟨_, rfl⟩
      rw [hz] at ha hst hc0 hc1 hc2
      obtain e9 := kRq_at ha
      cases e9
      have hmv : mvRq z = 3 := by rfl
      rw [hmv] at hst
      have hp := HP.out
      have HC0 := Lib.hid (show wr.cell? ⟨b, off + j * 3, none⟩ = some (.int .i64 (p)) from by have h8 := hc0; simp only [meRq, ] at h8; exact h8)
      have HC1 := Lib.hid (show wr.cell? ⟨b, off + j * 3 + 1, none⟩ = some (.int .i64 (p + 1)) from by have h8 := hc1; simp only [meRq, ] at h8; exact h8)
      have HC2 := Lib.hid (show wr.cell? ⟨b, off + j * 3 + 2, none⟩ = some (.int .i64 (p + 1 + 1)) from by have h8 := hc2; simp only [meRq, ] at h8; exact h8)
      have btot : p + ((3 : Nat) : Int) ≤ 100000000000 := by omega
      have HSTP := Lib.hid hst
      clear hn ha hme hst hle hmv hp hz hc0 hc1 hc2   
      have c09 : wr.cell? ⟨b, off + j * 3, none⟩ = some (.int .i64 (p)) := HC0.out
      have c19 : wr.cell? ⟨b, off + j * 3 + 1, none⟩ = some (.int .i64 (p + 1)) := HC1.out
      have c29 : wr.cell? ⟨b, off + j * 3 + 2, none⟩ = some (.int .i64 (p + 1 + 1)) := HC2.out
      go_wp2_with fail
      go_roundw
      case rel => exact ⟨j + 1, by omega, by go_num, p + 1 + 1 + 1, by go_num, by omega, by omega, Lib.hid (by rw [HSTP.out, HP.out]; omega), hb⟩
      case measure => simp [intOf]; omega
    · obtain rfl : j = n := by omega
      clear hlt
      go_wp2
      go_ret
      have hp := HP.out
      rw [show l.take j = l from List.take_of_length_le (by rw [HLL.out]; exact Nat.le_refl _)] at hp
      exact ⟨ret_int hp, hb.out⟩
theorem markF_LRq : MarkF Try.prog kLRq 51 (fun m => m.v) (fun l => advK mvRq l) (fun q l => mkLK mvRq meRq q l) := by
  intro B E m w k h hl h0 h1
  refine (markRequesterSK B E m w k h hl h0 h1).mono ?_
  rintro e w' ⟨a, m', hv, hb, hs, ho, hw⟩
  exact ⟨a, m', (show [kLRq.val m'] = [kLRq.val m] by rw [hv]), hb, hs, ho, hw⟩
theorem lenAdvRq : ∀ l : List Rqt, l.length ≤ advK mvRq l
  | [] => Nat.le_refl _
  | x :: r => by
    have h := lenAdvRq r
    have h2 : 1 ≤ mvRq x := by unfold mvRq; omega
    simp only [advK, List.length_cons]
    omega
theorem heldRequesterSA (V : Value) (l : List Rqt) (w : World) (k : Int) (a : Nat) (ha : advK mvRq l = a) (h : kLRq.At w V (mkLK mvRq meRq k l)) (hl : a ≤ 100000000) (h0 : 0 ≤ k) (h1 : k + (a : Int) ≤ 100000000000) :
    Calls Try.prog 52 #[V, .int .i64 k] w fun e w' => e = .returned (.int .i64 (k + (a : Int))) ∧ Below w.heap.size w w' := by
  subst ha
  exact heldRequesterSK V l w k h hl (Nat.le_trans (lenAdvRq l) hl) h0 h1
end Go.Proofs.Ytjphnlkdbhcblaa.Row
