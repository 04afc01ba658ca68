/- Contracts of DecodeInts, the reference model's and the program's: so many numbers at the offset, the offset behind them, true; or an empty slice, 0 and false. What is returned lies in memory of the call's own. No conditions but that the elements are bytes and the length fits. -/
import Derived.Test.YtnnhgcfelkcpfaaDoorReadB
import Derived.Test.YtnnhgcfelkcpfaaDoorInts
namespace Go.Proofs.YtnnhgcfelkcpfaaDoor.Sl
open Go.ChangeShapes Go.WideShapes Go.ChangeAt Go.RowKit Go.Instr
set_option linter.unusedVariables false
set_option maxRecDepth 100000

def decA : Nat → List Int → Int → List Int → List Int × Int × Bool
  | 0, _, i, acc => (acc, i, true)
  | k + 1, l, i, acc => if (Var.readV l i).2.2 = true then decA k l (Var.readV l i).2.1 (acc ++ [(Var.readV l i).1]) else ([], 0, false)
/-- What DecodeInts returns. -/
def readIs (l : List Int) (i n : Int) : List Int × Int × Bool := if (0 ≤ n ∧ n ≤ 100) ∧ 0 ≤ i ∧ i ≤ l.length then decA n.toNat l i [] else ([], 0, false)
theorem readIs_no {l : List Int} {i n : Int} (h : ¬ ((0 ≤ n ∧ n ≤ 100) ∧ 0 ≤ i ∧ i ≤ l.length)) : readIs l i n = ([], 0, false) := by unfold readIs; rw [if_neg h]
theorem readIs_yes {l : List Int} {i n : Int} (h : (0 ≤ n ∧ n ≤ 100) ∧ 0 ≤ i ∧ i ≤ l.length) : readIs l i n = decA n.toNat l i [] := by unfold readIs; rw [if_pos h]
theorem decA_more {n k : Nat} {l : List Int} {i : Int} {acc : List Int} (hk : k < n) (h : (Var.readV l i).2.2 = true) : decA (n - k) l i acc = decA (n - (k + 1)) l (Var.readV l i).2.1 (acc ++ [(Var.readV l i).1]) := by
  rw [show n - k = (n - (k + 1)) + 1 by omega]
  simp only [decA, if_pos h]
theorem decA_stop {n k : Nat} {l : List Int} {i : Int} {acc : List Int} (hk : k < n) (h : (Var.readV l i).2.2 = false) : decA (n - k) l i acc = ([], 0, false) := by
  rw [show n - k = (n - (k + 1)) + 1 by omega]
  simp [decA, h]
theorem decA_done {n : Nat} {l : List Int} {i : Int} {acc : List Int} : decA (n - n) l i acc = (acc, i, true) := by rw [Nat.sub_self]; rfl
theorem decA_len : ∀ (k : Nat) (l : List Int) (i : Int) (acc : List Int), (decA k l i acc).1.length ≤ acc.length + k
  | 0, l, i, acc => by simp [decA]
  | k + 1, l, i, acc => by
    simp only [decA]
    split
    · have := decA_len k l (Var.readV l i).2.1 (acc ++ [(Var.readV l i).1])
      rw [List.length_append, List.length_singleton] at this
      omega
    · simp
theorem readIs_len (l : List Int) (i n : Int) : (readIs l i n).1.length ≤ 100 := by
  by_cases h : (0 ≤ n ∧ n ≤ 100) ∧ 0 ≤ i ∧ i ≤ l.length
  · rw [readIs_yes h]
    have := decA_len n.toNat l i []
    simp at this; omega
  · rw [readIs_no h]; simp

theorem fits_own {e : TypeId} {k : IntKind} {B : Nat} {w : World} {v : Value} {l : List Int} (h : Own e k B w v l) : Fits e k B w v l := Or.inl h
def GivesI3 (w : World) (l : List Int) (n : Int) (ok : Bool) (e : Ending) (w' : World) : Prop := ∃ v, e = .returned (.tuple #[v, .int .i64 n, .bool ok]) ∧ Own 3 .i64 w.heap.size w' v l ∧ Below w.heap.size w w'
theorem GivesI3.of {w w' : World} {v : Value} {l m : List Int} {n p : Int} {a b : Bool} (h : (l, n, a) = (m, p, b)) (ho : Own 3 .i64 w.heap.size w' v l) (hb : Below w.heap.size w w') :
    GivesI3 w m p b (.returned (.tuple #[v, .int .i64 n, .bool a])) w' := by
  cases h; exact ⟨v, rfl, ho, hb⟩
theorem i_empty (w0 w : World) (hb : Below w0.heap.size w0 w) : Own 3 .i64 w0.heap.size (w.alloc (.cells #[] 3)) (.slice (some ⟨w.heap.size, 0, none⟩) 0 0) [] ∧ Below w0.heap.size w0 (w.alloc (.cells #[] 3)) :=
  ⟨(own_empty .i64 3 w).mono hb.size, hb.alloc hb.size _⟩

set_option maxHeartbeats 1000000 in
theorem specDecodeInts_yes (v : Value) (l : List Int) (i : Int) (n : Nat) (w : World) (h : Holds .u8 w v l) (hB : Byt l) (hl : l.length ≤ 100000000) (hn : n ≤ 100) (hi0 : 0 ≤ i) (hi1 : i ≤ l.length) :
    Calls Tryd.prog 40 #[v, .int .i64 i, .int .i64 n] w (GivesI3 w (decA n l i []).1 (decA n l i []).2.1 (decA n l i []).2.2) := by
  obtain ⟨x, cap, rfl, hcap, hh⟩ := h.shape
  obtain ⟨m, hm⟩ : ∃ m, m = l.length := ⟨_, rfl⟩
  have hrd := fun wx j hx => specReadVarint (.slice x l.length cap) l j wx hx hB hl
  rw [← hm] at hcap hh hl hi1 hrd ⊢
  have RD := Lib.hid hrd
  have HM := Lib.hid hm; have HH := Lib.hid hh
  obtain ⟨r, hr⟩ : ∃ r, r = decA n l i [] := ⟨_, rfl⟩
  have HR := Lib.hid hr
  rw [← hr]
  clear hm hh hrd h hr
  have H0 := Lib.hid (i_empty w w (Below.refl _ _))
  go_enter Tryd.func40, Tryd.ntmps40
  go_wp2_with fail
  refine (Num.specIn_true (by omega) (by omega) _).mono ?_
  rintro e w1 ⟨rfl, rfl⟩
  go_wp2_with fail
  refine (Num.specIn_true (by omega) (by omega) _).mono ?_
  rintro e w1 ⟨rfl, rfl⟩
  go_wp2_with fail
  go_loopw [1, 9, 10] (fun av ov iv wr => ∃ (k : Nat) (j : Int) (acc : List Int), k ≤ n ∧ iv = .int .i64 k ∧ av = .int .i64 j ∧ acc.length ≤ k ∧ Hid (Own 3 .i64 w.heap.size wr ov acc ∧ Below w.heap.size w wr) ∧ Hid (decA (n - k) l j acc = r)) (fun _ _ iv _ => n - (intOf iv).toNat)
  case atStart => exact ⟨0, i, [], Nat.zero_le _, rfl, rfl, by simp, H0, Lib.hid HR.out.symm⟩
  case round =>
    obtain ⟨k, j, acc, hk, rfl, rfl, hacc, ho, hd⟩ := hrel
    by_cases hlt : k < n
    · obtain ⟨y, hy⟩ : ∃ y, y = (Var.readV l j).1 := ⟨_, rfl⟩
      obtain ⟨q, hq⟩ : ∃ q, q = (Var.readV l j).2.1 := ⟨_, rfl⟩
      obtain ⟨ok, hok⟩ : ∃ ok, ok = (Var.readV l j).2.2 := ⟨_, rfl⟩
      have hrj := fun wx hx => RD.out wx j hx
      have hmore := fun hh => decA_more (l := l) (i := j) (acc := acc) hlt hh
      have hstop := fun hh => decA_stop (l := l) (i := j) (acc := acc) hlt hh
      rw [← hy, ← hq, ← hok] at hrj
      rw [← hy, ← hq, ← hok] at hmore
      rw [← hok] at hstop
      clear hy hq hok
      have RJ := Lib.hid hrj
      clear hrj
      cases ok with
      | false =>
        have HS := Lib.hid (hd.out.symm.trans (hstop rfl)); clear hstop hmore
        go_wp2_with fail
        refine (RJ.out _ (HH.out.on ho.out.2)).mono ?_
        rintro e w1 ⟨rfl, rfl⟩
        have BB := Lib.hid ho.out.2
        have HF := Lib.hid (i_empty w _ BB.out)
        go_wp2_with fail
        go_ret3
        exact GivesI3.of HS.out.symm HF.out.1 HF.out.2
      | true =>
        have HS := Lib.hid ((hmore rfl).symm.trans hd.out); clear hstop hmore
        go_wp2_with fail
        refine (RJ.out _ (HH.out.on ho.out.2)).mono ?_
        rintro e w1 ⟨rfl, rfl⟩
        have BB := Lib.hid ho.out.2
        have OO := Lib.hid ho.out.1
        have OF := Lib.hid (fits_own OO.out)
        go_wp2_with (at_builtin; refine wpList_app_fit (k := .i64) (B := w.heap.size) (l := acc) (m := [y]) rfl _ _ rfl Tryd.underlying59 elemINT rfl rfl rfl (OF.out.on ((Below.refl _ _).alloc (Nat.le_refl _) _)) (holds_one .i64 _ _ _) (by simp) ?_ (by decide) ?_ ?_)
        · simp; omega
        · have := BB.out.size; simp; omega
        intro v2 w2 ho2 hg
        have hb2 : Below w.heap.size w w2 := ((BB.out).alloc BB.out.size _).trans hg
        have HO2 := Lib.hid (And.intro ho2 hb2)
        clear ho2 hb2 hg
        go_wp2_with fail
        go_roundw
        case rel => exact ⟨k + 1, q, acc ++ [y], by omega, by go_num, rfl, by simp; omega, HO2, HS⟩
        case measure => simp [intOf]; omega
    · obtain rfl : k = n := by omega
      have HS := Lib.hid (hd.out.symm.trans decA_done)
      clear hlt
      go_wp2_with fail
      go_ret3
      exact GivesI3.of HS.out.symm ho.out.1 ho.out.2

set_option maxHeartbeats 1000000 in
theorem specDecodeInts (v : Value) (l : List Int) (i n : Int) (w : World) (h : Holds .u8 w v l) (hB : Byt l) (hl : l.length ≤ 100000000) :
    Calls Tryd.prog 40 #[v, .int .i64 i, .int .i64 n] w (GivesI3 w (readIs l i n).1 (readIs l i n).2.1 (readIs l i n).2.2) := by
  by_cases hin : 0 ≤ n ∧ n ≤ 100
  · by_cases hii : 0 ≤ i ∧ i ≤ l.length
    · rw [readIs_yes ⟨hin, hii⟩]
      obtain ⟨k, rfl⟩ := Int.eq_ofNat_of_zero_le hin.1
      exact specDecodeInts_yes v l i k w h hB hl (by omega) hii.1 hii.2
    · have HR := Lib.hid (readIs_no (l := l) (i := i) (n := n) (fun hh => hii hh.2))
      have h1 := fun wx => Num.specIn_true hin.1 hin.2 wx
      have h2 := fun wx => Num.specIn_false hii wx
      obtain ⟨x, cap, rfl, hcap, hh⟩ := h.shape
      have H1 := Lib.hid h1; have H2 := Lib.hid h2
      have HF := Lib.hid (i_empty w w (Below.refl _ _))
      clear h1 h2 hii h hh
      go_enter Tryd.func40, Tryd.ntmps40
      go_wp2_with fail
      refine (H1.out _).mono ?_
      rintro e w1 ⟨rfl, rfl⟩
      go_wp2_with fail
      refine (H2.out _).mono ?_
      rintro e w1 ⟨rfl, rfl⟩
      go_wp2_with fail
      go_ret3
      exact GivesI3.of HR.out.symm HF.out.1 HF.out.2
  · have HR := Lib.hid (readIs_no (l := l) (i := i) (n := n) (fun hh => hin hh.1))
    have h1 := fun wx => Num.specIn_false hin wx
    obtain ⟨x, cap, rfl, hcap, hh⟩ := h.shape
    have H1 := Lib.hid h1
    have HF := Lib.hid (i_empty w w (Below.refl _ _))
    clear h1 hin h hh
    go_enter Tryd.func40, Tryd.ntmps40
    go_wp2_with fail
    refine (H1.out _).mono ?_
    rintro e w1 ⟨rfl, rfl⟩
    go_wp2_with fail
    go_ret3
    exact GivesI3.of HR.out.symm HF.out.1 HF.out.2

set_option maxHeartbeats 1000000 in
theorem implDecodeInts_yes (v : Value) (l : List Int) (i : Int) (n : Nat) (w : World) (h : Holds .u8 w v l) (hB : Byt l) (hl : l.length ≤ 100000000) (hn : n ≤ 100) (hi0 : 0 ≤ i) (hi1 : i ≤ l.length) :
    Calls Tryd.prog 39 #[v, .int .i64 i, .int .i64 n] w (GivesI3 w (decA n l i []).1 (decA n l i []).2.1 (decA n l i []).2.2) := by
  obtain ⟨x, cap, rfl, hcap, hh⟩ := h.shape
  obtain ⟨m, hm⟩ : ∃ m, m = l.length := ⟨_, rfl⟩
  have hrd := fun wx j hx => implReadVarint (.slice x l.length cap) l j wx hx hB hl
  rw [← hm] at hcap hh hl hi1 hrd ⊢
  have RD := Lib.hid hrd
  have HM := Lib.hid hm; have HH := Lib.hid hh
  obtain ⟨r, hr⟩ : ∃ r, r = decA n l i [] := ⟨_, rfl⟩
  have HR := Lib.hid hr
  rw [← hr]
  clear hm hh hrd h hr
  obtain ⟨i0, hi, hz0, hz1, hz2⟩ := info_parts elemINT
  have HI := Lib.hid hi; have HZ0 := Lib.hid hz0; have HZ1 := Lib.hid hz1; have HZ2 := Lib.hid hz2
  clear hi hz0 hz1 hz2
  go_enter Tryd.func39, Tryd.ntmps39
  go_wp2_with fail
  refine (Num.implIn_true (by omega) (by omega) _).mono ?_
  rintro e w1 ⟨rfl, rfl⟩
  go_wp2_with fail
  refine (Num.implIn_true (by omega) (by omega) _).mono ?_
  rintro e w1 ⟨rfl, rfl⟩
  go_wp2_with (at_make; refine wpList_make_own _ rfl _ _ 59 rfl w.heap.size 3 i0 (.int .i64 0) 1 Tryd.underlying59 HI.out HZ0.out HZ1.out _ _ _ n rfl rfl rfl (by rw [HZ2.out]; omega) (by unfold maxLen; omega) (Nat.le_refl _) ?_)
  intro w1 hown hgrow
  have H0 := Lib.hid (And.intro (show Own 3 .i64 w.heap.size w1 _ [] from hown) ((Below.refl w.heap.size w).grown hgrow (Nat.le_refl _) (fun k hk => by cases hk)))
  clear hown hgrow
  go_wp2_with fail
  go_loopw [1, 9, 27] (fun av ov iv wr => ∃ (k : Nat) (j : Int) (acc : List Int), k ≤ n ∧ iv = .int .i64 k ∧ av = .int .i64 j ∧ acc.length ≤ k ∧ Hid (Own 3 .i64 w.heap.size wr ov acc ∧ Below w.heap.size w wr) ∧ Hid (decA (n - k) l j acc = r)) (fun _ _ iv _ => n - (intOf iv).toNat)
  case atStart => exact ⟨0, i, [], Nat.zero_le _, rfl, rfl, by simp, H0, Lib.hid HR.out.symm⟩
  case round =>
    obtain ⟨k, j, acc, hk, rfl, rfl, hacc, ho, hd⟩ := hrel
    by_cases hlt : k < n
    · obtain ⟨y, hy⟩ : ∃ y, y = (Var.readV l j).1 := ⟨_, rfl⟩
      obtain ⟨q, hq⟩ : ∃ q, q = (Var.readV l j).2.1 := ⟨_, rfl⟩
      obtain ⟨ok, hok⟩ : ∃ ok, ok = (Var.readV l j).2.2 := ⟨_, rfl⟩
      have hrj := fun wx hx => RD.out wx j hx
      have hmore := fun hh => decA_more (l := l) (i := j) (acc := acc) hlt hh
      have hstop := fun hh => decA_stop (l := l) (i := j) (acc := acc) hlt hh
      rw [← hy, ← hq, ← hok] at hrj
      rw [← hy, ← hq, ← hok] at hmore
      rw [← hok] at hstop
      clear hy hq hok
      have RJ := Lib.hid hrj
      clear hrj
      cases ok with
      | false =>
        have HS := Lib.hid (hd.out.symm.trans (hstop rfl)); clear hstop hmore
        go_wp2_with fail
        refine (RJ.out _ (HH.out.on ho.out.2)).mono ?_
        rintro e w1 ⟨rfl, hb1⟩
        have BB := Lib.hid (ho.out.2.trans (hb1.mono ho.out.2.size))
        have HF := Lib.hid (i_empty w _ BB.out)
        go_wp2_with fail
        go_ret3
        exact GivesI3.of HS.out.symm HF.out.1 HF.out.2
      | true =>
        have HS := Lib.hid ((hmore rfl).symm.trans hd.out); clear hstop hmore
        go_wp2_with fail
        refine (RJ.out _ (HH.out.on ho.out.2)).mono ?_
        rintro e w1 ⟨rfl, hb1⟩
        have BB := Lib.hid (ho.out.2.trans (hb1.mono ho.out.2.size))
        have OO := Lib.hid (ho.out.1.on hb1); clear hb1
        have OF := Lib.hid (fits_own OO.out)
        go_wp2_with (at_builtin; refine wpList_app_fit (k := .i64) (B := w.heap.size) (l := acc) (m := [y]) rfl _ _ rfl Tryd.underlying59 elemINT rfl rfl rfl (OF.out.on ((Below.refl _ _).alloc (Nat.le_refl _) _)) (holds_one .i64 _ _ _) (by simp) ?_ (by decide) ?_ ?_)
        · simp; omega
        · have := BB.out.size; simp; omega
        intro v2 w2 ho2 hg
        have hb2 : Below w.heap.size w w2 := ((BB.out).alloc BB.out.size _).trans hg
        have HO2 := Lib.hid (And.intro ho2 hb2)
        clear ho2 hb2 hg
        go_wp2_with fail
        go_roundw
        case rel => exact ⟨k + 1, q, acc ++ [y], by omega, by go_num, rfl, by simp; omega, HO2, HS⟩
        case measure => simp [intOf]; omega
    · obtain rfl : k = n := by omega
      have HS := Lib.hid (hd.out.symm.trans decA_done)
      clear hlt
      go_wp2_with fail
      go_ret3
      exact GivesI3.of HS.out.symm ho.out.1 ho.out.2

set_option maxHeartbeats 1000000 in
theorem implDecodeInts (v : Value) (l : List Int) (i n : Int) (w : World) (h : Holds .u8 w v l) (hB : Byt l) (hl : l.length ≤ 100000000) :
    Calls Tryd.prog 39 #[v, .int .i64 i, .int .i64 n] w (GivesI3 w (readIs l i n).1 (readIs l i n).2.1 (readIs l i n).2.2) := by
  by_cases hin : 0 ≤ n ∧ n ≤ 100
  · by_cases hii : 0 ≤ i ∧ i ≤ l.length
    · rw [readIs_yes ⟨hin, hii⟩]
      obtain ⟨k, rfl⟩ := Int.eq_ofNat_of_zero_le hin.1
      exact implDecodeInts_yes v l i k w h hB hl (by omega) hii.1 hii.2
    · have HR := Lib.hid (readIs_no (l := l) (i := i) (n := n) (fun hh => hii hh.2))
      have h1 := fun wx => Num.implIn_true hin.1 hin.2 wx
      have h2 := fun wx => Num.implIn_false hii wx
      obtain ⟨x, cap, rfl, hcap, hh⟩ := h.shape
      have H1 := Lib.hid h1; have H2 := Lib.hid h2
      have HF := Lib.hid (i_empty w w (Below.refl _ _))
      clear h1 h2 hii h hh
      go_enter Tryd.func39, Tryd.ntmps39
      go_wp2_with fail
      refine (H1.out _).mono ?_
      rintro e w1 ⟨rfl, rfl⟩
      go_wp2_with fail
      refine (H2.out _).mono ?_
      rintro e w1 ⟨rfl, rfl⟩
      go_wp2_with fail
      go_ret3
      exact GivesI3.of HR.out.symm HF.out.1 HF.out.2
  · have HR := Lib.hid (readIs_no (l := l) (i := i) (n := n) (fun hh => hin hh.1))
    have h1 := fun wx => Num.implIn_false hin wx
    obtain ⟨x, cap, rfl, hcap, hh⟩ := h.shape
    have H1 := Lib.hid h1
    have HF := Lib.hid (i_empty w w (Below.refl _ _))
    clear h1 hin h hh
    go_enter Tryd.func39, Tryd.ntmps39
    go_wp2_with fail
    refine (H1.out _).mono ?_
    rintro e w1 ⟨rfl, rfl⟩
    go_wp2_with fail
    go_ret3
    exact GivesI3.of HR.out.symm HF.out.1 HF.out.2
end Go.Proofs.YtnnhgcfelkcpfaaDoor.Sl
