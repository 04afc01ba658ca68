/- Contract of the reference model's FormatInt: the decimal numeral. No conditions. -/
import Derived.Test.YtnnhgcfelkcpfaaDoorRows
import Derived.Test.YtnnhgcfelkcpfaaDoorMath
import Derived.Lib.ItoaLen
import Derived.WalkKit
import Derived.ProofKit
import Derived.WalkLawsBesides
import Derived.Lib.Hide
import Derived.LoopTactic
import Derived.Below
import Derived.WalkSmall
namespace Go.Proofs.YtnnhgcfelkcpfaaDoor.Text
open Go.ChangeShapes Go.WideShapes Go.ChangeAt Go.RowKit Go.Instr
set_option linter.unusedVariables false
set_option maxRecDepth 100000

def str (l : List UInt8) : ByteArray := ⟨l.toArray⟩

theorem tm10 (x : Int) : -9 ≤ x.tmod 10 ∧ x.tmod 10 ≤ 9 := by
  have h1 := Int.tmod_lt_of_pos x (b := 10) (by omega)
  have h2 := Int.lt_tmod_of_pos x (b := 10) (by omega)
  omega

/-- One byte in a new block, turned into a string. -/
theorem conv1 (wx : World) (v : Int) (h0 : 0 ≤ v) (h1 : v < 256) :
    (convert 22 9 (.slice (some ⟨wx.heap.size, 0, none⟩) 1 1)).run Tryd.prog (wx.alloc (.cells #[.int .u8 v] 5)) = .ok (.string (str [UInt8.ofNat v.toNat])) (wx.alloc (.cells #[.int .u8 v] 5)) := by
  have := run_convert_bytes_back (P := Tryd.prog) (wx.alloc (.cells #[.int .u8 v] 5)) 22 9 5 ⟨wx.heap.size, 0, none⟩ 1 [UInt8.ofNat v.toNat] Tryd.underlying22 Tryd.underlying5 Tryd.underlying9 ?_
  · exact this
  · intro j hj
    have : j = 0 := by simpa using hj
    subst this
    have e : ((UInt8.ofNat v.toNat).toNat : Int) = v := by simp; omega
    simp only [List.getElem_cons_zero, e]
    simp [Addr.add, World.cell?_alloc_mark]

theorem str_cons (c : UInt8) (l : List UInt8) : str [c] ++ str l = str (c :: l) := by
  simp [str, ByteArray.ext_iff]
theorem str_size (l : List UInt8) : (str l).size = l.length := by simp [str, ByteArray.size]

theorem step_neg {x : Int} (h : x ≠ 0) (hneg : x.tmod 10 < 0) (l : List UInt8) : Dec.rest x.natAbs ++ l = Dec.rest (x.tdiv 10).natAbs ++ (UInt8.ofNat (48 + -x.tmod 10).toNat :: l) := by
  rw [Dec.rest_step (by omega)]
  have e1 : (x.tdiv 10).natAbs = x.natAbs / 10 := by rw [Int.natAbs_tdiv]; rfl
  have e2 : (x.tmod 10).natAbs = x.natAbs % 10 := by rw [Int.natAbs_tmod]; rfl
  have e3 : (48 + -x.tmod 10).toNat = 48 + x.natAbs % 10 := by omega
  rw [e1, e3]; simp
theorem step_pos {x : Int} (h : x ≠ 0) (hneg : ¬ x.tmod 10 < 0) (l : List UInt8) : Dec.rest x.natAbs ++ l = Dec.rest (x.tdiv 10).natAbs ++ (UInt8.ofNat (48 + x.tmod 10).toNat :: l) := by
  rw [Dec.rest_step (by omega)]
  have e1 : (x.tdiv 10).natAbs = x.natAbs / 10 := by rw [Int.natAbs_tdiv]; rfl
  have e2 : (x.tmod 10).natAbs = x.natAbs % 10 := by rw [Int.natAbs_tmod]; rfl
  have e3 : (48 + x.tmod 10).toNat = 48 + x.natAbs % 10 := by omega
  rw [e1, e3]; simp

theorem wf64 {n : Int} (w0 : (Lit.int .i64 n).wf = true) : -9223372036854775808 ≤ n ∧ n ≤ 9223372036854775807 := by
  have e1 : IntKind.i64.min = -9223372036854775808 := rfl
  have e2 : IntKind.i64.max = 9223372036854775807 := rfl
  simpa [Lit.wf, e1, e2] using w0

theorem wf_of {n : Int} (h0 : -9223372036854775808 ≤ n) (h1 : n ≤ 9223372036854775807) : (Lit.int .i64 n).wf = true := by
  have e1 : IntKind.i64.min = -9223372036854775808 := rfl
  have e2 : IntKind.i64.max = 9223372036854775807 := rfl
  simp [Lit.wf, e1, e2, h0, h1]

theorem size1 (c : UInt8) : (str [c]).size ≤ 1 := by rw [str_size]; simp
theorem tdiv_wf {x : Int} (h : (Lit.int .i64 x).wf = true) : (Lit.int .i64 (x.tdiv 10)).wf = true := by
  have hh := wf64 h
  have e1 : IntKind.i64.min = -9223372036854775808 := rfl
  have e2 : IntKind.i64.max = 9223372036854775807 := rfl
  have e3 : (x.tdiv 10).natAbs = x.natAbs / 10 := by rw [Int.natAbs_tdiv]; rfl
  simp only [Lit.wf, e1, e2]
  simp
  omega
theorem tdiv_in {x : Int} (h : (Lit.int .i64 x).wf = true) : wrap64 (x.tdiv 10) = x.tdiv 10 := by
  have hh := wf64 (tdiv_wf h)
  unfold wrap64
  omega
theorem tdiv_less {x : Int} (h : x ≠ 0) : (x.tdiv 10).natAbs < x.natAbs := by
  have e3 : (x.tdiv 10).natAbs = x.natAbs / 10 := by rw [Int.natAbs_tdiv]; rfl
  omega
theorem small_of {n : Int} (w0 : (Lit.int .i64 n).wf = true) {r l : List UInt8} (h : r ++ l = Dec.rest n.natAbs) : (str l).size ≤ 20 := by
  have hh := wf64 w0
  have h1 := Dec.rest_length (u := n.natAbs) (by omega)
  rw [← h] at h1
  rw [str_size]
  simp at h1; omega

theorem itoa_rest {n : Int} (h : n ≠ 0) (hneg : ¬ n < 0) : Lib.itoa n = Dec.rest n.natAbs := by
  rw [Dec.rest_pos (by omega), Dec.itoa_pos (by omega)]
  congr 1; omega
theorem itoa_rest_neg {n : Int} (hneg : n < 0) : Lib.itoa n = 45 :: Dec.rest n.natAbs := by
  rw [Dec.rest_pos (by omega)]
  unfold Lib.itoa; rw [if_pos hneg]

theorem ret_str {a b : ByteArray} (h : a = b) : Ending.returned (.string a) = .returned (.string b) := by rw [h]

set_option maxHeartbeats 400000 in
theorem specFormat (n : Int) (w : World) (w0 : (Lit.int .i64 n).wf = true) :
    Calls Tryd.prog 67 #[.int .i64 n] w fun e w' => e = .returned (.string (str (Lib.itoa n))) ∧ Below w.heap.size w w' := by
  by_cases h0 : n = 0
  · subst h0
    go_enter Tryd.func67, Tryd.ntmps67
    go_wp2
    go_ret
    exact ⟨ret_str (by decide +kernel), Below.refl _ _⟩
  · have hn : (n == 0) = false := by simpa using h0
    have W0 := Lib.hid w0; clear w0
    go_enter Tryd.func67, Tryd.ntmps67
    go_wp2
    go_loopw [3, 4] (fun sv xv wr => ∃ (x : Int) (l : List UInt8), xv = .int .i64 x ∧ sv = .string (str l) ∧ (Lit.int .i64 x).wf = true ∧ Dec.rest x.natAbs ++ l = Dec.rest n.natAbs ∧ Below w.heap.size w wr) (fun _ xv _ => (intOf xv).natAbs)
    case atStart => exact ⟨n, [], rfl, rfl, W0.out, by simp, Below.refl _ _⟩
    case round =>
      obtain ⟨x, l, rfl, rfl, wx, hl, hb⟩ := hrel
      have WX := Lib.hid wx; clear wx
      have hs := small_of W0.out hl
      have HL := Lib.hid hl; clear hl
      obtain ⟨t1, t2⟩ := tm10 x
      by_cases hx0 : x = 0
      · subst hx0
        by_cases hneg : n < 0
        · go_wp2
          go_ret
          exact ⟨ret_str (by rw [itoa_rest_neg hneg, ← HL.out]; exact str_cons 45 l), hb⟩
        · go_wp2
          go_ret
          exact ⟨ret_str (by rw [itoa_rest h0 (by omega), ← HL.out]; rfl), hb⟩
      · have hxb : (x != 0) = true := by simpa using hx0
        by_cases hneg : x.tmod 10 < 0
        · have hc := conv1 wr (48 + -x.tmod 10) (by omega) (by omega)
          have hz := size1 (UInt8.ofNat (48 + -x.tmod 10).toNat)
          go_wp2
          go_roundw
          case rel => exact ⟨x.tdiv 10, _, by rw [tdiv_in WX.out], by rw [str_cons], tdiv_wf WX.out, by rw [← HL.out, step_neg hx0 hneg], hb.alloc hb.size _⟩
          case measure => simp only [intOf]; rw [tdiv_in WX.out]; exact tdiv_less hx0
        · have hc := conv1 wr (48 + x.tmod 10) (by omega) (by omega)
          have hz := size1 (UInt8.ofNat (48 + x.tmod 10).toNat)
          go_wp2
          go_roundw
          case rel => exact ⟨x.tdiv 10, _, by rw [tdiv_in WX.out], by rw [str_cons], tdiv_wf WX.out, by rw [← HL.out, step_pos hx0 hneg], hb.alloc hb.size _⟩
          case measure => simp only [intOf]; rw [tdiv_in WX.out]; exact tdiv_less hx0
theorem itoa_size (n : Int) (w0 : (Lit.int .i64 n).wf = true) : (str (Lib.itoa n)).size ≤ 21 := by
  have hh := wf64 w0
  rw [str_size]
  exact Lib.itoa_length_le n hh.1 hh.2
end Go.Proofs.YtnnhgcfelkcpfaaDoor.Text
