/- Contracts of EncodeInts, the reference model's and the program's: the numbers' groups, one number after the other, in memory of the call's own. No conditions but that lengths fit. -/
import Derived.Test.YtnnhgcfelkcpfaaDoorBytes
namespace Go.Proofs.YtnnhgcfelkcpfaaDoor.Sl
open Go.ChangeShapes Go.WideShapes Go.ChangeAt Go.RowKit Go.Instr
set_option linter.unusedVariables false
set_option maxRecDepth 100000

/-- The groups of the first k numbers. -/
def encs (l : List Int) : List Int := l.flatMap Var.var
theorem encs_len (l : List Int) : (encs l).length ≤ 6 * l.length := by
  unfold encs
  induction l with
  | nil => simp
  | cons x r ih =>
    have := Var.var_len x
    rw [List.flatMap_cons, List.length_append, List.length_cons]; omega
theorem encs_step {l : List Int} {k : Nat} (h : k < l.length) : encs (l.take (k + 1)) = encs (l.take k) ++ Var.var (nth l k) := by
  unfold encs
  rw [List.take_succ_eq_append_getElem h, List.flatMap_append, nth_eq h]; simp
theorem encs_take_len (l : List Int) (k : Nat) : (encs (l.take k)).length ≤ 6 * l.length := by
  have h1 := encs_len (l.take k)
  have h2 : (l.take k).length ≤ l.length := List.length_take_le' _ _
  omega

set_option maxHeartbeats 1000000 in
theorem specEncodeInts (v : Value) (l : List Int) (w : World) (h : Holds .i64 w v l) (hl : l.length ≤ 10000000) :
    Calls Tryd.prog 55 #[v] w (GivesB w (encs l)) := by
  obtain ⟨x, cap, rfl, hcap, hh⟩ := h.shape
  obtain ⟨n, hn⟩ : ∃ n, n = l.length := ⟨_, rfl⟩
  rw [← hn] at hcap hh hl ⊢
  have HN := Lib.hid hn; have HH := Lib.hid hh
  clear hn h hh
  have H0 := Lib.hid (own_empty .u8 5 w)
  have B0 := Lib.hid ((Below.refl w.heap.size w).alloc (Nat.le_refl _) (.cells #[] 5))
  go_enter Tryd.func55, Tryd.ntmps55
  go_wp2_with fail
  go_loopw [3, 4] (fun bv iv wr => ∃ k : Nat, k ≤ n ∧ iv = .int .i64 k ∧ Hid (Own 5 .u8 w.heap.size wr bv (encs (l.take k))) ∧ Hid (Below w.heap.size w wr)) (fun _ iv _ => n - (intOf iv).toNat)
  case atStart => exact ⟨0, Nat.zero_le _, rfl, H0, B0⟩
  case round =>
    obtain ⟨k, hk, rfl, ho, hb⟩ := hrel
    by_cases hlt : k < n
    · have hlen := HN.out
      obtain ⟨b, off, rfl, hc⟩ := (HH.out.on hb.out).at (j := k) (by omega)
      have HS := Lib.hid (encs_step (l := l) (k := k) (by omega))
      have hel := encs_take_len l k
      have hel2 : (encs (l.take k)).length ≤ 100000000 := by omega
      clear hlen hel
      go_wp2_with fail
      refine (specAppendVarint _ _ (nth l k) _ ho.out.holds hel2).mono ?_
      rintro e w2 ⟨v2, rfl, ho2, hb2⟩
      have HO2 := Lib.hid (ho2.mono hb.out.size); have HB2 := Lib.hid (hb.out.trans (hb2.mono hb.out.size))
      clear ho2 hb2
      go_wp2_with fail
      go_roundw
      case rel => exact ⟨k + 1, by omega, by go_num, by rw [HS.out]; exact HO2, HB2⟩
      case measure => simp [intOf]; omega
    · obtain rfl : k = n := by omega
      clear hlt
      go_wp2_with fail
      go_ret
      refine ⟨_, rfl, ?_, hb.out⟩
      have := ho.out
      rw [HN.out, List.take_length] at this
      exact this

set_option maxHeartbeats 1000000 in
theorem implEncodeInts (v : Value) (l : List Int) (w : World) (h : Holds .i64 w v l) (hl : l.length ≤ 10000000) :
    Calls Tryd.prog 35 #[v] w (GivesB w (encs l)) := by
  obtain ⟨x, cap, rfl, hcap, hh⟩ := h.shape
  obtain ⟨n, hn⟩ : ∃ n, n = l.length := ⟨_, rfl⟩
  rw [← hn] at hcap hh hl ⊢
  have HN := Lib.hid hn; have HH := Lib.hid hh
  clear hn h hh
  have H0 := Lib.hid (own_empty .u8 5 w)
  have B0 := Lib.hid ((Below.refl w.heap.size w).alloc (Nat.le_refl _) (.cells #[] 5))
  go_enter Tryd.func35, Tryd.ntmps35
  go_wp2_with fail
  go_loopw [3, 9] (fun bv iv wr => ∃ k : Nat, k ≤ n ∧ iv = .int .i64 k ∧ Hid (Own 5 .u8 w.heap.size wr bv (encs (l.take k))) ∧ Hid (Below w.heap.size w wr)) (fun _ iv _ => n - (intOf iv).toNat)
  case atStart => exact ⟨0, Nat.zero_le _, rfl, H0, B0⟩
  case round =>
    obtain ⟨k, hk, rfl, ho, hb⟩ := hrel
    by_cases hlt : k < n
    · have hlen := HN.out
      obtain ⟨b, off, rfl, hc⟩ := (HH.out.on hb.out).at (j := k) (by omega)
      have HS := Lib.hid (encs_step (l := l) (k := k) (by omega))
      have hel := encs_take_len l k
      have hel2 : (encs (l.take k)).length ≤ 100000000 := by omega
      clear hlen hel
      by_cases hin : 0 ≤ nth l k ∧ nth l k ≤ 1000000000000
      · obtain ⟨i1, i2⟩ := hin
        go_wp2_with fail
        refine (addVarint w.heap.size _ _ (nth l k) _ (Or.inl ho.out) hb.out.size hel2 i1 i2).mono ?_
        rintro e w2 ⟨v2, rfl, ho2, hb2⟩
        have HO2 := Lib.hid ho2; have HB2 := Lib.hid (hb.out.trans hb2)
        clear ho2 hb2
        go_wp2_with fail
        go_roundw
        case rel => exact ⟨k + 1, by omega, by go_num, by rw [HS.out]; exact HO2, HB2⟩
        case measure => simp [intOf]; omega
      · have HV := Lib.hid (Var.var_out hin)
        have HIN := Lib.hid hin; clear hin
        go_wp2_with fail
        refine (addVarint_out _ (nth l k) _ HIN.out).mono ?_
        rintro e w2 ⟨rfl, rfl⟩
        go_wp2_with fail
        go_roundw
        case rel => exact ⟨k + 1, by omega, by go_num, by rw [HS.out, HV.out, List.append_nil]; exact ho, hb⟩
        case measure => simp [intOf]; omega
    · obtain rfl : k = n := by omega
      clear hlt
      go_wp2_with fail
      go_ret
      refine ⟨_, rfl, ?_, hb.out⟩
      have := ho.out
      rw [HN.out, List.take_length] at this
      exact this
end Go.Proofs.YtnnhgcfelkcpfaaDoor.Sl
