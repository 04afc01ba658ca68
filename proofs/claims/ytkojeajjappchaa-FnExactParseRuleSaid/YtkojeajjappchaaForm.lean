/- Contracts of FormatName, the program's and the reference model's: each part behind a slash; a slash alone where there is none. No conditions but that lengths fit. -/
import Derived.Test.YtkojeajjappchaaNameMath
import Derived.Test.YtkojeajjappchaaShelf
namespace Go.Proofs.Ytkojeajjappchaa.Row
open Go.ChangeShapes Go.WideShapes Go.ChangeAt Go.RowKit Go.Instr
set_option linter.unusedVariables false
set_option maxRecDepth 100000

/-- The text behind the first k parts. -/
def fT (l : List ByteArray) (k : Nat) : ByteArray := mk (Lib.joinTail [47] ((l.map bl).take k))
theorem fT_zero (l : List ByteArray) : fT l 0 = mk [] := by simp [fT, Lib.joinTail]
theorem fT_succ (l : List ByteArray) {k : Nat} (h : k < l.length) : fT l (k + 1) = fT l k ++ mk [47] ++ nth l k := by
  unfold fT
  rw [Lib.joinTail_take_succ [47] _ k (bl (nth l k)) (by rw [List.getElem?_map, nth_eq h, List.getElem?_eq_getElem h]; rfl), ← mk_append, ← mk_append, mk_bl]
theorem fT_size (l : List ByteArray) : ∀ k, k ≤ l.length → (fT l k).size + l.length = bulkTo l k + k
  | 0, _ => by rw [fT_zero, mk_size, bulkTo_zero]; simp
  | k + 1, h => by
    have ih := fT_size l k (by omega)
    rw [fT_succ l (by omega), ByteArray.size_append, ByteArray.size_append, mk_size, bulkTo_succ l (by omega)]
    simp; omega
theorem fT_le (l : List ByteArray) {k : Nat} (h : k ≤ l.length) : (fT l k).size ≤ bulk l := by
  have h1 := fT_size l k h
  have h2 := bulkTo_le l k
  omega
theorem fT_all {l : List ByteArray} (h : l ≠ []) : fT l l.length = fmtS l := by
  unfold fT fmtS fmtL
  rw [List.take_of_length_le (by simp)]
  obtain ⟨x, r, rfl⟩ : ∃ x r, l = x :: r := by
    cases l with
    | nil => exact absurd rfl h
    | cons x r => exact ⟨x, r, rfl⟩
  rw [List.map_cons, Lib.join_cons]
  congr 1
theorem join_size (l : List ByteArray) : (Lib.join (l.map bl) [47]).length ≤ bulk l := by
  by_cases h : l = []
  · subst h; simp [Lib.join_nil]
  · have h1 := congrArg ByteArray.size (fT_all h)
    have h2 := fT_le l (Nat.le_refl l.length)
    rw [h1] at h2
    unfold fmtS fmtL at h2
    rw [mk_size] at h2
    simp at h2; omega

set_option maxHeartbeats 1000000 in
theorem implFormatName (v : Value) (l : List ByteArray) (w : World) (h : Holds Value.string w v l) (hl : bulk l ≤ 100000000) :
    Calls Try.prog 81 #[.agg #[v]] w fun e w' => e = .returned (.string (fmtS l)) ∧ Below w.heap.size w w' := by
  obtain ⟨x, n, cap, rfl, hn, hcap, hh⟩ := h.shapeN
  have hjs := join_size l
  have hll := bigLen hl
  have HB := Lib.hid ((Below.refl w.heap.size w).alloc (Nat.le_refl _) (.cells #[.slice x n cap] 45))
  have HJ : Hid (∀ W, Holds Value.string W (.slice x n cap) l → Calls Try.prog 92 #[.slice x n cap, .string (mk [47])] W fun e w' => e = .returned (.string (mk (Lib.join (l.map bl) [47]))) ∧ Below W.heap.size W w') := by
    refine Lib.hid fun W hW => ?_
    obtain ⟨x', cap', hv, hc', hh'⟩ := hW
    cases hv
    by_cases hne : l = []
    · subst hne
      refine (Try.strings_Join_none x cap (mk [47]) W).mono ?_
      rintro e w' ⟨rfl, rfl⟩
      exact ⟨rfl, Below.refl _ _⟩
    · rcases hh' with h0 | ⟨b, off, rfl, hc⟩
      · exact absurd h0 hne
      · have hlp : 0 < l.length := List.length_pos_iff.2 hne
        exact Try.strings_Join b off cap l (mk [47]) W (fun j y hy => by
          have hj : j < l.length := (List.getElem?_eq_some_iff.1 hy).1
          rw [hc j hj, nth_eq hj]
          rw [List.getElem?_eq_getElem hj] at hy
          cases hy; rfl) (by have := cell_lt (hc 0 hlp); exact this) (by omega) hc' (by show (Lib.join (l.map bl) [47]).length ≤ _; omega)
  obtain ⟨jn, hjn⟩ : ∃ jn, jn = mk (Lib.join (l.map bl) [47]) := ⟨_, rfl⟩
  have hjz : jn.size ≤ 100000000 := by rw [hjn, mk_size]; omega
  rw [← hjn] at HJ
  have HE := Lib.hid (show mk [47] ++ jn = fmtS l by rw [hjn, mk_append]; rfl)
  have HH := Lib.hid (hh.on HB.out)
  clear hh h hn hjn
  go_enter Try.func81, Try.ntmps81
  go_wp2_with fail
  refine (HJ.out _ HH.out).mono ?_
  rintro e w' ⟨rfl, hb⟩
  have HB2 := Lib.hid (HB.out.trans (hb.mono (by simp))); clear hb
  go_wp2
  go_ret
  exact ⟨ret_str HE.out, HB2.out⟩

set_option maxHeartbeats 1000000 in
theorem specFormatName (v : Value) (l : List ByteArray) (w : World) (h : Holds Value.string w v l) (hl : bulk l ≤ 100000000) :
    Calls Try.prog 80 #[.agg #[v]] w fun e w' => e = .returned (.string (fmtS l)) ∧ Below w.heap.size w w' := by
  obtain ⟨x, n, cap, rfl, hn, hcap, hh⟩ := h.shapeN
  have hll := bigLen hl
  have HSZ := Lib.hid (fun k (hk : k ≤ l.length) => Nat.le_trans (fT_le l hk) hl)
  have HNZ := Lib.hid (fun k (hk : k < l.length) => size_nth hl hk)
  have HB := Lib.hid ((Below.refl w.heap.size w).alloc (Nat.le_refl _) (.cells #[.slice x n cap] 45))
  have HH := Lib.hid (hh.on HB.out)
  have HN := Lib.hid hn
  rw [← hn] at hll
  clear hh h hn hl
  go_enter Try.func80, Try.ntmps80
  go_wp2_with fail
  go_loop [3, 4] (fun sv iv => ∃ (k : Nat) (s : ByteArray), k ≤ n ∧ iv = .int .i64 k ∧ sv = .string s ∧ s.size ≤ 100000000 ∧ Hid (s = fT l k)) (fun _ iv => n - (intOf iv).toNat)
  case atStart => exact ⟨0, mk [], Nat.zero_le _, rfl, rfl, by rw [mk_size]; simp, Lib.hid (fT_zero l).symm⟩
  case round =>
    obtain ⟨k, s, hk, rfl, rfl, hs, he⟩ := hrel
    by_cases hlt : k < n
    · have hlen := HN.out
      obtain ⟨b, off, rfl, hc⟩ := HH.out.at (j := k) (by omega)
      have hz := HNZ.out k (by omega)
      have HS2 := Lib.hid (fT_succ l (k := k) (by omega))
      have HZ2 := Lib.hid (HSZ.out (k + 1) (by omega))
      clear hlen
      go_wp2
      go_round
      case rel => exact ⟨k + 1, _, by omega, by go_num, rfl, by have := HZ2.out; rw [HS2.out, ← he.out] at this; exact this, Lib.hid (by rw [HS2.out, he.out]; rfl)⟩
      case measure => simp [intOf]; omega
    · obtain rfl : k = n := by omega
      clear hlt
      by_cases h0 : k = 0
      · subst h0
        have HE := Lib.hid (show fmtS l = mk [47] by
          have : l = [] := List.eq_nil_of_length_eq_zero HN.out.symm
          rw [this, fmtS_nil])
        go_wp2
        go_ret
        exact ⟨ret_str HE.out.symm, HB.out⟩
      · have hne : ((k : Int) == 0) = false := by simpa using h0
        have HE := Lib.hid (show s = fmtS l by
          have h1 : l ≠ [] := fun e => h0 (by rw [HN.out, e]; rfl)
          rw [he.out, HN.out, fT_all h1])
        clear h0
        go_wp2
        go_ret
        exact ⟨ret_str HE.out, HB.out⟩

end Go.Proofs.Ytkojeajjappchaa.Row
