/- Contracts of the library's slices.Grow at the nil slice, slices.Concat, slices.Equal and slices.Clone at slices of strings. No conditions but that lengths fit. -/
import Derived.Test.YtnhfdgjbbjogmaaName
import Derived.Lib.AppendZerosOnto
import Derived.Lib.SliceRun
import Derived.Deep.RegionHeld3
namespace Go.Proofs.Ytnhfdgjbbjogmaa.Row
open Go.ChangeShapes Go.WideShapes Go.ChangeAt Go.RowKit Go.Instr
set_option linter.unusedVariables false

/-- What a call of a function that returns a slice of strings of the call's own leaves. -/
def GivesS (w : World) (l : List ByteArray) (e : Ending) (w' : World) : Prop := ∃ v, e = .returned v ∧ Own 9 Value.string w.heap.size w' v l ∧ Below w.heap.size w w'
theorem own_one {α : Type} [Inhabited α] (enc : α → Value) (e : TypeId) (w : World) (x : α) : Own e enc w.heap.size (w.alloc (.cells #[enc x] e)) (.slice (some ⟨w.heap.size, 0, none⟩) 1 1) [x] :=
  World.ownsRow_lit w #[enc x] 1 (Nat.le_refl _) (by unfold maxLen; omega) rfl

set_option maxHeartbeats 1000000 in
theorem growNilS (n : Nat) (w : World) (hn : n ≤ 100000000) :
    Calls Try.prog 82 #[.slice none 0 0, .int .i64 n] w (GivesS w []) := by
  by_cases h0 : 0 < n
  · obtain ⟨i0, hi, hz0, hz1, hz2⟩ := info_parts elemSTR
    have hrz : ∀ ty, (Builtin.append_ #[24, 3] ty #[.slice none 0 0, .int .i64 (n : Int)]).run Try.prog w =
        .ok (.slice (some ⟨w.heap.size, 0, none⟩) (0 + n) (grownCap w (0 + n) 0 9)) (w.drew.alloc (.cells (([] : List Value).toArray ++ Builtin.zeroCells (Value.string ByteArray.empty).cells n ++ Builtin.zeroCells (Value.string ByteArray.empty).cells (grownCap w (0 + n) 0 9 - (0 + n))) 9)) := fun ty => by
      have hfit := growslice_fits (need := 0 + n) (old := 0) (bytes := i0.bytes) (by omega) (by rw [hz2]; omega)
      exact Lib.run_append_grow_zeros w 24 3 ty 9 i0 (.string ByteArray.empty) .i64 .i64 Try.underlying24 Try.underlying3 hi hz0 none 0 0 [] (by rw [hz1]; exact run_firstCells_none w.drew 1 0 0 0) n h0 (by rw [hz1]; decide) (by omega) (by omega) (by rw [hz2]; omega) hfit
    have hGn : 0 + n ≤ grownCap w (0 + n) 0 9 := grownCap_ge w _ _ _
    have hG63 := grownCap_le_maxLen w (0 + n) 0 9 (by unfold maxLen; omega)
    obtain ⟨G, hG⟩ : ∃ G, G = grownCap w (0 + n) 0 9 := ⟨_, rfl⟩
    rw [← hG] at hrz hGn hG63
    have hown : Own 9 Value.string w.heap.size ((w.alloc (.cells (Builtin.zeroCells #[.string ByteArray.empty] n ++ Builtin.zeroCells #[.string ByteArray.empty] (G - n)) 9)).drew) (.slice (some ⟨w.heap.size, 0, none⟩) 0 G) [] := by
      refine ⟨rfl, .inr ⟨w.heap.size, G, _, rfl, Nat.le_refl _, heap_alloc_new w _, Nat.zero_le _, hG63, ?_, by simp⟩⟩
      simp only [Array.size_append, size_zeroCells]
      simp; omega
    have HOWN := Lib.hid hown; have HR := Lib.hid hrz
    unfold maxLen at hG63
    clear hi hz0 hz1 hz2 hG hown hrz
    go_enter Try.func82, Try.ntmps82
    go_wp2_with (at_builtin; refine Lib.wpList_append_run _ rfl _ _ _ _ rfl _ _ rfl rfl _ _ (HR.out _) ?_)
    all_goals (go_ret; exact ⟨.slice (some ⟨w.heap.size, 0, none⟩) 0 G, rfl, HOWN.out, ((Below.refl _ _).alloc (Nat.le_refl _) _).drew⟩)
  · obtain rfl : n = 0 := by omega
    go_enter Try.func82, Try.ntmps82
    go_wp2_with fail
    go_ret
    exact ⟨_, rfl, Own.nil _ _ _ _, Below.refl _ _⟩

/-- The first k lists, one behind the other. -/
def cat (ls : Nat → List ByteArray) : Nat → List ByteArray
  | 0 => []
  | k + 1 => cat ls k ++ ls k
theorem cat_mono (ls : Nat → List ByteArray) {k n : Nat} (h : k ≤ n) : (cat ls k).length ≤ (cat ls n).length := by
  induction n with
  | zero => obtain rfl : k = 0 := by omega
            exact Nat.le_refl _
  | succ n ih =>
    by_cases e : k = n + 1
    · subst e; exact Nat.le_refl _
    · have := ih (by omega)
      simp only [cat, List.length_append]; omega

set_option maxHeartbeats 2000000 in
theorem concatS (b : Nat) (vs : Nat → Value) (ls : Nat → List ByteArray) (n : Nat) (w : World) (hn : n ≤ 1000) (hc : ∀ j, j < n → w.cell? ⟨b, j, none⟩ = some (vs j)) (hh : ∀ j, j < n → Holds Value.string w (vs j) (ls j)) (hlen : (cat ls n).length ≤ 10000000) :
    Calls Try.prog 67 #[.slice (some ⟨b, 0, none⟩) n n] w (GivesS w (cat ls n)) := by
  have HC := Lib.hid hc; have HH := Lib.hid hh
  clear hc hh
  go_enter Try.func67, Try.ntmps67
  go_wp2_with fail
  go_loop [3, 11] (fun sv iv => ∃ k : Nat, k ≤ n ∧ iv = .int .i64 k ∧ sv = .int .i64 ((cat ls k).length : Nat)) (fun _ iv => n - (intOf iv).toNat)
  case atStart => exact ⟨0, Nat.zero_le _, rfl, rfl⟩
  case round =>
    obtain ⟨k, hk, rfl, rfl⟩ := hrel
    by_cases hlt : k < n
    · have hcell := HC.out k hlt
      obtain ⟨x, cap, hv, hcap, -⟩ := (HH.out k hlt).shape
      rw [hv] at hcell
      have hm := cat_mono ls (k := k + 1) (n := n) (by omega)
      have HS := Lib.hid (show (cat ls (k + 1)).length = (cat ls k).length + (ls k).length by simp [cat])
      have hm2 : (cat ls k).length + (ls k).length ≤ 10000000 := by rw [← HS.out]; omega
      obtain ⟨c, hcc⟩ : ∃ c, c = (cat ls k).length := ⟨_, rfl⟩
      obtain ⟨d, hdd⟩ : ∃ d, d = (ls k).length := ⟨_, rfl⟩
      rw [← hcc, ← hdd] at HS hm2
      rw [← hcc]
      rw [← hdd] at hcell hcap
      clear hv hm hcc hdd
      go_wp2_with fail
      go_round
      case rel => exact ⟨k + 1, by omega, by go_num, by rw [HS.out]; go_num⟩
      case measure => simp [intOf]; omega
    · obtain rfl : k = n := by omega
      clear hlt
      have HG := Lib.hid (growNilS (cat ls k).length w (by omega))
      obtain ⟨c, hcc⟩ : ∃ c, c = (cat ls k).length := ⟨_, rfl⟩
      have HL := Lib.hid hlen
      rw [← hcc] at HG ⊢
      clear hcc hlen
      go_wp2_with fail
      refine HG.out.mono ?_
      rintro e w1 ⟨v1, rfl, ho, hb⟩
      have HO := Lib.hid ho; have HB := Lib.hid hb
      clear ho hb
      go_wp2_with fail
      go_loopw [6, 27] (fun rv iv wr => ∃ j : Nat, j ≤ k ∧ iv = .int .i64 j ∧ Hid (Own 9 Value.string w.heap.size wr rv (cat ls j)) ∧ Hid (Below w.heap.size w wr)) (fun _ iv _ => k - (intOf iv).toNat)
      case atStart => exact ⟨0, Nat.zero_le _, rfl, HO, HB⟩
      case round =>
        obtain ⟨j, hj, rfl, hr, hbr⟩ := hrel
        by_cases hlt : j < k
        · have hcell := hbr.out.cell (cell_lt (HC.out j hlt))
          rw [HC.out j hlt] at hcell
          have HHJ := (HH.out j hlt).on hbr.out
          have hmono := cat_mono ls (k := j + 1) (n := k) (by omega)
          have hsum : (cat ls j).length + (ls j).length ≤ 10000000 := by
            have := HL.out
            simp only [cat, List.length_append] at hmono; omega
          obtain ⟨x, cap, hv, hcap, hh⟩ := HHJ.shape
          rw [hv] at hcell
          have HHH := Lib.hid hh
          clear hv hmono HHJ hh
          go_wp2_with (at_builtin; refine wpList_app (enc := Value.string) (B := w.heap.size) (l := cat ls j) (m := ls j) rfl _ _ rfl Try.underlying24 elemSTR rfl rfl rfl hr.out HHH.out oneStr (by omega) (by unfold maxLen; omega) hbr.out.size ?_)
          intro v2 w2 ho hg
          have HO2 := Lib.hid ho; have HB2 := Lib.hid (hbr.out.grown hg hbr.out.size (fun g hh => (hr.out.lt g hh).1))
          clear ho hg
          go_wp2_with fail
          go_roundw
          case rel => exact ⟨j + 1, by omega, by go_num, HO2, HB2⟩
          case measure => simp [intOf]; omega
        · obtain rfl : j = k := by omega
          clear hlt
          go_wp2_with fail
          go_ret
          exact ⟨_, rfl, hr.out, hbr.out⟩

theorem libEqS_len (x y : Option Addr) (n m cx cy : Nat) (w : World) (h : (((n : Nat) : Int) != ((m : Nat) : Int)) = true) :
    Calls Try.prog 66 #[.slice x n cx, .slice y m cy] w fun e w' => e = .returned (.bool false) ∧ w = w' := by
  go_enter Try.func66, Try.ntmps66
  go_wp2
  go_ret
  exact ⟨rfl, rfl⟩

set_option maxHeartbeats 1000000 in
theorem libEqS (v u : Value) (l m : List ByteArray) (w : World) (h : Holds Value.string w v l) (g : Holds Value.string w u m) (hl : l.length ≤ 140737488351232) (hm : m.length ≤ 140737488351232) :
    Calls Try.prog 66 #[v, u] w fun e w' => e = .returned (.bool (eqB l m)) ∧ Below w.heap.size w w' := by
  obtain ⟨x, cx, rfl, hcx, hh⟩ := h.shape
  obtain ⟨y, cy, rfl, hcy, hg⟩ := g.shape
  by_cases he : l.length = m.length
  · obtain ⟨n, hn⟩ : ∃ n, n = l.length := ⟨_, rfl⟩
    rw [← he] at hg hm hcy ⊢
    rw [← hn] at hcx hh hl hg hm hcy ⊢
    have HE := Lib.hid he
    have HN := Lib.hid hn
    have HH := Lib.hid hh
    have HG := Lib.hid hg
    have htest : (((n : Nat) : Int) != ((n : Nat) : Int)) = false := by simp
    clear hn h hh g hg he
    go_enter Try.func66, Try.ntmps66
    go_wp2
    go_loopw [13] (fun i wr => ∃ k nq : Nat, k ≤ n ∧ i = .int .i64 k ∧ Hid (agree l m k) ∧ wr = w.drewN nq) (fun i _ => n - (intOf i).toNat)
    case atStart => exact ⟨0, 0, Nat.zero_le _, rfl, Lib.hid (agree_zero _ _), rfl⟩
    case round =>
      obtain ⟨k, nq, hk, rfl, ha, rfl⟩ := hrel
      by_cases hlt : k < n
      · have hlen := HN.out
        have hlen2 := HE.out
        obtain ⟨b, off, rfl, hc⟩ := HH.out.at (j := k) (by omega)
        obtain ⟨b', off', rfl, hc'⟩ := HG.out.at (j := k) (by omega)
        clear hlen hlen2
        by_cases hd : nth l k = nth m k
        · have hd2 := tl_eq hd
          have HD := Lib.hid hd; clear hd
          go_wp2_with fail
          go_quiet (fail)
          go_wp2_with fail
          go_roundw
          case rel => exact ⟨k + 1, _, by omega, by go_num, Lib.hid (agree_succ ha.out HD.out), rfl⟩
          case measure => simp [intOf]; omega
        · have hd2 := tl_ne hd
          have HD := Lib.hid (eqB_false (differ_at hd)); clear hd
          go_wp2_with fail
          go_quiet (fail)
          go_wp2_with fail
          go_ret
          exact ⟨ret_bool HD.out.symm, below_drewN (below_drewN (Below.refl _ _) _) _⟩
      · obtain rfl : k = n := by omega
        have HD := Lib.hid (eqB_true (agree_all HE.out (HN.out ▸ ha.out)))
        clear hlt
        go_wp2
        go_ret
        exact ⟨ret_bool HD.out.symm, below_drewN (Below.refl _ _) _⟩
  · have htest : (((l.length : Nat) : Int) != ((m.length : Nat) : Int)) = true := by
      rw [bne_iff_ne]; omega
    rw [eqB_false (fun e => he (by rw [e]))]
    exact (libEqS_len x y _ _ cx cy w htest).mono fun e w' ⟨h1, h2⟩ => ⟨h1, by subst h2; exact Below.refl _ _⟩

set_option maxHeartbeats 1000000 in
theorem cloneS (v : Value) (l : List ByteArray) (w : World) (h : Holds Value.string w v l) (hl : l.length ≤ 10000000) :
    Calls Try.prog 60 #[v] w (GivesS w l) := by
  obtain ⟨x, cx, rfl, hcx, hh⟩ := h.shape
  cases x with
  | none =>
    have hl0 : l = [] := by
      obtain ⟨x', cap', hv, hc', hh'⟩ := hh
      cases hv
      rcases hh' with h1 | ⟨b, off, h1, _⟩
      · exact h1
      · cases h1
    subst hl0
    have hq : ∀ w : World, (binOp .eql 24 (.slice none 0 cx) (.slice none 0 0)).run Try.prog w = .ok (.bool true) w := fun w => by
      exact Lib.run_eql_slice_nil w _ _ _ _ _ _ _ Try.underlying24
    clear hh h
    simp only [List.length_nil]
    go_enter Try.func60, Try.ntmps60
    go_wp2
    go_ret
    exact ⟨_, rfl, Own.nil _ _ _ _, Below.refl _ _⟩
  | some ad =>
    have HB := Lib.hid ((Below.refl w.heap.size w).alloc (Nat.le_refl _) (.cells #[] 9))
    have HH := Lib.hid (hh.on HB.out)
    have HO := Lib.hid (own_empty Value.string 9 w)
    have hq : ∀ w : World, (binOp .eql 24 (.slice (some ad) l.length cx) (.slice none 0 0)).run Try.prog w = .ok (.bool false) w := fun w => by
      exact Lib.run_eql_slice_nil w _ _ _ _ _ _ _ Try.underlying24
    clear hh h
    go_enter Try.func60, Try.ntmps60
    go_wp2_with (at_builtin; refine wpList_app (enc := Value.string) (B := w.heap.size) (l := []) (m := l) rfl _ _ rfl Try.underlying24 elemSTR rfl rfl rfl HO.out HH.out oneStr (by simp; omega) (by unfold maxLen; simp; omega) (by simp) ?_)
    intro v2 w2 ho hg
    have HO2 := Lib.hid ho; have HB2 := Lib.hid (HB.out.grown hg (by simp) (fun g hh => (HO.out.lt g hh).1))
    clear ho hg
    go_wp2_with fail
    go_ret
    exact ⟨_, rfl, HO2.out, HB2.out⟩

end Go.Proofs.Ytnhfdgjbbjogmaa.Row
