/- Contracts of the helpers by which the laws measure, copy, compare, mark and look at patterns (a struct of one slice of strings). No conditions but that lengths fit. -/
import Derived.Test.YtkojeajjappchaaName
namespace Go.Proofs.Ytkojeajjappchaa.Row
open Go.ChangeShapes Go.WideShapes Go.ChangeAt Go.RowKit Go.Instr
set_option linter.unusedVariables false
set_option maxRecDepth 100000

set_option maxHeartbeats 1000000 in
theorem szPattern (v : Value) (l : List ByteArray) (w : World) (left : Int) (h : Holds Value.string w v l) (hl : l.length ≤ 9223372036854775807) (hs : ∀ x ∈ l, x.size ≤ maxLen) (h0 : 0 ≤ left) (h1 : left ≤ 1048576) :
    Calls Try.prog 38 #[.agg #[v], .int .i64 left] w fun e w' => e = .returned (.int .i64 (szL l left)) ∧ Below w.heap.size w w' := by
  obtain ⟨x, cap, rfl, hcap, hh⟩ := h.shape
  have HH := Lib.hid hh; have HS := Lib.hid hs
  clear hh h hs
  go_enter Try.func38, Try.ntmps38
  go_wp2_with fail
  have HA := Lib.hid (HH.out.on ((Below.refl w.heap.size w).alloc (Nat.le_refl _) (.cells #[.slice x l.length cap] 24)))
  refine (szStringS _ l _ left HA.out hl HS.out h0 h1).mono ?_
  rintro e w' ⟨rfl, rfl⟩
  by_cases hb : (bulk l : Int) ≤ left
  · rw [szL_fit hb]
    have h2 : ¬ left - (bulk l : Int) < 0 := by omega
    go_wp2
    go_ret
    exact ⟨ret_int (szL_fit hb).symm, (Below.refl _ _).alloc (Nat.le_refl _) _⟩
  · have hz := szL_not (l := l) (left := left) (by omega)
    rw [hz]
    have HZ := Lib.hid hz; clear hz
    go_wp2
    go_ret
    exact ⟨ret_int HZ.out.symm, (Below.refl _ _).alloc (Nat.le_refl _) _⟩

set_option maxHeartbeats 1000000 in
theorem toPattern (v : Value) (l : List ByteArray) (w : World) (h : Holds Value.string w v l) (hl : l.length ≤ 100000000) :
    Calls Try.prog 42 #[.agg #[v]] w fun e w' => ∃ v', e = .returned (.agg #[v']) ∧ Own 9 Value.string w.heap.size w' v' l ∧ Below w.heap.size w w' := by
  obtain ⟨x, cap, rfl, hcap, hh⟩ := h.shape
  have HH := Lib.hid hh
  clear hh h
  go_enter Try.func42, Try.ntmps42
  go_wp2_with fail
  have HB := Lib.hid ((((Below.refl w.heap.size w).alloc (Nat.le_refl _) (.cells #[.slice x l.length cap] 24)).alloc (by simp) (.cells #[.slice none 0 0] 29)).alloc (by simp; omega) (.cells #[.slice none 0 0] 29))
  have HA := Lib.hid (HH.out.on HB.out)
  refine (toStringS _ l _ HA.out hl).mono ?_
  rintro e w1 ⟨v1, rfl, ho, hb⟩
  obtain ⟨x1, c1, rfl, hc1, ho1⟩ := ho.shape
  have HO := Lib.hid ho1
  have HB1 := Lib.hid hb
  clear ho ho1 hb
  have hk1 : w1.cell? ⟨w.heap.size + 1, 0, none⟩ = some (.slice none 0 0) := by rw [HB1.out.cell (by simp), World.cell?_alloc_past _ _ _ (by simp), World.cell?_alloc_at _ _ _ _ (by simp)]; rfl
  have hk2 : w1.cell? ⟨w.heap.size + 1 + 1, 0, none⟩ = some (.slice none 0 0) := by rw [HB1.out.cell (by simp), World.cell?_alloc_at _ _ _ _ (by simp)]; rfl
  have hf1 : w1.frozen? ⟨w.heap.size + 1, 0, none⟩ = false := by rw [HB1.out.frozen (by simp), World.frozen?_alloc_past _ _ _ (by simp), World.frozen?_alloc_at _ _ _ _ (by simp)]
  have hf2 : w1.frozen? ⟨w.heap.size + 1 + 1, 0, none⟩ = false := by rw [HB1.out.frozen (by simp), World.frozen?_alloc_at _ _ _ _ (by simp)]
  go_wp2
  have hk3 := Ret.set_same (v := .slice x1 l.length c1) (a := ⟨w.heap.size + 1, 0, none⟩) (w := w1.setCell ⟨w.heap.size + 1 + 1, 0, none⟩ (.slice x1 l.length c1)) (u := .slice none 0 0) (by rw [World.cell?_setCell_other _ _ _ _ (by simp)]; exact hk1)
  refine bodyPost_ret (Ret.results_c rfl _ _ (w.heap.size + 1) [.slice x1 l.length c1] rfl (by unfold Ret.AggOf; exact ⟨by kernel_rfl, by kernel_rfl⟩) (Ret.one hk3)) rfl ?_
  have hs := HB1.out.size
  simp at hs
  have hO2 := (HO.out.grown (Ret.grownBy_set w1 ⟨w.heap.size + 1 + 1, 0, none⟩ (.slice x1 l.length c1)) (nb HO.out (by simp))).grown (Ret.grownBy_set _ ⟨w.heap.size + 1, 0, none⟩ (.slice x1 l.length c1)) (nb HO.out (by simp))
  exact ⟨_, rfl, hO2.mono (by simp; omega), ((HB.out.trans (HB1.out.mono (by simp; omega))).setCell (by simp; omega) _).setCell (by simp) _⟩

set_option maxHeartbeats 1000000 in
theorem eqPattern (v u : Value) (l m : List ByteArray) (w : World) (h : Holds Value.string w v l) (g : Holds Value.string w u m) (hl : l.length ≤ 140737488351232) (hm : m.length ≤ 140737488351232) :
    Calls Try.prog 45 #[.agg #[v], .agg #[u]] w fun e w' => e = .returned (.bool (eqB l m)) ∧ Below w.heap.size w w' := by
  obtain ⟨x, cx, rfl, hcx, hh⟩ := h.shape
  obtain ⟨y, cy, rfl, hcy, hg⟩ := g.shape
  have HH := Lib.hid hh; have HG := Lib.hid hg
  clear hh h hg g
  go_enter Try.func45, Try.ntmps45
  go_wp2_with fail
  have HB := Lib.hid (((Below.refl w.heap.size w).alloc (Nat.le_refl _) (.cells #[.slice x l.length cx] 29)).alloc (Nat.le_trans (Nat.le_refl _) (by simp)) (.cells #[.slice y m.length cy] 29))
  have HA := Lib.hid (HH.out.on HB.out); have HC := Lib.hid (HG.out.on HB.out)
  refine (eqStringS _ _ l m _ HA.out HC.out hl hm).mono ?_
  rintro e w' ⟨rfl, hb⟩
  have HB2 := Lib.hid (HB.out.trans (hb.mono (by simp; omega))); clear hb
  by_cases he : l = m
  · have HE := Lib.hid (eqB_true he)
    rw [HE.out]
    clear he
    go_wp2
    go_ret
    exact ⟨ret_bool HE.out.symm, HB2.out⟩
  · have HE := Lib.hid (eqB_false he)
    rw [HE.out]
    clear he
    go_wp2
    go_ret
    exact ⟨ret_bool HE.out.symm, HB2.out⟩

set_option maxHeartbeats 1000000 in
theorem markPattern (B : Nat) (v : Value) (l : List ByteArray) (w : World) (k : Int) (h : Own 9 Value.string B w v l) (hl : l.length ≤ 100000000) (h0 : 0 ≤ k) (h1 : k ≤ 100000000000) :
    Calls Try.prog 57 #[.agg #[v], .int .i64 k] w fun e w' => e = .returned (.int .i64 (k + l.length)) ∧ Own 9 Value.string B w' v (marks markT k l.length) ∧ w.grownBy w' v.ownBlock := by
  obtain ⟨x, cx, rfl, hcx, hh⟩ := h.shape
  have HH := Lib.hid hh
  clear hh h
  go_enter Try.func57, Try.ntmps57
  go_wp2_with fail
  have HB := Lib.hid ((Below.refl w.heap.size w).alloc (Nat.le_refl _) (.cells #[.slice x l.length cx] 29))
  have HA := Lib.hid (HH.out.on HB.out)
  refine (markStringS B _ l _ k HA.out hl h0 h1).mono ?_
  rintro e w' ⟨rfl, ho, hg⟩
  have HO := Lib.hid ho
  have HG := Lib.hid ((grown_of_below HB.out (Value.slice x l.length cx).ownBlock).trans hg)
  clear ho hg
  go_wp2
  go_ret
  exact ⟨rfl, HO.out, HG.out⟩

set_option maxHeartbeats 1000000 in
theorem heldPattern (v : Value) (w : World) (k : Int) (n : Nat) (h : Holds Value.string w v (marks markT k n)) (hl : n ≤ 100000000) (h0 : 0 ≤ k) (h1 : k ≤ 100000000000) :
    Calls Try.prog 58 #[.agg #[v], .int .i64 k] w fun e w' => e = .returned (.int .i64 (k + n)) ∧ Below w.heap.size w w' := by
  obtain ⟨x, cx, rfl, hcx, hh⟩ := h.shape
  rw [marks_length] at hh hcx ⊢
  have HH := Lib.hid hh
  clear hh h
  go_enter Try.func58, Try.ntmps58
  go_wp2_with fail
  have HB := Lib.hid ((Below.refl w.heap.size w).alloc (Nat.le_refl _) (.cells #[.slice x n cx] 29))
  have HA := Lib.hid (HH.out.on HB.out)
  refine (heldStringS _ _ k n HA.out hl h0 h1).mono ?_
  rintro e w' ⟨rfl, hb⟩
  have HB2 := Lib.hid (HB.out.trans (hb.mono (by simp))); clear hb
  go_wp2
  go_ret
  exact ⟨rfl, HB2.out⟩

theorem sameP (v u : Value) (l : List ByteArray) (w : World) (h : Holds Value.string w v l) (g : Holds Value.string w u l) (hl : l.length ≤ 140737488351232) :
    Calls Try.prog 45 #[.agg #[v], .agg #[u]] w fun e w' => e = .returned (.bool true) ∧ Below w.heap.size w w' := by
  have := eqPattern v u l l w h g hl hl
  rwa [eqB_self] at this

end Go.Proofs.Ytkojeajjappchaa.Row
