/- Contracts of ParseRule, the model's and the program's (with strings.Cut of the library, whatever its variable MaxLen holds). No conditions but that lengths fit. -/
import Derived.WalkKit
import Derived.Shelf.Vars
import Derived.Test.YtkojeajjappchaaShelf
import Derived.Test.YtkojeajjappchaaRuleT
import Derived.Test.YtkojeajjappchaaRuleP
namespace Go.Proofs.Ytkojeajjappchaa.Row
open Go.ChangeShapes Go.WideShapes Go.ChangeAt Go.RowKit Go.Instr
set_option linter.unusedVariables false
set_option maxRecDepth 100000

/-- A store into a block that holds no texts keeps a slice of texts. -/
theorem holds_setBlk {w : World} {v : Value} {l : List ByteArray} {g i : Nat} {cs : Array Value} {t : TypeId} (h : Holds Value.string w v l) (hg : Ret.Blk w g cs t) (hcs : ∀ (j : Nat) (s : ByteArray), cs[j]? ≠ some (.string s)) (u : Value) : Holds Value.string (w.setCell ⟨g, i, none⟩ u) v l := by
  obtain ⟨x, cap, hv, hc, hh⟩ := h
  refine ⟨x, cap, hv, hc, ?_⟩
  rcases hh with hh | ⟨b, off, hx, hh⟩
  · exact Or.inl hh
  · refine Or.inr ⟨b, off, hx, fun j hj => ?_⟩
    have h1 := hh j hj
    by_cases hb : b = g
    · subst hb
      rw [hg.cell] at h1
      exact absurd h1 (hcs _ _)
    · have := Go.RowKit.Below.heap_setCell w ⟨g, i, none⟩ u b hb
      simp only [World.cell?, this] at h1 ⊢
      exact h1
theorem two_noStr {x0 x1 : Option Addr} {n0 c0 n1 c1 : Nat} : ∀ (j : Nat) (s : ByteArray), (#[.slice x0 n0 c0, .slice x1 n1 c1] : Array Value)[j]? ≠ some (.string s) := fun j s => by
  match j with
  | 0 => simp
  | 1 => simp
  | j + 2 => simp
theorem two_noStr2 {x0 x1 x2 : Option Addr} {n0 c0 n1 c1 n2 c2 : Nat} : ∀ (j : Nat) (s : ByteArray), ((#[.slice x0 n0 c0, .slice x1 n1 c1] : Array Value).setIfInBounds 0 (.slice x2 n2 c2))[j]? ≠ some (.string s) := fun j s => by
  match j with
  | 0 => simp
  | 1 => simp
  | j + 2 => simp
theorem kRl_nil (w : World) : kRl.At w (.agg #[.slice none 0 0, .slice none 0 0]) ([], []) := kRl_of (kN_of (Holds.nil _ _)) (kN_of (Holds.nil _ _))
theorem kRl_nilIn (B E : Nat) (w : World) : kRl.In B E w (.agg #[.slice none 0 0, .slice none 0 0]) ([], []) := by
  have hn : kN.own B w (⟨none, 0, 0, []⟩ : Rw ByteArray) := kN_own2 (Own.nil _ _ _ _)
  have hbk : kRl.blocks ((⟨none, 0, 0, []⟩ : Rw ByteArray), (⟨none, 0, 0, []⟩ : Rw ByteArray)) = [] := rfl
  have h : kRl.Own B E w ((⟨none, 0, 0, []⟩ : Rw ByteArray), (⟨none, 0, 0, []⟩ : Rw ByteArray)) := ⟨⟨hn, hn⟩, by rw [hbk]; exact List.nodup_nil, fun g hg => by rw [hbk] at hg; cases hg⟩
  exact h.in
theorem ret_vb {V : Value} {a b : Bool} (h : a = b) : Ending.returned (.tuple #[V, .bool a]) = .returned (.tuple #[V, .bool b]) := by rw [h]
theorem tl60 : (mk [60]).toList = [60] := ByteArray.toList_mk [60]
theorem aggR : Ret.AggOf Try.prog 31 2 := aggRl

set_option maxHeartbeats 8000000 in
theorem specParseRule (s : ByteArray) (w : World) (hs : s.size ≤ 2000000) :
    Calls Try.prog 30 #[.string s] w fun e w' => ∃ V, e = .returned (.tuple #[V, .bool (prOk s)]) ∧ kRl.At w' V (prR s) ∧ Below w.heap.size w w' := by
  have HB0 := Lib.hid ((Below.refl w.heap.size w).alloc (Nat.le_refl _) (.cells #[.slice none 0 0, .slice none 0 0] 31))
  have HR0 := Lib.hid (Ret.Blk.new w #[.slice none 0 0, .slice none 0 0] 31)
  go_enter Try.func30, Try.ntmps30
  go_wp2_with fail
  refine (Sp.l4Split s _ (by omega)).mono ?_
  rintro e w1 ⟨v1, rfl, ho1, hb1⟩
  obtain ⟨x1, n1, c1, rfl, hn1, hc1, ho1⟩ := ho1.shapeN
  have HR := Lib.hid (HR0.out.on hb1)
  have HB := Lib.hid (HB0.out.trans (hb1.mono HB0.out.size))
  have HH := Lib.hid ho1.holds
  clear ho1 hb1
  obtain ⟨L, hL⟩ : ∃ L, Sp.splitB s = L := ⟨_, rfl⟩
  rw [hL] at hn1 HH
  have r0 : w1.cell? ⟨w.heap.size, 0, none⟩ = some (.slice none 0 0) := HR.out.cell 0
  have r1 : w1.cell? ⟨w.heap.size, 1, none⟩ = some (.slice none 0 0) := HR.out.cell 1
  have z0 := HR.out.frozen 0; have z1 := HR.out.frozen 1
  have ZN := Lib.hid ((HR.out.set 0 (.slice none 0 0)).set 1 (.slice none 0 0))
  have ZB := Lib.hid ((HB.out.setCell (p := ⟨w.heap.size, 0, none⟩) (Nat.le_refl _) (.slice none 0 0)).setCell (p := ⟨w.heap.size, 1, none⟩) (Nat.le_refl _) (.slice none 0 0))
  by_cases h3 : n1 = 3
  · subst h3
    obtain ⟨a, c, b, rfl⟩ : ∃ a c b, L = [a, c, b] := by
      rcases L with _ | ⟨a, _ | ⟨c, _ | ⟨b, _ | ⟨d, r⟩⟩⟩⟩ <;> first | exact ⟨_, _, _, rfl⟩ | (exfalso; simp at hn1)
    obtain ⟨bb, off, rfl, d0⟩ := HH.out.at (j := 0) (by simp)
    obtain ⟨bb', off', e1, d1⟩ := HH.out.at (j := 1) (by simp)
    obtain ⟨rfl, rfl⟩ : bb = bb' ∧ off = off' := by cases e1; exact ⟨rfl, rfl⟩
    obtain ⟨bb', off', e2, d2⟩ := HH.out.at (j := 2) (by simp)
    obtain ⟨rfl, rfl⟩ : bb = bb' ∧ off = off' := by cases e2; exact ⟨rfl, rfl⟩
    replace d0 : w1.cell? ⟨bb, off, none⟩ = some (.string a) := d0
    replace d1 : w1.cell? ⟨bb, off + 1, none⟩ = some (.string c) := d1
    replace d2 : w1.cell? ⟨bb, off + 2, none⟩ = some (.string b) := d2
    obtain ⟨p1, p2⟩ := pr_three hL
    have hsz : a.size ≤ 2000000 ∧ b.size ≤ 2000000 := by
      have hk := fun p hp => Nat.le_trans (splitSp_size s p hp) hs
      rw [hL] at hk
      exact ⟨hk a (by simp), hk b (by simp)⟩
    by_cases hc : c = mk [60]
    · have hq : (c.toList == [60]) = true := by rw [hc, tl60]; rfl
      rw [hc] at p1 p2
      have P1 := Lib.hid (show prOk s = prAB a b from by rw [p1]; simp)
      have P2 := Lib.hid (show prOk s = true → prR s = (ppN a, ppN b) from fun h => by rw [p1] at h; rw [p2, h]; rfl)
      have D2 := Lib.hid d2; have R0 := Lib.hid r0
      clear p1 p2 hc hL hn1 e1 e2 r0 r1 z0 z1
      go_wp2_with fail
      clear hq d0 d1 d2
      refine (specParsePattern a _ (by omega)).mono ?_
      rintro e w2 ⟨va, rfl, ha, hb⟩
      obtain ⟨xa, na, ca, rfl, -, -, ha⟩ := ha.shapeN
      have hal := (Below.refl w2.heap.size w2).alloc (Nat.le_refl _) (.cells #[.slice xa na ca] 29)
      have d2 := ((hb.cell (Ret.cell_lt D2.out)).trans D2.out)
      replace d2 := (hal.cell (Ret.cell_lt d2)).trans d2
      replace HR := Lib.hid ((HR.out.on hb).on hal); replace HB := Lib.hid ((HB.out.trans (hb.mono HB.out.size)).alloc (Nat.le_trans HB.out.size hb.size) (.cells #[.slice xa na ca] 29))
      have HA := Lib.hid (ha.on hal)
      have HBA := Lib.hid (Ret.Box.new w2 (.slice xa na ca) 29)
      clear ha hb hal
      go_wp2_with fail
      clear d2
      refine (specParsePattern b _ (by omega)).mono ?_
      rintro e w3 ⟨vb, rfl, hbb, hb⟩
      obtain ⟨xb, nb, cb, rfl, -, -, hbb⟩ := hbb.shapeN
      have hs3 := hb.size
      simp only [World.size_alloc] at hs3
      have hal := (Below.refl w3.heap.size w3).alloc (Nat.le_refl _) (.cells #[.slice xb nb cb] 29)
      replace HR := Lib.hid ((HR.out.on hb).on hal); replace HB := Lib.hid ((HB.out.trans (hb.mono HB.out.size)).alloc (Nat.le_trans HB.out.size hb.size) (.cells #[.slice xb nb cb] 29))
      replace HA := Lib.hid ((HA.out.on hb).on hal); replace HBA := Lib.hid ((HBA.out.on hb).on hal)
      have HBb := Lib.hid (hbb.on hal)
      have HBB := Lib.hid (Ret.Box.new w3 (.slice xb nb cb) 29)
      clear hbb hb hal
      have ha2 := HBA.out.cell
      have hal := (Below.refl (w3.alloc (.cells #[.slice xb nb cb] 29)).heap.size (w3.alloc (.cells #[.slice xb nb cb] 29))).alloc (Nat.le_refl _) (.cells #[.slice xa na ca, .slice xb nb cb] 31)
      replace HR := Lib.hid (HR.out.on hal); replace HB := Lib.hid (HB.out.alloc HB.out.size (.cells #[.slice xa na ca, .slice xb nb cb] 31))
      replace HA := Lib.hid (HA.out.on hal); replace HBb := Lib.hid (HBb.out.on hal)
      have HX := Lib.hid (Ret.Blk.new' (w := w3.alloc (.cells #[.slice xb nb cb] 29)) (n := w3.heap.size + 1) #[.slice xa na ca, .slice xb nb cb] 31 (by simp))
      have HKR := Lib.hid (kRl_of (x := (ppN a, ppN b)) (kN_of HA.out) (kN_of HBb.out))
      have HWT := Lib.hid (wt_pp a b)
      clear hal
      cases hpa : ppOk a with
      | false =>
        have E1 : Hid (prOk s = false) := Lib.hid (by rw [P1.out]; unfold prAB; rw [hpa]; rfl)
        have E2 : Hid (prR s = ([], [])) := Lib.hid (prR_no E1.out)
        have r0 : ((w3.alloc (.cells #[.slice xb nb cb] 29)).alloc (.cells #[.slice xa na ca, .slice xb nb cb] 31)).cell? ⟨w.heap.size, 0, none⟩ = some (.slice none 0 0) := HR.out.cell 0
        have r1 : ((w3.alloc (.cells #[.slice xb nb cb] 29)).alloc (.cells #[.slice xa na ca, .slice xb nb cb] 31)).cell? ⟨w.heap.size, 1, none⟩ = some (.slice none 0 0) := HR.out.cell 1
        have z0 : ((w3.alloc (.cells #[.slice xb nb cb] 29)).alloc (.cells #[.slice xa na ca, .slice xb nb cb] 31)).frozen? ⟨w.heap.size, 0, none⟩ = false := HR.out.frozen 0
        have z1 : ((w3.alloc (.cells #[.slice xb nb cb] 29)).alloc (.cells #[.slice xa na ca, .slice xb nb cb] 31)).frozen? ⟨w.heap.size, 1, none⟩ = false := HR.out.frozen 1
        have ZN := Lib.hid ((HR.out.set 0 (.slice none 0 0)).set 1 (.slice none 0 0))
        have ZB := Lib.hid ((HB.out.setCell (p := ⟨w.heap.size, 0, none⟩) (Nat.le_refl _) (.slice none 0 0)).setCell (p := ⟨w.heap.size, 1, none⟩) (Nat.le_refl _) (.slice none 0 0))
        go_wp2_with fail
        refine bodyPost_ret (Ret.results_ct rfl _ _ w.heap.size [.slice none 0 0, .slice none 0 0] rfl aggRl ZN.out.cells) rfl ?_
        exact ⟨_, ret_vb E1.out.symm, by rw [E2.out]; exact kRl_nil _, ZB.out⟩
      | true =>
        cases hpb : ppOk b with
        | false =>
          have E1 : Hid (prOk s = false) := Lib.hid (by rw [P1.out]; unfold prAB; rw [hpa, hpb]; rfl)
          have E2 : Hid (prR s = ([], [])) := Lib.hid (prR_no E1.out)
          have r0 : ((w3.alloc (.cells #[.slice xb nb cb] 29)).alloc (.cells #[.slice xa na ca, .slice xb nb cb] 31)).cell? ⟨w.heap.size, 0, none⟩ = some (.slice none 0 0) := HR.out.cell 0
          have r1 : ((w3.alloc (.cells #[.slice xb nb cb] 29)).alloc (.cells #[.slice xa na ca, .slice xb nb cb] 31)).cell? ⟨w.heap.size, 1, none⟩ = some (.slice none 0 0) := HR.out.cell 1
          have z0 : ((w3.alloc (.cells #[.slice xb nb cb] 29)).alloc (.cells #[.slice xa na ca, .slice xb nb cb] 31)).frozen? ⟨w.heap.size, 0, none⟩ = false := HR.out.frozen 0
          have z1 : ((w3.alloc (.cells #[.slice xb nb cb] 29)).alloc (.cells #[.slice xa na ca, .slice xb nb cb] 31)).frozen? ⟨w.heap.size, 1, none⟩ = false := HR.out.frozen 1
          have ZN := Lib.hid ((HR.out.set 0 (.slice none 0 0)).set 1 (.slice none 0 0))
          have ZB := Lib.hid ((HB.out.setCell (p := ⟨w.heap.size, 0, none⟩) (Nat.le_refl _) (.slice none 0 0)).setCell (p := ⟨w.heap.size, 1, none⟩) (Nat.le_refl _) (.slice none 0 0))
          go_wp2_with fail
          refine bodyPost_ret (Ret.results_ct rfl _ _ w.heap.size [.slice none 0 0, .slice none 0 0] rfl aggRl ZN.out.cells) rfl ?_
          exact ⟨_, ret_vb E1.out.symm, by rw [E2.out]; exact kRl_nil _, ZB.out⟩
        | true =>
          obtain ⟨z, hz⟩ : ∃ z, validR (ppN a, ppN b) = z := ⟨_, rfl⟩
          have HZ := Lib.hid hz
          have E0 : Hid (prOk s = z) := Lib.hid (by rw [P1.out]; unfold prAB; rw [hpa, hpb, hz]; rfl)
          clear hz hpa hpb
          have x0 : ((w3.alloc (.cells #[.slice xb nb cb] 29)).alloc (.cells #[.slice xa na ca, .slice xb nb cb] 31)).cell? ⟨w3.heap.size + 1, 0, none⟩ = some (.slice xa na ca) := HX.out.cell 0
          have x1 : ((w3.alloc (.cells #[.slice xb nb cb] 29)).alloc (.cells #[.slice xa na ca, .slice xb nb cb] 31)).cell? ⟨w3.heap.size + 1, 1, none⟩ = some (.slice xb nb cb) := HX.out.cell 1
          go_wp2_with fail
          clear x0 x1
          refine (specValidRule _ (ppN a, ppN b) _ z HZ.out HKR.out HWT.out).mono ?_
          rintro e w4 ⟨rfl, hb⟩
          replace HR := Lib.hid (HR.out.on hb); replace HX := Lib.hid (HX.out.on hb)
          replace HA := Lib.hid (HA.out.on hb); replace HBb := Lib.hid (HBb.out.on hb)
          replace HB := Lib.hid (HB.out.trans (hb.mono HB.out.size)); clear hb
          cases z with
          | false =>
            have E1 : Hid (prOk s = false) := Lib.hid (E0.out)
            have E2 : Hid (prR s = ([], [])) := Lib.hid (prR_no E1.out)
            have r0 : w4.cell? ⟨w.heap.size, 0, none⟩ = some (.slice none 0 0) := HR.out.cell 0
            have r1 : w4.cell? ⟨w.heap.size, 1, none⟩ = some (.slice none 0 0) := HR.out.cell 1
            have z0 : w4.frozen? ⟨w.heap.size, 0, none⟩ = false := HR.out.frozen 0
            have z1 : w4.frozen? ⟨w.heap.size, 1, none⟩ = false := HR.out.frozen 1
            have ZN := Lib.hid ((HR.out.set 0 (.slice none 0 0)).set 1 (.slice none 0 0))
            have ZB := Lib.hid ((HB.out.setCell (p := ⟨w.heap.size, 0, none⟩) (Nat.le_refl _) (.slice none 0 0)).setCell (p := ⟨w.heap.size, 1, none⟩) (Nat.le_refl _) (.slice none 0 0))
            go_wp2_with fail
            refine bodyPost_ret (Ret.results_ct rfl _ _ w.heap.size [.slice none 0 0, .slice none 0 0] rfl aggRl ZN.out.cells) rfl ?_
            exact ⟨_, ret_vb E1.out.symm, by rw [E2.out]; exact kRl_nil _, ZB.out⟩
          | true =>
            have E2 : Hid (prR s = (ppN a, ppN b)) := Lib.hid (P2.out E0.out)
            have x0 : w4.cell? ⟨w3.heap.size + 1, 0, none⟩ = some (.slice xa na ca) := HX.out.cell 0
            have x1 : w4.cell? ⟨w3.heap.size + 1, 1, none⟩ = some (.slice xb nb cb) := HX.out.cell 1
            have r0 : w4.cell? ⟨w.heap.size, 0, none⟩ = some (.slice none 0 0) := HR.out.cell 0
            have r1 : w4.cell? ⟨w.heap.size, 1, none⟩ = some (.slice none 0 0) := HR.out.cell 1
            have z0 : w4.frozen? ⟨w.heap.size, 0, none⟩ = false := HR.out.frozen 0
            have z1 : w4.frozen? ⟨w.heap.size, 1, none⟩ = false := HR.out.frozen 1
            have ZN := Lib.hid ((HR.out.set 0 (.slice xa na ca)).set 1 (.slice xb nb cb))
            have ZB := Lib.hid ((HB.out.setCell (p := ⟨w.heap.size, 0, none⟩) (Nat.le_refl _) (.slice xa na ca)).setCell (p := ⟨w.heap.size, 1, none⟩) (Nat.le_refl _) (.slice xb nb cb))
            have ZK := Lib.hid (kRl_of (x := (ppN a, ppN b)) (kN_of (holds_setBlk (i := 1) (holds_setBlk (i := 0) HA.out HR.out two_noStr (.slice xa na ca)) (HR.out.set 0 (.slice xa na ca)) two_noStr2 (.slice xb nb cb))) (kN_of (holds_setBlk (i := 1) (holds_setBlk (i := 0) HBb.out HR.out two_noStr (.slice xa na ca)) (HR.out.set 0 (.slice xa na ca)) two_noStr2 (.slice xb nb cb))))
            go_wp2_with fail
            refine bodyPost_ret (Ret.results_ct rfl _ _ w.heap.size [.slice xa na ca, .slice xb nb cb] rfl aggRl ZN.out.cells) rfl ?_
            exact ⟨_, ret_vb E0.out.symm, by rw [E2.out]; exact ZK.out, ZB.out⟩
    · have hq : (c.toList == [60]) = false := by
        have : c.toList ≠ [60] := fun e => hc (toList_inj (e.trans tl60.symm))
        simpa using this
      have P1 := Lib.hid (show prOk s = false from by rw [p1]; simp [hc])
      have P2 := Lib.hid (show prR s = ([], []) from by rw [p2]; simp [hc])
      clear p1 p2 hc hL hn1 e1 e2
      go_wp2_with fail
      refine bodyPost_ret (Ret.results_ct rfl _ _ w.heap.size [.slice none 0 0, .slice none 0 0] rfl aggRl ZN.out.cells) rfl ?_
      exact ⟨_, ret_vb P1.out.symm, by rw [P2.out]; exact kRl_nil _, ZB.out⟩
  · obtain ⟨p1, p2⟩ := pr_other (s := s) (by rw [hL, ← hn1]; exact h3)
    have P1 := Lib.hid p1; have P2 := Lib.hid p2
    have hne : ((n1 : Int) != 3) = true := by simp; omega
    clear p1 p2 hL hn1 h3
    go_wp2_with fail
    refine bodyPost_ret (Ret.results_ct rfl _ _ w.heap.size [.slice none 0 0, .slice none 0 0] rfl aggRl ZN.out.cells) rfl ?_
    exact ⟨_, ret_vb P1.out.symm, by rw [P2.out]; exact kRl_nil _, ZB.out⟩

theorem below_dn (w : World) (n : Nat) : Below w.heap.size w (w.drewN n) := ⟨rfl, rfl, rfl, Nat.le_refl _, fun _ _ => rfl⟩
/-- The library's variable holds a number. -/
def MaxL (w : World) : Prop := ∃ m, w.cell? ⟨0, 0, none⟩ = some (.int .i64 m)
theorem MaxL.on {w w' : World} (h : MaxL w) (hb : Below w.heap.size w w') : MaxL w' := by
  obtain ⟨m, hm⟩ := h
  exact ⟨m, (hb.cell (Ret.cell_lt hm)).trans hm⟩
theorem maxL_of {w : World} (h : w.ShapedOpen Try.prog) : MaxL w :=
  Go.Proofs.cell_of_shapedOpen_int (zero := #[.int .i64 0]) (t := 3) h (of_decide_eq_true (by kernel_rfl)) (by kernel_rfl) rfl (by kernel_rfl) (by kernel_rfl) Try.underlying3
theorem cutC (s A B : ByteArray) (w : World) (hA : mk (Lib.cut (bl s) signL).1 = A) (hB : mk (Lib.cut (bl s) signL).2.1 = B) (hs : s.size ≤ 2000000) (hm : MaxL w) :
    Calls Try.prog 55 #[.string s, .string { data := #[32, 60, 32] }] w fun e w' => ∃ f : Bool, e = .returned (.tuple #[.string A, .string B, .bool f]) ∧ Below w.heap.size w w' := by
  obtain ⟨m, hm⟩ := hm
  refine (Try.strings_Cut s _ m w (by omega) hm).mono ?_
  rintro e w' ⟨rfl, n, rfl⟩
  subst hA hB
  exact ⟨(Lib.cut (bl s) signL).2.2, rfl, below_dn w n⟩
set_option maxHeartbeats 8000000 in
theorem implParseRule (s : ByteArray) (w : World) (hm : MaxL w) (hs : s.size ≤ 2000000) :
    Calls Try.prog 31 #[.string s] w fun e w' => ∃ V, e = .returned (.tuple #[V, .bool (prOk s)]) ∧ kRl.In w.heap.size w'.heap.size w' V (prR s) ∧ Below w.heap.size w w' := by
  have HB0 := Lib.hid ((Below.refl w.heap.size w).alloc (Nat.le_refl _) (.cells #[.slice none 0 0, .slice none 0 0] 31))
  have HR0 := Lib.hid (Ret.Blk.new w #[.slice none 0 0, .slice none 0 0] 31)
  have HM := Lib.hid (hm.on HB0.out)
  obtain ⟨a, ha⟩ : ∃ a, mk (Lib.cut (bl s) signL).1 = a := ⟨_, rfl⟩
  obtain ⟨b, hb⟩ : ∃ b, mk (Lib.cut (bl s) signL).2.1 = b := ⟨_, rfl⟩
  have hsz := cut_len s
  obtain ⟨p1, p2⟩ := pr_cut s
  rw [ha, hb] at hsz p1 p2
  have hsz2 : a.size ≤ 2000000 ∧ b.size ≤ 2000000 := by omega
  have P1 := Lib.hid p1.symm; have P2 := Lib.hid p2; have HCA := Lib.hid ha; have HCB := Lib.hid hb
  clear hm ha hb hsz p1 p2
  go_enter Try.func31, Try.ntmps31
  go_wp2_with fail
  refine (cutC s a b _ HCA.out HCB.out hs HM.out).mono ?_
  rintro e w1 ⟨f, rfl, hb1⟩
  have HR := Lib.hid (HR0.out.on hb1)
  have HB := Lib.hid (HB0.out.trans (hb1.mono HB0.out.size))
  have hs1 := hb1.size
  simp only [World.size_alloc] at hs1
  clear hb1
  go_wp2_with fail
  refine (implParsePattern a _ (by omega)).mono ?_
  rintro e w2 ⟨va, rfl, ha, hb⟩
  obtain ⟨xa, na, ca, rfl, -, -, ha⟩ := ha.shapeN
  obtain ⟨m0, e0, s0, ho⟩ := (kN_own ha).split
  have d0 : kN.cells m0 = [.slice xa na ca] := by injection e0 with e; exact (congrArg Array.toList e).symm
  have hs2 := hb.size
  have hal := (Below.refl w2.heap.size w2).alloc (Nat.le_refl _) (.cells #[.slice xa na ca] 29)
  replace HR := Lib.hid ((HR.out.on hb).on hal); replace HB := Lib.hid ((HB.out.trans (hb.mono HB.out.size)).alloc (Nat.le_trans HB.out.size hb.size) (.cells #[.slice xa na ca] 29))
  have OA := Lib.hid (ho.on hal); have D0 := Lib.hid d0; have S0 := Lib.hid s0
  have HBA := Lib.hid (Ret.Box.new w2 (.slice xa na ca) 29)
  have HA := Lib.hid (ha.holds.on hal)
  clear ha hb hal e0 d0 s0 ho
  go_wp2_with fail
  refine (implParsePattern b _ (by omega)).mono ?_
  rintro e w3 ⟨vb, rfl, hbb, hb⟩
  obtain ⟨xb, nb, cb, rfl, -, -, hbb⟩ := hbb.shapeN
  obtain ⟨m1, e1, s1, ho⟩ := (kN_own hbb).split
  have d1 : kN.cells m1 = [.slice xb nb cb] := by injection e1 with e; exact (congrArg Array.toList e).symm
  have hs3 := hb.size
  simp only [World.size_alloc] at hs3 ho
  have hal := (Below.refl w3.heap.size w3).alloc (Nat.le_refl _) (.cells #[.slice xb nb cb] 29)
  replace HR := Lib.hid ((HR.out.on hb).on hal); replace HB := Lib.hid ((HB.out.trans (hb.mono HB.out.size)).alloc (Nat.le_trans HB.out.size hb.size) (.cells #[.slice xb nb cb] 29))
  replace OA := Lib.hid ((OA.out.on hb).on hal); replace HBA := Lib.hid ((HBA.out.on hb).on hal); replace HA := Lib.hid ((HA.out.on hb).on hal)
  have OB := Lib.hid (ho.on hal); have D1 := Lib.hid d1; have S1 := Lib.hid s1
  have HBb := Lib.hid (hbb.holds.on hal)
  clear hbb hb hal e1 d1 s1 ho
  have ha2 := HBA.out.cell
  have hal := (Below.refl (w3.alloc (.cells #[.slice xb nb cb] 29)).heap.size (w3.alloc (.cells #[.slice xb nb cb] 29))).alloc (Nat.le_refl _) (.cells #[.slice xa na ca, .slice xb nb cb] 31)
  replace HR := Lib.hid (HR.out.on hal); replace HB := Lib.hid (HB.out.alloc HB.out.size (.cells #[.slice xa na ca, .slice xb nb cb] 31))
  replace OA := Lib.hid (OA.out.on hal); replace OB := Lib.hid (OB.out.on hal); replace HA := Lib.hid (HA.out.on hal); replace HBb := Lib.hid (HBb.out.on hal)
  have HX := Lib.hid (Ret.Blk.new' (w := w3.alloc (.cells #[.slice xb nb cb] 29)) (n := w3.heap.size + 1) #[.slice xa na ca, .slice xb nb cb] 31 (by simp))
  have HKR := Lib.hid (kRl_of (x := (ppN a, ppN b)) (kN_of HA.out) (kN_of HBb.out))
  have HWT := Lib.hid (wt_pp a b)
  clear hal HA HBb
  cases hpa : ppOk a with
  | false =>
    have E1 : Hid (prOk s = false) := Lib.hid (by rw [P1.out]; unfold prAB; rw [hpa]; rfl)
    have E2 : Hid (prR s = ([], [])) := Lib.hid (prR_no E1.out)
    have r0 : ((w3.alloc (.cells #[.slice xb nb cb] 29)).alloc (.cells #[.slice xa na ca, .slice xb nb cb] 31)).cell? ⟨w.heap.size, 0, none⟩ = some (.slice none 0 0) := HR.out.cell 0
    have r1 : ((w3.alloc (.cells #[.slice xb nb cb] 29)).alloc (.cells #[.slice xa na ca, .slice xb nb cb] 31)).cell? ⟨w.heap.size, 1, none⟩ = some (.slice none 0 0) := HR.out.cell 1
    have z0 : ((w3.alloc (.cells #[.slice xb nb cb] 29)).alloc (.cells #[.slice xa na ca, .slice xb nb cb] 31)).frozen? ⟨w.heap.size, 0, none⟩ = false := HR.out.frozen 0
    have z1 : ((w3.alloc (.cells #[.slice xb nb cb] 29)).alloc (.cells #[.slice xa na ca, .slice xb nb cb] 31)).frozen? ⟨w.heap.size, 1, none⟩ = false := HR.out.frozen 1
    have ZN := Lib.hid ((HR.out.set 0 (.slice none 0 0)).set 1 (.slice none 0 0))
    have ZB := Lib.hid ((HB.out.setCell (p := ⟨w.heap.size, 0, none⟩) (Nat.le_refl _) (.slice none 0 0)).setCell (p := ⟨w.heap.size, 1, none⟩) (Nat.le_refl _) (.slice none 0 0))
    go_wp2_with fail
    refine bodyPost_ret (Ret.results_ct rfl _ _ w.heap.size [.slice none 0 0, .slice none 0 0] rfl aggRl ZN.out.cells) rfl ?_
    exact ⟨_, ret_vb E1.out.symm, by rw [E2.out]; exact kRl_nilIn _ _ _, ZB.out⟩
  | true =>
    cases hpb : ppOk b with
    | false =>
      have E1 : Hid (prOk s = false) := Lib.hid (by rw [P1.out]; unfold prAB; rw [hpa, hpb]; rfl)
      have E2 : Hid (prR s = ([], [])) := Lib.hid (prR_no E1.out)
      have r0 : ((w3.alloc (.cells #[.slice xb nb cb] 29)).alloc (.cells #[.slice xa na ca, .slice xb nb cb] 31)).cell? ⟨w.heap.size, 0, none⟩ = some (.slice none 0 0) := HR.out.cell 0
      have r1 : ((w3.alloc (.cells #[.slice xb nb cb] 29)).alloc (.cells #[.slice xa na ca, .slice xb nb cb] 31)).cell? ⟨w.heap.size, 1, none⟩ = some (.slice none 0 0) := HR.out.cell 1
      have z0 : ((w3.alloc (.cells #[.slice xb nb cb] 29)).alloc (.cells #[.slice xa na ca, .slice xb nb cb] 31)).frozen? ⟨w.heap.size, 0, none⟩ = false := HR.out.frozen 0
      have z1 : ((w3.alloc (.cells #[.slice xb nb cb] 29)).alloc (.cells #[.slice xa na ca, .slice xb nb cb] 31)).frozen? ⟨w.heap.size, 1, none⟩ = false := HR.out.frozen 1
      have ZN := Lib.hid ((HR.out.set 0 (.slice none 0 0)).set 1 (.slice none 0 0))
      have ZB := Lib.hid ((HB.out.setCell (p := ⟨w.heap.size, 0, none⟩) (Nat.le_refl _) (.slice none 0 0)).setCell (p := ⟨w.heap.size, 1, none⟩) (Nat.le_refl _) (.slice none 0 0))
      go_wp2_with fail
      refine bodyPost_ret (Ret.results_ct rfl _ _ w.heap.size [.slice none 0 0, .slice none 0 0] rfl aggRl ZN.out.cells) rfl ?_
      exact ⟨_, ret_vb E1.out.symm, by rw [E2.out]; exact kRl_nilIn _ _ _, ZB.out⟩
    | true =>
      obtain ⟨z, hz⟩ : ∃ z, validR (ppN a, ppN b) = z := ⟨_, rfl⟩
      have HZ := Lib.hid hz
      have E0 : Hid (prOk s = z) := Lib.hid (by rw [P1.out]; unfold prAB; rw [hpa, hpb, hz]; rfl)
      clear hz hpa hpb
      have x0 : ((w3.alloc (.cells #[.slice xb nb cb] 29)).alloc (.cells #[.slice xa na ca, .slice xb nb cb] 31)).cell? ⟨w3.heap.size + 1, 0, none⟩ = some (.slice xa na ca) := HX.out.cell 0
      have x1 : ((w3.alloc (.cells #[.slice xb nb cb] 29)).alloc (.cells #[.slice xa na ca, .slice xb nb cb] 31)).cell? ⟨w3.heap.size + 1, 1, none⟩ = some (.slice xb nb cb) := HX.out.cell 1
      go_wp2_with fail
      clear x0 x1
      refine (implValidRule _ (ppN a, ppN b) _ z HZ.out HKR.out HWT.out).mono ?_
      rintro e w4 ⟨rfl, hb⟩
      replace HR := Lib.hid (HR.out.on hb); replace HX := Lib.hid (HX.out.on hb)
      replace OA := Lib.hid (OA.out.on hb); replace OB := Lib.hid (OB.out.on hb); have hs4 := hb.size
      simp only [World.size_alloc] at hs4
      replace HB := Lib.hid (HB.out.trans (hb.mono HB.out.size)); clear hb
      cases z with
      | false =>
        have E1 : Hid (prOk s = false) := Lib.hid (E0.out)
        have E2 : Hid (prR s = ([], [])) := Lib.hid (prR_no E1.out)
        have r0 : w4.cell? ⟨w.heap.size, 0, none⟩ = some (.slice none 0 0) := HR.out.cell 0
        have r1 : w4.cell? ⟨w.heap.size, 1, none⟩ = some (.slice none 0 0) := HR.out.cell 1
        have z0 : w4.frozen? ⟨w.heap.size, 0, none⟩ = false := HR.out.frozen 0
        have z1 : w4.frozen? ⟨w.heap.size, 1, none⟩ = false := HR.out.frozen 1
        have ZN := Lib.hid ((HR.out.set 0 (.slice none 0 0)).set 1 (.slice none 0 0))
        have ZB := Lib.hid ((HB.out.setCell (p := ⟨w.heap.size, 0, none⟩) (Nat.le_refl _) (.slice none 0 0)).setCell (p := ⟨w.heap.size, 1, none⟩) (Nat.le_refl _) (.slice none 0 0))
        go_wp2_with fail
        refine bodyPost_ret (Ret.results_ct rfl _ _ w.heap.size [.slice none 0 0, .slice none 0 0] rfl aggRl ZN.out.cells) rfl ?_
        exact ⟨_, ret_vb E1.out.symm, by rw [E2.out]; exact kRl_nilIn _ _ _, ZB.out⟩
      | true =>
        have E2 : Hid (prR s = (ppN a, ppN b)) := Lib.hid (P2.out E0.out)
        have x0 : w4.cell? ⟨w3.heap.size + 1, 0, none⟩ = some (.slice xa na ca) := HX.out.cell 0
        have x1 : w4.cell? ⟨w3.heap.size + 1, 1, none⟩ = some (.slice xb nb cb) := HX.out.cell 1
        have r0 : w4.cell? ⟨w.heap.size, 0, none⟩ = some (.slice none 0 0) := HR.out.cell 0
        have r1 : w4.cell? ⟨w.heap.size, 1, none⟩ = some (.slice none 0 0) := HR.out.cell 1
        have z0 : w4.frozen? ⟨w.heap.size, 0, none⟩ = false := HR.out.frozen 0
        have z1 : w4.frozen? ⟨w.heap.size, 1, none⟩ = false := HR.out.frozen 1
        have ZN := Lib.hid ((HR.out.set 0 (.slice xa na ca)).set 1 (.slice xb nb cb))
        have ZB := Lib.hid ((HB.out.setCell (p := ⟨w.heap.size, 0, none⟩) (Nat.le_refl _) (.slice xa na ca)).setCell (p := ⟨w.heap.size, 1, none⟩) (Nat.le_refl _) (.slice xb nb cb))
        have ZK := Lib.hid (show kRl.In w.heap.size ((w4.setCell ⟨w.heap.size, 0, none⟩ (.slice xa na ca)).setCell ⟨w.heap.size, 1, none⟩ (.slice xb nb cb)).heap.size ((w4.setCell ⟨w.heap.size, 0, none⟩ (.slice xa na ca)).setCell ⟨w.heap.size, 1, none⟩ (.slice xb nb cb)) (.agg #[.slice xa na ca, .slice xb nb cb]) (ppN a, ppN b) from by
          have hval : kRl.val (m0, m1) = .agg #[.slice xa na ca, .slice xb nb cb] := by
            show Value.agg ((kN.cells m0 ++ (kN.cells m1))).toArray = _
            rw [D0.out, D1.out]
            rfl
          have hstr : kRl.strip (m0, m1) = (ppN a, ppN b) := Prod.ext S0.out S1.out
          rw [← hval, ← hstr]
          refine Kd.Own.in ?_
          exact Kd.Own.pair (C := w2.heap.size) ((Kd.Own.set (g := w.heap.size) (i := 1) (u := (.slice xb nb cb)) (Kd.Own.set (g := w.heap.size) (i := 0) (u := (.slice xa na ca)) OA.out (by omega)) (by omega)).mono (by omega) (Nat.le_refl _)) ((Kd.Own.set (g := w.heap.size) (i := 1) (u := (.slice xb nb cb)) (Kd.Own.set (g := w.heap.size) (i := 0) (u := (.slice xa na ca)) OB.out (by omega)) (by omega)).mono (by omega) (by simp only [World.size_setCell]; omega)) (by omega) (by simp only [World.size_setCell]; omega))
        go_wp2_with fail
        refine bodyPost_ret (Ret.results_ct rfl _ _ w.heap.size [.slice xa na ca, .slice xb nb cb] rfl aggRl ZN.out.cells) rfl ?_
        exact ⟨_, ret_vb E0.out.symm, by rw [E2.out]; exact ZK.out, ZB.out⟩
end Go.Proofs.Ytkojeajjappchaa.Row
