/- Contracts and mathematics, joined: RuleS, Draw, DrawOne, DrawW. No conditions but those that each states. -/
import Derived.WalkKit
import Derived.Shelf.Vars
import Derived.Test.YtkojeajjappchaaGreatB5
import Derived.Test.YtkojeajjappchaaGreatB10
import Derived.Test.YtkojeajjappchaaGreatB8
import Derived.Test.YtkojeajjappchaaGreatRows
import Derived.Test.YtkojeajjappchaaGreatB1
import Derived.Test.YtkojeajjappchaaGreatB2
import Derived.ProofKit
import Derived.WalkLawsBesides
import Derived.Lib.Hide
import Derived.LoopTactic
import Derived.Below
import Derived.WalkSmall
import Derived.Deep.QuietTactic
import Derived.BigQuiet
import Derived.Lib.SmallJoins
import Derived.OwnWalk
/- Contracts of ParseRule, the model's and the program's (with strings.Cut of the library, whatever its variable MaxLen holds). No conditions but that lengths fit. -/
namespace Go.Proofs.YtkojeajjappchaaGreat.Row
open Go.ChangeShapes Go.WideShapes Go.ChangeAt Go.RowKit Go.Instr
set_option linter.unusedVariables false
set_option maxRecDepth 100000

/-- A store into a block that holds no texts keeps a slice of texts. -/
theorem holds_setBlk {w : World} {v : Value} {l : List ByteArray} {g i : Nat} {cs : Array Value} {t : TypeId} (h : Holds Value.string w v l) (hg : Ret.Blk w g cs t) (hcs : ∀ (j : Nat) (s : ByteArray), cs[j]? ≠ some (.string s)) (u : Value) : Holds Value.string (w.setCell ⟨g, i, none⟩ u) v l := by
  obtain ⟨x, cap, hv, hc, hh⟩ := h
  refine ⟨x, cap, hv, hc, ?_⟩
  rcases hh with hh | ⟨b, off, hx, hh⟩
  · exact Or.inl hh
  · refine Or.inr ⟨b, off, hx, fun j hj => ?_⟩
    have h1 := hh j hj
    by_cases hb : b = g
    · subst hb
      rw [hg.cell] at h1
      exact absurd h1 (hcs _ _)
    · have := Go.RowKit.Below.heap_setCell w ⟨g, i, none⟩ u b hb
      simp only [World.cell?, this] at h1 ⊢
      exact h1
theorem two_noStr {x0 x1 : Option Addr} {n0 c0 n1 c1 : Nat} : ∀ (j : Nat) (s : ByteArray), (#[.slice x0 n0 c0, .slice x1 n1 c1] : Array Value)[j]? ≠ some (.string s) := fun j s => by
  match j with
  | 0 => simp
  | 1 => simp
  | j + 2 => simp
theorem two_noStr2 {x0 x1 x2 : Option Addr} {n0 c0 n1 c1 n2 c2 : Nat} : ∀ (j : Nat) (s : ByteArray), ((#[.slice x0 n0 c0, .slice x1 n1 c1] : Array Value).setIfInBounds 0 (.slice x2 n2 c2))[j]? ≠ some (.string s) := fun j s => by
  match j with
  | 0 => simp
  | 1 => simp
  | j + 2 => simp
theorem kRl_nil (w : World) : kRl.At w (.agg #[.slice none 0 0, .slice none 0 0]) ([], []) := kRl_of (kN_of (Holds.nil _ _)) (kN_of (Holds.nil _ _))
theorem kRl_nilIn (B E : Nat) (w : World) : kRl.In B E w (.agg #[.slice none 0 0, .slice none 0 0]) ([], []) := by
  have hn : kN.own B w (⟨none, 0, 0, []⟩ : Rw ByteArray) := kN_own2 (Own.nil _ _ _ _)
  have hbk : kRl.blocks ((⟨none, 0, 0, []⟩ : Rw ByteArray), (⟨none, 0, 0, []⟩ : Rw ByteArray)) = [] := rfl
  have h : kRl.Own B E w ((⟨none, 0, 0, []⟩ : Rw ByteArray), (⟨none, 0, 0, []⟩ : Rw ByteArray)) := ⟨⟨hn, hn⟩, by rw [hbk]; exact List.nodup_nil, fun g hg => by rw [hbk] at hg; cases hg⟩
  exact h.in
theorem ret_vb {V : Value} {a b : Bool} (h : a = b) : Ending.returned (.tuple #[V, .bool a]) = .returned (.tuple #[V, .bool b]) := by rw [h]
theorem tl60 : (mk [60]).toList = [60] := ByteArray.toList_mk [60]
set_option maxHeartbeats 8000000 in
theorem specParseRule (s : ByteArray) (w : World) (hs : s.size ≤ 2000000) :
    Calls Tryz.prog 9 #[.string s] w fun e w' => ∃ V, e = .returned (.tuple #[V, .bool (prOk s)]) ∧ kRl.At w' V (prR s) ∧ Below w.heap.size w w' := by
  have HB0 := Lib.hid ((Below.refl w.heap.size w).alloc (Nat.le_refl _) (.cells #[.slice none 0 0, .slice none 0 0] 28))
  have HR0 := Lib.hid (Ret.Blk.new w #[.slice none 0 0, .slice none 0 0] 28)
  go_enter Tryz.func9, Tryz.ntmps9
  go_wp2_with fail
  refine (Sp.l4Split s _ (by omega)).mono ?_
  rintro e w1 ⟨v1, rfl, ho1, hb1⟩
  obtain ⟨x1, n1, c1, rfl, hn1, hc1, ho1⟩ := ho1.shapeN
  have HR := Lib.hid (HR0.out.on hb1)
  have HB := Lib.hid (HB0.out.trans (hb1.mono HB0.out.size))
  have HH := Lib.hid ho1.holds
  clear ho1 hb1
  obtain ⟨L, hL⟩ : ∃ L, Sp.splitB s = L := ⟨_, rfl⟩
  rw [hL] at hn1 HH
  have r0 : w1.cell? ⟨w.heap.size, 0, none⟩ = some (.slice none 0 0) := HR.out.cell 0
  have r1 : w1.cell? ⟨w.heap.size, 1, none⟩ = some (.slice none 0 0) := HR.out.cell 1
  have z0 := HR.out.frozen 0; have z1 := HR.out.frozen 1
  have ZN := Lib.hid ((HR.out.set 0 (.slice none 0 0)).set 1 (.slice none 0 0))
  have ZB := Lib.hid ((HB.out.setCell (p := ⟨w.heap.size, 0, none⟩) (Nat.le_refl _) (.slice none 0 0)).setCell (p := ⟨w.heap.size, 1, none⟩) (Nat.le_refl _) (.slice none 0 0))
  by_cases h3 : n1 = 3
  · subst h3
    obtain ⟨a, c, b, rfl⟩ : ∃ a c b, L = [a, c, b] := by
      rcases L with _ | ⟨a, _ | ⟨c, _ | ⟨b, _ | ⟨d, r⟩⟩⟩⟩ <;> first | exact ⟨_, _, _, rfl⟩ | (exfalso; simp at hn1)
    obtain ⟨bb, off, rfl, d0⟩ := HH.out.at (j := 0) (by simp)
    obtain ⟨bb', off', e1, d1⟩ := HH.out.at (j := 1) (by simp)
    obtain ⟨rfl, rfl⟩ : bb = bb' ∧ off = off' := by cases e1; exact ⟨rfl, rfl⟩
    obtain ⟨bb', off', e2, d2⟩ := HH.out.at (j := 2) (by simp)
    obtain ⟨rfl, rfl⟩ : bb = bb' ∧ off = off' := by cases e2; exact ⟨rfl, rfl⟩
    replace d0 : w1.cell? ⟨bb, off, none⟩ = some (.string a) := d0
    replace d1 : w1.cell? ⟨bb, off + 1, none⟩ = some (.string c) := d1
    replace d2 : w1.cell? ⟨bb, off + 2, none⟩ = some (.string b) := d2
    obtain ⟨p1, p2⟩ := pr_three hL
    have hsz : a.size ≤ 2000000 ∧ b.size ≤ 2000000 := by
      have hk := fun p hp => Nat.le_trans (splitSp_size s p hp) hs
      rw [hL] at hk
      exact ⟨hk a (by simp), hk b (by simp)⟩
    by_cases hc : c = mk [60]
    · have hq : (c.toList == [60]) = true := by rw [hc, tl60]; rfl
      rw [hc] at p1 p2
      have P1 := Lib.hid (show prOk s = prAB a b from by rw [p1]; simp)
      have P2 := Lib.hid (show prOk s = true → prR s = (ppN a, ppN b) from fun h => by rw [p1] at h; rw [p2, h]; rfl)
      have D2 := Lib.hid d2; have R0 := Lib.hid r0
      clear p1 p2 hc hL hn1 e1 e2 r0 r1 z0 z1
      go_wp2_with fail
      clear hq d0 d1 d2
      refine (specParsePattern a _ (by omega)).mono ?_
      rintro e w2 ⟨va, rfl, ha, hb⟩
      obtain ⟨xa, na, ca, rfl, -, -, ha⟩ := ha.shapeN
      have hal := (Below.refl w2.heap.size w2).alloc (Nat.le_refl _) (.cells #[.slice xa na ca] 26)
      have d2 := ((hb.cell (Ret.cell_lt D2.out)).trans D2.out)
      replace d2 := (hal.cell (Ret.cell_lt d2)).trans d2
      replace HR := Lib.hid ((HR.out.on hb).on hal); replace HB := Lib.hid ((HB.out.trans (hb.mono HB.out.size)).alloc (Nat.le_trans HB.out.size hb.size) (.cells #[.slice xa na ca] 26))
      have HA := Lib.hid (ha.on hal)
      have HBA := Lib.hid (Ret.Box.new w2 (.slice xa na ca) 26)
      clear ha hb hal
      go_wp2_with fail
      clear d2
      refine (specParsePattern b _ (by omega)).mono ?_
      rintro e w3 ⟨vb, rfl, hbb, hb⟩
      obtain ⟨xb, nb, cb, rfl, -, -, hbb⟩ := hbb.shapeN
      have hs3 := hb.size
      simp only [World.size_alloc] at hs3
      have hal := (Below.refl w3.heap.size w3).alloc (Nat.le_refl _) (.cells #[.slice xb nb cb] 26)
      replace HR := Lib.hid ((HR.out.on hb).on hal); replace HB := Lib.hid ((HB.out.trans (hb.mono HB.out.size)).alloc (Nat.le_trans HB.out.size hb.size) (.cells #[.slice xb nb cb] 26))
      replace HA := Lib.hid ((HA.out.on hb).on hal); replace HBA := Lib.hid ((HBA.out.on hb).on hal)
      have HBb := Lib.hid (hbb.on hal)
      have HBB := Lib.hid (Ret.Box.new w3 (.slice xb nb cb) 26)
      clear hbb hb hal
      have ha2 := HBA.out.cell
      have hal := (Below.refl (w3.alloc (.cells #[.slice xb nb cb] 26)).heap.size (w3.alloc (.cells #[.slice xb nb cb] 26))).alloc (Nat.le_refl _) (.cells #[.slice xa na ca, .slice xb nb cb] 28)
      replace HR := Lib.hid (HR.out.on hal); replace HB := Lib.hid (HB.out.alloc HB.out.size (.cells #[.slice xa na ca, .slice xb nb cb] 28))
      replace HA := Lib.hid (HA.out.on hal); replace HBb := Lib.hid (HBb.out.on hal)
      have HX := Lib.hid (Ret.Blk.new' (w := w3.alloc (.cells #[.slice xb nb cb] 26)) (n := w3.heap.size + 1) #[.slice xa na ca, .slice xb nb cb] 28 (by simp))
      have HKR := Lib.hid (kRl_of (x := (ppN a, ppN b)) (kN_of HA.out) (kN_of HBb.out))
      have HWT := Lib.hid (wt_pp a b)
      clear hal
      cases hpa : ppOk a with
      | false =>
        have E1 : Hid (prOk s = false) := Lib.hid (by rw [P1.out]; unfold prAB; rw [hpa]; rfl)
        have E2 : Hid (prR s = ([], [])) := Lib.hid (prR_no E1.out)
        have r0 : ((w3.alloc (.cells #[.slice xb nb cb] 26)).alloc (.cells #[.slice xa na ca, .slice xb nb cb] 28)).cell? ⟨w.heap.size, 0, none⟩ = some (.slice none 0 0) := HR.out.cell 0
        have r1 : ((w3.alloc (.cells #[.slice xb nb cb] 26)).alloc (.cells #[.slice xa na ca, .slice xb nb cb] 28)).cell? ⟨w.heap.size, 1, none⟩ = some (.slice none 0 0) := HR.out.cell 1
        have z0 : ((w3.alloc (.cells #[.slice xb nb cb] 26)).alloc (.cells #[.slice xa na ca, .slice xb nb cb] 28)).frozen? ⟨w.heap.size, 0, none⟩ = false := HR.out.frozen 0
        have z1 : ((w3.alloc (.cells #[.slice xb nb cb] 26)).alloc (.cells #[.slice xa na ca, .slice xb nb cb] 28)).frozen? ⟨w.heap.size, 1, none⟩ = false := HR.out.frozen 1
        have ZN := Lib.hid ((HR.out.set 0 (.slice none 0 0)).set 1 (.slice none 0 0))
        have ZB := Lib.hid ((HB.out.setCell (p := ⟨w.heap.size, 0, none⟩) (Nat.le_refl _) (.slice none 0 0)).setCell (p := ⟨w.heap.size, 1, none⟩) (Nat.le_refl _) (.slice none 0 0))
        go_wp2_with fail
        refine bodyPost_ret (Ret.results_ct rfl _ _ w.heap.size [.slice none 0 0, .slice none 0 0] rfl aggRl ZN.out.cells) rfl ?_
        exact ⟨_, ret_vb E1.out.symm, by rw [E2.out]; exact kRl_nil _, ZB.out⟩
      | true =>
        cases hpb : ppOk b with
        | false =>
          have E1 : Hid (prOk s = false) := Lib.hid (by rw [P1.out]; unfold prAB; rw [hpa, hpb]; rfl)
          have E2 : Hid (prR s = ([], [])) := Lib.hid (prR_no E1.out)
          have r0 : ((w3.alloc (.cells #[.slice xb nb cb] 26)).alloc (.cells #[.slice xa na ca, .slice xb nb cb] 28)).cell? ⟨w.heap.size, 0, none⟩ = some (.slice none 0 0) := HR.out.cell 0
          have r1 : ((w3.alloc (.cells #[.slice xb nb cb] 26)).alloc (.cells #[.slice xa na ca, .slice xb nb cb] 28)).cell? ⟨w.heap.size, 1, none⟩ = some (.slice none 0 0) := HR.out.cell 1
          have z0 : ((w3.alloc (.cells #[.slice xb nb cb] 26)).alloc (.cells #[.slice xa na ca, .slice xb nb cb] 28)).frozen? ⟨w.heap.size, 0, none⟩ = false := HR.out.frozen 0
          have z1 : ((w3.alloc (.cells #[.slice xb nb cb] 26)).alloc (.cells #[.slice xa na ca, .slice xb nb cb] 28)).frozen? ⟨w.heap.size, 1, none⟩ = false := HR.out.frozen 1
          have ZN := Lib.hid ((HR.out.set 0 (.slice none 0 0)).set 1 (.slice none 0 0))
          have ZB := Lib.hid ((HB.out.setCell (p := ⟨w.heap.size, 0, none⟩) (Nat.le_refl _) (.slice none 0 0)).setCell (p := ⟨w.heap.size, 1, none⟩) (Nat.le_refl _) (.slice none 0 0))
          go_wp2_with fail
          refine bodyPost_ret (Ret.results_ct rfl _ _ w.heap.size [.slice none 0 0, .slice none 0 0] rfl aggRl ZN.out.cells) rfl ?_
          exact ⟨_, ret_vb E1.out.symm, by rw [E2.out]; exact kRl_nil _, ZB.out⟩
        | true =>
          obtain ⟨z, hz⟩ : ∃ z, validR (ppN a, ppN b) = z := ⟨_, rfl⟩
          have HZ := Lib.hid hz
          have E0 : Hid (prOk s = z) := Lib.hid (by rw [P1.out]; unfold prAB; rw [hpa, hpb, hz]; rfl)
          clear hz hpa hpb
          have x0 : ((w3.alloc (.cells #[.slice xb nb cb] 26)).alloc (.cells #[.slice xa na ca, .slice xb nb cb] 28)).cell? ⟨w3.heap.size + 1, 0, none⟩ = some (.slice xa na ca) := HX.out.cell 0
          have x1 : ((w3.alloc (.cells #[.slice xb nb cb] 26)).alloc (.cells #[.slice xa na ca, .slice xb nb cb] 28)).cell? ⟨w3.heap.size + 1, 1, none⟩ = some (.slice xb nb cb) := HX.out.cell 1
          go_wp2_with fail
          clear x0 x1
          refine (specValidRule _ (ppN a, ppN b) _ z HZ.out HKR.out HWT.out).mono ?_
          rintro e w4 ⟨rfl, hb⟩
          replace HR := Lib.hid (HR.out.on hb); replace HX := Lib.hid (HX.out.on hb)
          replace HA := Lib.hid (HA.out.on hb); replace HBb := Lib.hid (HBb.out.on hb)
          replace HB := Lib.hid (HB.out.trans (hb.mono HB.out.size)); clear hb
          cases z with
          | false =>
            have E1 : Hid (prOk s = false) := Lib.hid (E0.out)
            have E2 : Hid (prR s = ([], [])) := Lib.hid (prR_no E1.out)
            have r0 : w4.cell? ⟨w.heap.size, 0, none⟩ = some (.slice none 0 0) := HR.out.cell 0
            have r1 : w4.cell? ⟨w.heap.size, 1, none⟩ = some (.slice none 0 0) := HR.out.cell 1
            have z0 : w4.frozen? ⟨w.heap.size, 0, none⟩ = false := HR.out.frozen 0
            have z1 : w4.frozen? ⟨w.heap.size, 1, none⟩ = false := HR.out.frozen 1
            have ZN := Lib.hid ((HR.out.set 0 (.slice none 0 0)).set 1 (.slice none 0 0))
            have ZB := Lib.hid ((HB.out.setCell (p := ⟨w.heap.size, 0, none⟩) (Nat.le_refl _) (.slice none 0 0)).setCell (p := ⟨w.heap.size, 1, none⟩) (Nat.le_refl _) (.slice none 0 0))
            go_wp2_with fail
            refine bodyPost_ret (Ret.results_ct rfl _ _ w.heap.size [.slice none 0 0, .slice none 0 0] rfl aggRl ZN.out.cells) rfl ?_
            exact ⟨_, ret_vb E1.out.symm, by rw [E2.out]; exact kRl_nil _, ZB.out⟩
          | true =>
            have E2 : Hid (prR s = (ppN a, ppN b)) := Lib.hid (P2.out E0.out)
            have x0 : w4.cell? ⟨w3.heap.size + 1, 0, none⟩ = some (.slice xa na ca) := HX.out.cell 0
            have x1 : w4.cell? ⟨w3.heap.size + 1, 1, none⟩ = some (.slice xb nb cb) := HX.out.cell 1
            have r0 : w4.cell? ⟨w.heap.size, 0, none⟩ = some (.slice none 0 0) := HR.out.cell 0
            have r1 : w4.cell? ⟨w.heap.size, 1, none⟩ = some (.slice none 0 0) := HR.out.cell 1
            have z0 : w4.frozen? ⟨w.heap.size, 0, none⟩ = false := HR.out.frozen 0
            have z1 : w4.frozen? ⟨w.heap.size, 1, none⟩ = false := HR.out.frozen 1
            have ZN := Lib.hid ((HR.out.set 0 (.slice xa na ca)).set 1 (.slice xb nb cb))
            have ZB := Lib.hid ((HB.out.setCell (p := ⟨w.heap.size, 0, none⟩) (Nat.le_refl _) (.slice xa na ca)).setCell (p := ⟨w.heap.size, 1, none⟩) (Nat.le_refl _) (.slice xb nb cb))
            have ZK := Lib.hid (kRl_of (x := (ppN a, ppN b)) (kN_of (holds_setBlk (i := 1) (holds_setBlk (i := 0) HA.out HR.out two_noStr (.slice xa na ca)) (HR.out.set 0 (.slice xa na ca)) two_noStr2 (.slice xb nb cb))) (kN_of (holds_setBlk (i := 1) (holds_setBlk (i := 0) HBb.out HR.out two_noStr (.slice xa na ca)) (HR.out.set 0 (.slice xa na ca)) two_noStr2 (.slice xb nb cb))))
            go_wp2_with fail
            refine bodyPost_ret (Ret.results_ct rfl _ _ w.heap.size [.slice xa na ca, .slice xb nb cb] rfl aggRl ZN.out.cells) rfl ?_
            exact ⟨_, ret_vb E0.out.symm, by rw [E2.out]; exact ZK.out, ZB.out⟩
    · have hq : (c.toList == [60]) = false := by
        have : c.toList ≠ [60] := fun e => hc (toList_inj (e.trans tl60.symm))
        simpa using this
      have P1 := Lib.hid (show prOk s = false from by rw [p1]; simp [hc])
      have P2 := Lib.hid (show prR s = ([], []) from by rw [p2]; simp [hc])
      clear p1 p2 hc hL hn1 e1 e2
      go_wp2_with fail
      refine bodyPost_ret (Ret.results_ct rfl _ _ w.heap.size [.slice none 0 0, .slice none 0 0] rfl aggRl ZN.out.cells) rfl ?_
      exact ⟨_, ret_vb P1.out.symm, by rw [P2.out]; exact kRl_nil _, ZB.out⟩
  · obtain ⟨p1, p2⟩ := pr_other (s := s) (by rw [hL, ← hn1]; exact h3)
    have P1 := Lib.hid p1; have P2 := Lib.hid p2
    have hne : ((n1 : Int) != 3) = true := by simp; omega
    clear p1 p2 hL hn1 h3
    go_wp2_with fail
    refine bodyPost_ret (Ret.results_ct rfl _ _ w.heap.size [.slice none 0 0, .slice none 0 0] rfl aggRl ZN.out.cells) rfl ?_
    exact ⟨_, ret_vb P1.out.symm, by rw [P2.out]; exact kRl_nil _, ZB.out⟩

theorem below_dn (w : World) (n : Nat) : Below w.heap.size w (w.drewN n) := ⟨rfl, rfl, rfl, Nat.le_refl _, fun _ _ => rfl⟩
/-- The library's variable holds a number. -/
def MaxL (w : World) : Prop := ∃ m, w.cell? ⟨0, 0, none⟩ = some (.int .i64 m)
theorem MaxL.on {w w' : World} (h : MaxL w) (hb : Below w.heap.size w w') : MaxL w' := by
  obtain ⟨m, hm⟩ := h
  exact ⟨m, (hb.cell (Ret.cell_lt hm)).trans hm⟩
theorem maxL_of {w : World} (h : w.ShapedOpen Tryz.prog) : MaxL w :=
  Go.Proofs.cell_of_shapedOpen_int (zero := #[.int .i64 0]) (t := 3) h (of_decide_eq_true (by kernel_rfl)) (by kernel_rfl) rfl (by kernel_rfl) (by kernel_rfl) Tryz.underlying3
theorem cutC (s A B : ByteArray) (w : World) (hA : mk (Lib.cut (bl s) signL).1 = A) (hB : mk (Lib.cut (bl s) signL).2.1 = B) (hs : s.size ≤ 2000000) (hm : MaxL w) :
    Calls Tryz.prog 32 #[.string s, .string { data := #[32, 60, 32] }] w fun e w' => ∃ f : Bool, e = .returned (.tuple #[.string A, .string B, .bool f]) ∧ Below w.heap.size w w' := by
  obtain ⟨m, hm⟩ := hm
  refine (Tryz.strings_Cut s _ m w (by omega) hm).mono ?_
  rintro e w' ⟨rfl, n, rfl⟩
  subst hA hB
  exact ⟨(Lib.cut (bl s) signL).2.2, rfl, below_dn w n⟩
set_option maxHeartbeats 8000000 in
theorem implParseRule (s : ByteArray) (w : World) (hm : MaxL w) (hs : s.size ≤ 2000000) :
    Calls Tryz.prog 8 #[.string s] w fun e w' => ∃ V, e = .returned (.tuple #[V, .bool (prOk s)]) ∧ kRl.In w.heap.size w'.heap.size w' V (prR s) ∧ Below w.heap.size w w' := by
  have HB0 := Lib.hid ((Below.refl w.heap.size w).alloc (Nat.le_refl _) (.cells #[.slice none 0 0, .slice none 0 0] 28))
  have HR0 := Lib.hid (Ret.Blk.new w #[.slice none 0 0, .slice none 0 0] 28)
  have HM := Lib.hid (hm.on HB0.out)
  obtain ⟨a, ha⟩ : ∃ a, mk (Lib.cut (bl s) signL).1 = a := ⟨_, rfl⟩
  obtain ⟨b, hb⟩ : ∃ b, mk (Lib.cut (bl s) signL).2.1 = b := ⟨_, rfl⟩
  have hsz := cut_len s
  obtain ⟨p1, p2⟩ := pr_cut s
  rw [ha, hb] at hsz p1 p2
  have hsz2 : a.size ≤ 2000000 ∧ b.size ≤ 2000000 := by omega
  have P1 := Lib.hid p1.symm; have P2 := Lib.hid p2; have HCA := Lib.hid ha; have HCB := Lib.hid hb
  clear hm ha hb hsz p1 p2
  go_enter Tryz.func8, Tryz.ntmps8
  go_wp2_with fail
  refine (cutC s a b _ HCA.out HCB.out hs HM.out).mono ?_
  rintro e w1 ⟨f, rfl, hb1⟩
  have HR := Lib.hid (HR0.out.on hb1)
  have HB := Lib.hid (HB0.out.trans (hb1.mono HB0.out.size))
  have hs1 := hb1.size
  simp only [World.size_alloc] at hs1
  clear hb1
  go_wp2_with fail
  refine (implParsePattern a _ (by omega)).mono ?_
  rintro e w2 ⟨va, rfl, ha, hb⟩
  obtain ⟨xa, na, ca, rfl, -, -, ha⟩ := ha.shapeN
  obtain ⟨m0, e0, s0, ho⟩ := (kN_own ha).split
  have d0 : kN.cells m0 = [.slice xa na ca] := by injection e0 with e; exact (congrArg Array.toList e).symm
  have hs2 := hb.size
  have hal := (Below.refl w2.heap.size w2).alloc (Nat.le_refl _) (.cells #[.slice xa na ca] 26)
  replace HR := Lib.hid ((HR.out.on hb).on hal); replace HB := Lib.hid ((HB.out.trans (hb.mono HB.out.size)).alloc (Nat.le_trans HB.out.size hb.size) (.cells #[.slice xa na ca] 26))
  have OA := Lib.hid (ho.on hal); have D0 := Lib.hid d0; have S0 := Lib.hid s0
  have HBA := Lib.hid (Ret.Box.new w2 (.slice xa na ca) 26)
  have HA := Lib.hid (ha.holds.on hal)
  clear ha hb hal e0 d0 s0 ho
  go_wp2_with fail
  refine (implParsePattern b _ (by omega)).mono ?_
  rintro e w3 ⟨vb, rfl, hbb, hb⟩
  obtain ⟨xb, nb, cb, rfl, -, -, hbb⟩ := hbb.shapeN
  obtain ⟨m1, e1, s1, ho⟩ := (kN_own hbb).split
  have d1 : kN.cells m1 = [.slice xb nb cb] := by injection e1 with e; exact (congrArg Array.toList e).symm
  have hs3 := hb.size
  simp only [World.size_alloc] at hs3 ho
  have hal := (Below.refl w3.heap.size w3).alloc (Nat.le_refl _) (.cells #[.slice xb nb cb] 26)
  replace HR := Lib.hid ((HR.out.on hb).on hal); replace HB := Lib.hid ((HB.out.trans (hb.mono HB.out.size)).alloc (Nat.le_trans HB.out.size hb.size) (.cells #[.slice xb nb cb] 26))
  replace OA := Lib.hid ((OA.out.on hb).on hal); replace HBA := Lib.hid ((HBA.out.on hb).on hal); replace HA := Lib.hid ((HA.out.on hb).on hal)
  have OB := Lib.hid (ho.on hal); have D1 := Lib.hid d1; have S1 := Lib.hid s1
  have HBb := Lib.hid (hbb.holds.on hal)
  clear hbb hb hal e1 d1 s1 ho
  have ha2 := HBA.out.cell
  have hal := (Below.refl (w3.alloc (.cells #[.slice xb nb cb] 26)).heap.size (w3.alloc (.cells #[.slice xb nb cb] 26))).alloc (Nat.le_refl _) (.cells #[.slice xa na ca, .slice xb nb cb] 28)
  replace HR := Lib.hid (HR.out.on hal); replace HB := Lib.hid (HB.out.alloc HB.out.size (.cells #[.slice xa na ca, .slice xb nb cb] 28))
  replace OA := Lib.hid (OA.out.on hal); replace OB := Lib.hid (OB.out.on hal); replace HA := Lib.hid (HA.out.on hal); replace HBb := Lib.hid (HBb.out.on hal)
  have HX := Lib.hid (Ret.Blk.new' (w := w3.alloc (.cells #[.slice xb nb cb] 26)) (n := w3.heap.size + 1) #[.slice xa na ca, .slice xb nb cb] 28 (by simp))
  have HKR := Lib.hid (kRl_of (x := (ppN a, ppN b)) (kN_of HA.out) (kN_of HBb.out))
  have HWT := Lib.hid (wt_pp a b)
  clear hal HA HBb
  cases hpa : ppOk a with
  | false =>
    have E1 : Hid (prOk s = false) := Lib.hid (by rw [P1.out]; unfold prAB; rw [hpa]; rfl)
    have E2 : Hid (prR s = ([], [])) := Lib.hid (prR_no E1.out)
    have r0 : ((w3.alloc (.cells #[.slice xb nb cb] 26)).alloc (.cells #[.slice xa na ca, .slice xb nb cb] 28)).cell? ⟨w.heap.size, 0, none⟩ = some (.slice none 0 0) := HR.out.cell 0
    have r1 : ((w3.alloc (.cells #[.slice xb nb cb] 26)).alloc (.cells #[.slice xa na ca, .slice xb nb cb] 28)).cell? ⟨w.heap.size, 1, none⟩ = some (.slice none 0 0) := HR.out.cell 1
    have z0 : ((w3.alloc (.cells #[.slice xb nb cb] 26)).alloc (.cells #[.slice xa na ca, .slice xb nb cb] 28)).frozen? ⟨w.heap.size, 0, none⟩ = false := HR.out.frozen 0
    have z1 : ((w3.alloc (.cells #[.slice xb nb cb] 26)).alloc (.cells #[.slice xa na ca, .slice xb nb cb] 28)).frozen? ⟨w.heap.size, 1, none⟩ = false := HR.out.frozen 1
    have ZN := Lib.hid ((HR.out.set 0 (.slice none 0 0)).set 1 (.slice none 0 0))
    have ZB := Lib.hid ((HB.out.setCell (p := ⟨w.heap.size, 0, none⟩) (Nat.le_refl _) (.slice none 0 0)).setCell (p := ⟨w.heap.size, 1, none⟩) (Nat.le_refl _) (.slice none 0 0))
    go_wp2_with fail
    refine bodyPost_ret (Ret.results_ct rfl _ _ w.heap.size [.slice none 0 0, .slice none 0 0] rfl aggRl ZN.out.cells) rfl ?_
    exact ⟨_, ret_vb E1.out.symm, by rw [E2.out]; exact kRl_nilIn _ _ _, ZB.out⟩
  | true =>
    cases hpb : ppOk b with
    | false =>
      have E1 : Hid (prOk s = false) := Lib.hid (by rw [P1.out]; unfold prAB; rw [hpa, hpb]; rfl)
      have E2 : Hid (prR s = ([], [])) := Lib.hid (prR_no E1.out)
      have r0 : ((w3.alloc (.cells #[.slice xb nb cb] 26)).alloc (.cells #[.slice xa na ca, .slice xb nb cb] 28)).cell? ⟨w.heap.size, 0, none⟩ = some (.slice none 0 0) := HR.out.cell 0
      have r1 : ((w3.alloc (.cells #[.slice xb nb cb] 26)).alloc (.cells #[.slice xa na ca, .slice xb nb cb] 28)).cell? ⟨w.heap.size, 1, none⟩ = some (.slice none 0 0) := HR.out.cell 1
      have z0 : ((w3.alloc (.cells #[.slice xb nb cb] 26)).alloc (.cells #[.slice xa na ca, .slice xb nb cb] 28)).frozen? ⟨w.heap.size, 0, none⟩ = false := HR.out.frozen 0
      have z1 : ((w3.alloc (.cells #[.slice xb nb cb] 26)).alloc (.cells #[.slice xa na ca, .slice xb nb cb] 28)).frozen? ⟨w.heap.size, 1, none⟩ = false := HR.out.frozen 1
      have ZN := Lib.hid ((HR.out.set 0 (.slice none 0 0)).set 1 (.slice none 0 0))
      have ZB := Lib.hid ((HB.out.setCell (p := ⟨w.heap.size, 0, none⟩) (Nat.le_refl _) (.slice none 0 0)).setCell (p := ⟨w.heap.size, 1, none⟩) (Nat.le_refl _) (.slice none 0 0))
      go_wp2_with fail
      refine bodyPost_ret (Ret.results_ct rfl _ _ w.heap.size [.slice none 0 0, .slice none 0 0] rfl aggRl ZN.out.cells) rfl ?_
      exact ⟨_, ret_vb E1.out.symm, by rw [E2.out]; exact kRl_nilIn _ _ _, ZB.out⟩
    | true =>
      obtain ⟨z, hz⟩ : ∃ z, validR (ppN a, ppN b) = z := ⟨_, rfl⟩
      have HZ := Lib.hid hz
      have E0 : Hid (prOk s = z) := Lib.hid (by rw [P1.out]; unfold prAB; rw [hpa, hpb, hz]; rfl)
      clear hz hpa hpb
      have x0 : ((w3.alloc (.cells #[.slice xb nb cb] 26)).alloc (.cells #[.slice xa na ca, .slice xb nb cb] 28)).cell? ⟨w3.heap.size + 1, 0, none⟩ = some (.slice xa na ca) := HX.out.cell 0
      have x1 : ((w3.alloc (.cells #[.slice xb nb cb] 26)).alloc (.cells #[.slice xa na ca, .slice xb nb cb] 28)).cell? ⟨w3.heap.size + 1, 1, none⟩ = some (.slice xb nb cb) := HX.out.cell 1
      go_wp2_with fail
      clear x0 x1
      refine (implValidRule _ (ppN a, ppN b) _ z HZ.out HKR.out HWT.out).mono ?_
      rintro e w4 ⟨rfl, hb⟩
      replace HR := Lib.hid (HR.out.on hb); replace HX := Lib.hid (HX.out.on hb)
      replace OA := Lib.hid (OA.out.on hb); replace OB := Lib.hid (OB.out.on hb); have hs4 := hb.size
      simp only [World.size_alloc] at hs4
      replace HB := Lib.hid (HB.out.trans (hb.mono HB.out.size)); clear hb
      cases z with
      | false =>
        have E1 : Hid (prOk s = false) := Lib.hid (E0.out)
        have E2 : Hid (prR s = ([], [])) := Lib.hid (prR_no E1.out)
        have r0 : w4.cell? ⟨w.heap.size, 0, none⟩ = some (.slice none 0 0) := HR.out.cell 0
        have r1 : w4.cell? ⟨w.heap.size, 1, none⟩ = some (.slice none 0 0) := HR.out.cell 1
        have z0 : w4.frozen? ⟨w.heap.size, 0, none⟩ = false := HR.out.frozen 0
        have z1 : w4.frozen? ⟨w.heap.size, 1, none⟩ = false := HR.out.frozen 1
        have ZN := Lib.hid ((HR.out.set 0 (.slice none 0 0)).set 1 (.slice none 0 0))
        have ZB := Lib.hid ((HB.out.setCell (p := ⟨w.heap.size, 0, none⟩) (Nat.le_refl _) (.slice none 0 0)).setCell (p := ⟨w.heap.size, 1, none⟩) (Nat.le_refl _) (.slice none 0 0))
        go_wp2_with fail
        refine bodyPost_ret (Ret.results_ct rfl _ _ w.heap.size [.slice none 0 0, .slice none 0 0] rfl aggRl ZN.out.cells) rfl ?_
        exact ⟨_, ret_vb E1.out.symm, by rw [E2.out]; exact kRl_nilIn _ _ _, ZB.out⟩
      | true =>
        have E2 : Hid (prR s = (ppN a, ppN b)) := Lib.hid (P2.out E0.out)
        have x0 : w4.cell? ⟨w3.heap.size + 1, 0, none⟩ = some (.slice xa na ca) := HX.out.cell 0
        have x1 : w4.cell? ⟨w3.heap.size + 1, 1, none⟩ = some (.slice xb nb cb) := HX.out.cell 1
        have r0 : w4.cell? ⟨w.heap.size, 0, none⟩ = some (.slice none 0 0) := HR.out.cell 0
        have r1 : w4.cell? ⟨w.heap.size, 1, none⟩ = some (.slice none 0 0) := HR.out.cell 1
        have z0 : w4.frozen? ⟨w.heap.size, 0, none⟩ = false := HR.out.frozen 0
        have z1 : w4.frozen? ⟨w.heap.size, 1, none⟩ = false := HR.out.frozen 1
        have ZN := Lib.hid ((HR.out.set 0 (.slice xa na ca)).set 1 (.slice xb nb cb))
        have ZB := Lib.hid ((HB.out.setCell (p := ⟨w.heap.size, 0, none⟩) (Nat.le_refl _) (.slice xa na ca)).setCell (p := ⟨w.heap.size, 1, none⟩) (Nat.le_refl _) (.slice xb nb cb))
        have ZK := Lib.hid (show kRl.In w.heap.size ((w4.setCell ⟨w.heap.size, 0, none⟩ (.slice xa na ca)).setCell ⟨w.heap.size, 1, none⟩ (.slice xb nb cb)).heap.size ((w4.setCell ⟨w.heap.size, 0, none⟩ (.slice xa na ca)).setCell ⟨w.heap.size, 1, none⟩ (.slice xb nb cb)) (.agg #[.slice xa na ca, .slice xb nb cb]) (ppN a, ppN b) from by
          have hval : kRl.val (m0, m1) = .agg #[.slice xa na ca, .slice xb nb cb] := by
            show Value.agg ((kN.cells m0 ++ (kN.cells m1))).toArray = _
            rw [D0.out, D1.out]
            rfl
          have hstr : kRl.strip (m0, m1) = (ppN a, ppN b) := Prod.ext S0.out S1.out
          rw [← hval, ← hstr]
          refine Kd.Own.in ?_
          exact Kd.Own.pair (C := w2.heap.size) ((Kd.Own.set (g := w.heap.size) (i := 1) (u := (.slice xb nb cb)) (Kd.Own.set (g := w.heap.size) (i := 0) (u := (.slice xa na ca)) OA.out (by omega)) (by omega)).mono (by omega) (Nat.le_refl _)) ((Kd.Own.set (g := w.heap.size) (i := 1) (u := (.slice xb nb cb)) (Kd.Own.set (g := w.heap.size) (i := 0) (u := (.slice xa na ca)) OB.out (by omega)) (by omega)).mono (by omega) (by simp only [World.size_setCell]; omega)) (by omega) (by simp only [World.size_setCell]; omega))
        go_wp2_with fail
        refine bodyPost_ret (Ret.results_ct rfl _ _ w.heap.size [.slice xa na ca, .slice xb nb cb] rfl aggRl ZN.out.cells) rfl ?_
        exact ⟨_, ret_vb E0.out.symm, by rw [E2.out]; exact ZK.out, ZB.out⟩
end Go.Proofs.YtkojeajjappchaaGreat.Row
/- Contracts of the reference model's draws: a cursor over the bytes of the argument; each draw gives a number, a bool or a text within its bounds and leaves all but the cursor as it was. -/
namespace Go.Proofs.YtkojeajjappchaaGreat.Draw
open Go.ChangeShapes Go.WideShapes Go.ChangeAt Go.RowKit Go.Instr
set_option linter.unusedVariables false
set_option maxRecDepth 100000

/-- Old blocks but p are as they were. -/
structure Keep (p : Nat) (w w' : World) : Prop where
  os : w'.os = w.os
  tape : w'.tape = w.tape
  output : w'.output = w.output
  size : w.heap.size ≤ w'.heap.size
  block : ∀ k, k < w.heap.size → k ≠ p → w'.heap[k]? = w.heap[k]?

theorem Keep.refl (p : Nat) (w : World) : Keep p w w := ⟨rfl, rfl, rfl, Nat.le_refl _, fun _ _ _ => rfl⟩
theorem Keep.trans {p : Nat} {a b c : World} (h : Keep p a b) (k : Keep p b c) : Keep p a c :=
  ⟨k.os.trans h.os, k.tape.trans h.tape, k.output.trans h.output, Nat.le_trans h.size k.size, fun i hi hp => (k.block i (Nat.lt_of_lt_of_le hi h.size) hp).trans (h.block i hi hp)⟩
theorem Keep.below {B p : Nat} {w0 w w' : World} (h : Keep p w w') (hb : Below B w0 w) (hB : B ≤ p) (hw : B ≤ w.heap.size) : Below B w0 w' :=
  hb.trans ⟨h.os, h.tape, h.output, h.size, fun k hk => h.block k (by omega) (by omega)⟩
theorem Keep.of_below {p : Nat} {w w' : World} (h : Below w.heap.size w w') : Keep p w w' := ⟨h.os, h.tape, h.output, h.size, fun k hk _ => h.block k hk⟩
theorem Keep.cell {p : Nat} {w w' : World} (h : Keep p w w') {a : Addr} {v : Value} (hc : w.cell? a = some v) (hp : a.block ≠ p) : w'.cell? a = some v := by
  rw [← hc]; exact World.cell?_of_block (w := w) (h.block a.block (Frame.cell_lt hc) hp)

/-- The cursor: block p holds the slice v, a place within it, and a number. -/
structure Cur (w0 : World) (p : Nat) (v : Value) (l : List UInt8) (w : World) : Prop where
  bytes : Frame.Bytes w0 v l
  below : Below w0.heap.size w0 w
  place : w0.heap.size ≤ p
  row : ∃ i h : Int, 0 ≤ i ∧ i ≤ l.length ∧ w.heap[p]? = some (.cells #[v, .int .i64 i, .int .i64 h] 78 (0, 0))

theorem Cur.bytesNow {w0 : World} {p : Nat} {v : Value} {l : List UInt8} {w : World} (h : Cur w0 p v l w) : Frame.Bytes w v l := h.bytes.on h.below

/-- What a draw gives: a value that meets Q, the cursor anew, all else as it was. -/
def Drawn (w0 : World) (p : Nat) (v : Value) (l : List UInt8) (w : World) (Q : Value → Prop) (e : Ending) (w' : World) : Prop :=
  ∃ x, e = .returned x ∧ Q x ∧ Cur w0 p v l w' ∧ Keep p w w'

def IntIn (a b : Int) (x : Value) : Prop := ∃ n : Int, x = .int .i64 n ∧ a ≤ n ∧ n ≤ b

theorem cur_cells {w : World} {p : Nat} {a b c : Value} {t : TypeId} (h : w.heap[p]? = some (.cells #[a, b, c] t (0, 0))) :
    w.cell? ⟨p, 0, none⟩ = some a ∧ w.cell? ⟨p, 1, none⟩ = some b ∧ w.cell? ⟨p, 2, none⟩ = some c ∧ (∀ o, w.frozen? ⟨p, o, none⟩ = false) := by
  refine ⟨?_, ?_, ?_, fun o => ?_⟩ <;> simp [World.cell?, World.frozen?, h]

theorem and255 (n : Int) : 0 ≤ bits .and .i64 n 255 ∧ bits .and .i64 n 255 ≤ 255 := by
  have h255 : (BitVec.ofInt 64 255).toNat = 2 ^ 8 - 1 := by decide
  have key : (BitVec.ofInt 64 n &&& BitVec.ofInt 64 255).toNat = (n % ((2 ^ 64 : Nat) : Int)).toNat % 2 ^ 8 := by
    rw [BitVec.toNat_and, BitVec.toNat_ofInt, h255, Nat.and_two_pow_sub_one_eq_mod]
  have e : bits .and .i64 n 255 = IntKind.i64.wrap ((BitVec.ofInt 64 n &&& BitVec.ofInt 64 255).toNat : Nat) := rfl
  rw [e, key, IntKind.wrap_i64]
  omega

theorem bytes_le {w : World} {v : Value} {l : List UInt8} (h : Frame.Bytes w v l) : l.length ≤ 140737488351232 := by
  rcases h with ⟨rfl, rfl⟩ | ⟨a, cap, rfl, h1, h2, _⟩
  · simp
  · omega

theorem bytes_at {w : World} {v : Value} {l : List UInt8} (h : Frame.Bytes w v l) :
    ∃ x cap, v = .slice x l.length cap ∧ (∀ j (hj : j < l.length), ∃ b off, x = some ⟨b, off, none⟩ ∧ w.cell? ⟨b, off + j, none⟩ = some (.int .u8 l[j].toNat)) := by
  rcases h with ⟨rfl, rfl⟩ | ⟨a, cap, rfl, _, _, hc⟩
  · exact ⟨none, 0, rfl, fun j hj => absurd hj (by simp)⟩
  · refine ⟨some a, cap, rfl, fun j hj => ?_⟩
    obtain ⟨b, off, spot⟩ := a
    have hs : spot = none := by simpa [Addr.add] using World.cell?_spot (hc 0 (by omega))
    subst hs
    exact ⟨b, off, rfl, by rw [← Go.WideShapes.add_plain]; exact hc j hj⟩

theorem cur_set {w0 : World} {p : Nat} {v : Value} {l : List UInt8} {w : World} (hc : Cur w0 p v l w) {i h i' h' : Int} (hr : w.heap[p]? = some (.cells #[v, .int .i64 i, .int .i64 h] 78 (0, 0)))
    {w' : World} (h0 : 0 ≤ i') (h1 : i' ≤ l.length) (hk : Keep p w w') (hr' : w'.heap[p]? = some (.cells #[v, .int .i64 i', .int .i64 h'] 78 (0, 0))) : Cur w0 p v l w' ∧ Keep p w w' :=
  ⟨⟨hc.bytes, hk.below hc.below hc.place hc.below.size, hc.place, i', h', h0, h1, hr'⟩, hk⟩

theorem keep_set (w : World) (p o : Nat) (x : Value) : Keep p w (w.setCell ⟨p, o, none⟩ x) :=
  ⟨rfl, rfl, rfl, by simp [World.setCell], fun k _ hk => Below.heap_setCell _ _ _ _ hk⟩
theorem keep_draw (p : Nat) (w : World) (n : Nat) : Keep p w (w.drewN n) := ⟨rfl, rfl, rfl, Nat.le_refl _, fun _ _ _ => rfl⟩

theorem row_set {w : World} {p : Nat} {a b c : Value} {t : TypeId} (h : w.heap[p]? = some (.cells #[a, b, c] t (0, 0))) (x : Value) :
    (w.setCell ⟨p, 1, none⟩ x).heap[p]? = some (.cells #[a, x, c] t (0, 0)) ∧ (w.setCell ⟨p, 2, none⟩ x).heap[p]? = some (.cells #[a, b, x] t (0, 0)) := by
  constructor <;> simp [World.setCell, Array.getElem?_modify, h]

theorem row_draw {w : World} {p : Nat} {o : Obj} (h : w.heap[p]? = some o) (n : Nat) : (w.drewN n).heap[p]? = some o := h

set_option maxHeartbeats 1000000 in
theorem byte_out (w0 : World) (p : Nat) (x : Option Addr) (cap n : Nat) (l : List UInt8) (hn : l.length = n) (w : World) (hc : Cur w0 p (.slice x n cap) l w) (i h : Int) (hi0 : 0 ≤ i) (hi1 : i ≤ l.length) (hlt : ¬ i < l.length)
    (hr : w.heap[p]? = some (.cells #[.slice x n cap, .int .i64 i, .int .i64 h] 78 (0, 0))) :
    Calls Tryz.prog 79 #[.pointer (some ⟨p, 0, none⟩)] w (Drawn w0 p (.slice x n cap) l w (IntIn 0 255)) := by
  obtain ⟨c0, c1, c2, cf⟩ := cur_cells hr
  have hcmp : decide (i < (n : Int)) = false := by simp; omega
  have HC := Lib.hid hc
  have HR := Lib.hid hr
  have HI := Lib.hid (And.intro hi0 hi1)
  clear hc hr hn hi0 hi1 hlt
  go_enter Tryz.func79, Tryz.ntmps79
  go_wp2_with fail
  go_quiet (fail)
  go_wp2_with fail
  go_quiet (fail)
  go_wp2_with fail
  go_ret
  refine ⟨_, rfl, ⟨_, rfl, (and255 _).1, (and255 _).2⟩, cur_set HC.out HR.out HI.out.1 HI.out.2 ?_ (row_set HR.out _).2⟩
  exact (keep_set _ _ _ _).trans ((keep_draw _ _ _).trans (keep_draw _ _ _))

set_option maxHeartbeats 1000000 in
theorem byte_in (w0 : World) (p b off cap n : Nat) (l : List UInt8) (hn : l.length = n) (w : World) (hc : Cur w0 p (.slice (some ⟨b, off, none⟩) n cap) l w) (k : Nat) (h : Int) (hlt : k < n) (hbig : (k : Int) ≤ 140737488351232) (c : UInt8)
    (hbp : b ≠ p) (hcell : w.cell? ⟨b, off + k, none⟩ = some (.int .u8 c.toNat)) (hr : w.heap[p]? = some (.cells #[.slice (some ⟨b, off, none⟩) n cap, .int .i64 k, .int .i64 h] 78 (0, 0))) :
    Calls Tryz.prog 79 #[.pointer (some ⟨p, 0, none⟩)] w (Drawn w0 p (.slice (some ⟨b, off, none⟩) n cap) l w (IntIn 0 255)) := by
  obtain ⟨c0, c1, c2, cf⟩ := cur_cells hr
  have hcmp : (k : Int) < (n : Int) := by omega
  have HC := Lib.hid hc
  have HR := Lib.hid hr
  have HN := Lib.hid (And.intro hn hlt)
  clear hc hr hn hlt
  go_enter Tryz.func79, Tryz.ntmps79
  go_wp2_with fail
  go_quiet (fail)
  go_wp2_with fail
  go_quiet (fail)
  go_wp2_with fail
  go_quiet (fail)
  go_wp2_with fail
  go_ret
  refine ⟨_, rfl, ⟨_, rfl, (and255 _).1, (and255 _).2⟩, cur_set (i' := (k : Int) + 1) HC.out HR.out (by omega) (by have := HN.out; omega) ?_ (row_set (row_draw (row_set HR.out _).2 _) _).1⟩
  exact (keep_set _ _ _ _).trans ((keep_draw _ _ _).trans (keep_set _ _ _ _))

theorem byte (w0 : World) (p : Nat) (v : Value) (l : List UInt8) (w : World) (hc : Cur w0 p v l w) :
    Calls Tryz.prog 79 #[.pointer (some ⟨p, 0, none⟩)] w (Drawn w0 p v l w (IntIn 0 255)) := by
  obtain ⟨i, h, hi0, hi1, hr⟩ := hc.row
  obtain ⟨x, cap, rfl, hat⟩ := bytes_at hc.bytesNow
  by_cases hlt : i < l.length
  · obtain ⟨k, rfl⟩ : ∃ k : Nat, i = k := ⟨i.toNat, by omega⟩
    have hk : k < l.length := by omega
    obtain ⟨b, off, rfl, hcell⟩ := hat k hk
    refine byte_in w0 p b off cap l.length l rfl w hc k h hk (by have := bytes_le hc.bytes; omega) l[k] ?_ hcell hr
    rintro rfl
    obtain ⟨x2, cap2, e, hat2⟩ := bytes_at hc.bytes
    obtain ⟨b2, off2, rfl, h2⟩ := hat2 k hk
    simp only [Value.slice.injEq, Option.some.injEq, Addr.mk.injEq] at e
    have := Frame.cell_lt h2
    have := hc.place
    simp only at *
    omega
  · exact byte_out w0 p x cap l.length l rfl w hc i h hi0 hi1 hlt hr

def BelowOf (n : Int) (x : Value) : Prop := ∃ r : Int, x = .int .i64 r ∧ (0 < n → 0 ≤ r ∧ r < n) ∧ (¬ 0 < n → r = 0)

set_option maxHeartbeats 1000000 in
theorem below (w0 : World) (p : Nat) (v : Value) (l : List UInt8) (w : World) (n : Int) (hc : Cur w0 p v l w) :
    Calls Tryz.prog 55 #[.pointer (some ⟨p, 0, none⟩), .int .i64 n] w (Drawn w0 p v l w (BelowOf n)) := by
  by_cases h0 : n ≤ 0
  · have HC := Lib.hid hc; clear hc
    go_enter Tryz.func55, Tryz.ntmps55
    go_wp2
    go_ret
    exact ⟨_, rfl, ⟨0, rfl, fun h => by omega, fun _ => rfl⟩, HC.out, Keep.refl _ _⟩
  · by_cases h1 : n ≤ 256
    · have hb := byte w0 p v l w hc
      have HB := Lib.hid hb; clear hb hc
      go_enter Tryz.func55, Tryz.ntmps55
      go_wp2_with fail
      refine HB.out.mono ?_
      rintro e w1 ⟨y, rfl, ⟨m, rfl, m0, m1⟩, hc1, hk1⟩
      have HC := Lib.hid (And.intro hc1 hk1); clear hc1 hk1
      go_wp2
      go_ret
      exact ⟨_, rfl, ⟨m % n, rfl, fun _ => ⟨Int.emod_nonneg _ (by omega), Int.emod_lt_of_pos _ (by omega)⟩, fun h => by omega⟩, HC.out.1, HC.out.2⟩
    · have hb := byte w0 p v l w hc
      have HB := Lib.hid hb; clear hb hc
      go_enter Tryz.func55, Tryz.ntmps55
      go_wp2_with fail
      refine HB.out.mono ?_
      rintro e w1 ⟨y, rfl, ⟨m, rfl, m0, m1⟩, hc1, hk1⟩
      have hb2 := byte w0 p v l w1 hc1
      have HB2 := Lib.hid hb2; have HK1 := Lib.hid hk1; clear hb2 hc1 hk1
      go_wp2_with fail
      refine HB2.out.mono ?_
      rintro e w2 ⟨y2, rfl, ⟨m2, rfl, m02, m12⟩, hc2, hk2⟩
      have hb3 := byte w0 p v l w2 hc2
      have HB3 := Lib.hid hb3; have HK2 := Lib.hid (HK1.out.trans hk2); clear hb3 hc2 hk2
      go_wp2_with fail
      refine HB3.out.mono ?_
      rintro e w3 ⟨y3, rfl, ⟨m3, rfl, m03, m13⟩, hc3, hk3⟩
      have HK3 := Lib.hid (HK2.out.trans hk3); have HC := Lib.hid hc3; clear hc3 hk3
      go_wp2
      go_ret
      exact ⟨_, rfl, ⟨_, rfl, fun _ => ⟨Int.emod_nonneg _ (by omega), Int.emod_lt_of_pos _ (by omega)⟩, fun h => by omega⟩, HC.out, HK3.out⟩

def IsBool (x : Value) : Prop := ∃ b : Bool, x = .bool b
theorem once (w0 : World) (p : Nat) (v : Value) (l : List UInt8) (w : World) (n : Int) (hc : Cur w0 p v l w) :
    Calls Tryz.prog 30 #[.pointer (some ⟨p, 0, none⟩), .int .i64 n] w (Drawn w0 p v l w IsBool) := by
  have hb := below w0 p v l w n hc
  have HB := Lib.hid hb; clear hb hc
  go_enter Tryz.func30, Tryz.ntmps30
  go_wp2_with fail
  refine HB.out.mono ?_
  rintro e w1 ⟨y, rfl, ⟨m, rfl, hm⟩, hc1, hk1⟩
  have HC := Lib.hid (And.intro hc1 hk1); clear hc1 hk1 hm
  go_wp2
  go_ret
  exact ⟨_, rfl, ⟨_, rfl⟩, HC.out.1, HC.out.2⟩

/-- One of a list's values, chosen by a draw. -/
theorem choose (w0 : World) (p : Nat) (v : Value) (l : List UInt8) (w : World) (q : Nat) (xs : List Value) (hx : 0 < xs.length) (hbig : xs.length < 1000) (hc : Cur w0 p v l w) (hq : q ≠ p)
    (hcells : ∀ j (h : j < xs.length), w.cell? ⟨q, j, none⟩ = some xs[j]) :
    ∀ e w1, Drawn w0 p v l w (BelowOf (xs.length : Int)) e w1 → ∃ j, ∃ h : j < xs.length, e = .returned (.int .i64 (j : Int)) ∧ w1.cell? ⟨q, j, none⟩ = some xs[j] ∧ Cur w0 p v l w1 ∧ Keep p w w1 := by
  rintro e w1 ⟨y, rfl, ⟨r, rfl, hr, _⟩, hc1, hk1⟩
  have hr := hr (by omega)
  obtain ⟨j, rfl⟩ : ∃ j : Nat, r = j := ⟨r.toNat, by omega⟩
  exact ⟨j, by omega, rfl, hk1.cell (hcells j (by omega)) hq, hc1, hk1⟩

set_option maxHeartbeats 1000000 in
theorem strOf (w0 : World) (p : Nat) (v : Value) (l : List UInt8) (w : World) (q : Nat) (xs : List Value) (n : Nat) (hn : xs.length = n) (hx : 0 < n) (hbig : n < 1000) (hc : Cur w0 p v l w) (hq : q ≠ p)
    (hcells : ∀ j (h : j < xs.length), w.cell? ⟨q, j, none⟩ = some xs[j]) :
    Calls Tryz.prog 31 #[.pointer (some ⟨p, 0, none⟩), .slice (some ⟨q, 0, none⟩) n n] w (Drawn w0 p v l w (fun x => x ∈ xs)) := by
  subst hn
  have hb := (below w0 p v l w xs.length hc).mono (choose w0 p v l w q xs hx hbig hc hq hcells)
  have HB := Lib.hid hb; clear hb hc hcells
  go_enter Tryz.func31, Tryz.ntmps31
  go_wp2_with fail
  refine HB.out.mono ?_
  rintro e w1 ⟨j, hj, rfl, hcell, hc1, hk1⟩
  have HC := Lib.hid (And.intro hc1 hk1); clear hc1 hk1
  have hji : (j : Int) < (xs.length : Int) := by omega
  go_wp2_with fail
  go_ret
  exact ⟨_, rfl, List.getElem_mem hj, HC.out.1, HC.out.2⟩

theorem new_cur {w : World} {x : Option Addr} {cap n : Nat} {l : List UInt8} (hb : Frame.Bytes w (.slice x n cap) l) (hn : n = l.length) (h : Int) :
    Cur w w.heap.size (.slice x n cap) l (w.alloc (.cells #[.slice x n cap, .int .i64 0, .int .i64 h] 78)) :=
  ⟨hb, Joins.below_alloc1 _ _, Nat.le_refl _, 0, h, by omega, by omega, (MapKept.heap_alloc w _).1⟩

set_option maxHeartbeats 1000000 in
theorem new (w : World) (v : Value) (l : List UInt8) (hb : Frame.Bytes w v l) :
    Calls Tryz.prog 26 #[v] w fun e w' => e = .returned (.pointer (some ⟨w.heap.size, 0, none⟩)) ∧ Cur w w.heap.size v l w' := by
  have hle := bytes_le hb
  obtain ⟨x, cap, rfl, hat⟩ := bytes_at hb
  have HB := Lib.hid hb
  have HAT := Lib.hid hat
  obtain ⟨n, hn⟩ : ∃ n, n = l.length := ⟨_, rfl⟩
  rw [← hn] at HB hle ⊢
  have HN := Lib.hid hn
  clear hb hat hn
  go_enter Tryz.func26, Tryz.ntmps26
  go_wp2_with fail
  go_loop [3, 4] (fun hv iv => ∃ (h : Int) (k : Nat), k ≤ n ∧ hv = .int .i64 h ∧ iv = .int .i64 k) (fun _ iv => n - (intOf iv).toNat)
  case atStart => exact ⟨_, 0, by omega, rfl, rfl⟩
  case round =>
    obtain ⟨h, k, hk, rfl, rfl⟩ := hrel
    by_cases hlt : k < n
    · have hlti : (k : Int) < (n : Int) := by omega
      obtain ⟨b, off, hx, hcell⟩ := HAT.out k (by have := HN.out; omega)
      subst hx
      by_cases h4 : (k : Int) < 4000
      · go_wp2_with fail
        go_round
        case rel => exact ⟨_, k + 1, by omega, rfl, by go_num⟩
        case measure => simp [intOf]; omega
      · have h4f : decide ((k : Int) < 4000) = false := by simpa using h4
        go_wp2_with fail
        go_ret
        exact ⟨rfl, new_cur HB.out HN.out _⟩
    · have hlti : decide ((k : Int) < (n : Int)) = false := by simp; omega
      go_wp2_with fail
      go_ret
      exact ⟨rfl, new_cur HB.out HN.out _⟩
end Go.Proofs.YtkojeajjappchaaGreat.Draw
/- Contracts of the reference model's draws of numbers, over the cursor of Draw: each gives a number that fits its kind, and leaves all but the cursor as it was. -/
namespace Go.Proofs.YtkojeajjappchaaGreat.Draw
open Go.ChangeShapes Go.WideShapes Go.ChangeAt Go.RowKit Go.Instr
set_option linter.unusedVariables false
set_option maxRecDepth 100000

theorem keep_alloc (p : Nat) (w : World) (o : Obj) : Keep p w (w.alloc o) := Keep.of_below (Joins.below_alloc1 w o)
theorem Cur.lt {w0 : World} {p : Nat} {v : Value} {l : List UInt8} {w : World} (hc : Cur w0 p v l w) : p < w.heap.size := by
  obtain ⟨i, h, _, _, hr⟩ := hc.row
  exact (Array.getElem?_eq_some_iff.1 hr).1
theorem Cur.alloc {w0 : World} {p : Nat} {v : Value} {l : List UInt8} {w : World} (hc : Cur w0 p v l w) (o : Obj) : Cur w0 p v l (w.alloc o) := by
  obtain ⟨i, h, h0, h1, hr⟩ := hc.row
  refine ⟨hc.bytes, hc.below.trans (below_le' ?_), hc.place, i, h, h0, h1, ?_⟩
  · exact (Joins.below_alloc1 w o).mono hc.below.size
  · rw [Below.heap_alloc w o p hc.lt]; exact hr
where below_le' {a b : World} {B : Nat} (h : Below B a b) : Below B a b := h

/-- The cursor and its world, whatever was laid beside it. -/
theorem Drawn.from {w0 : World} {p : Nat} {v : Value} {l : List UInt8} {w w1 : World} {Q : Value → Prop} {e : Ending} {w' : World} (h : Drawn w0 p v l w1 Q e w') (hk : Keep p w w1) : Drawn w0 p v l w Q e w' := by
  obtain ⟨x, h1, h2, h3, h4⟩ := h
  exact ⟨x, h1, h2, h3, hk.trans h4⟩
theorem Drawn.imp {w0 : World} {p : Nat} {v : Value} {l : List UInt8} {w : World} {Q R : Value → Prop} {e : Ending} {w' : World} (h : Drawn w0 p v l w Q e w') (hq : ∀ x, Q x → R x) : Drawn w0 p v l w R e w' := by
  obtain ⟨x, h1, h2, h3, h4⟩ := h
  exact ⟨x, h1, hq x h2, h3, h4⟩

def Is64 (x : Value) : Prop := ∃ n : Int, x = .int .i64 n ∧ (Lit.int .i64 n).wf = true

theorem strLit (w0 : World) (p : Nat) (v : Value) (l : List UInt8) (w : World) (hc : Cur w0 p v l w) (xs : List ByteArray) (C : Array Value) (hC : C = (xs.map Value.string).toArray) (n : Nat) (hn : xs.length = n) (h0 : 0 < n) (h1 : n < 1000)
    (Q : Value → Prop) (hQ : ∀ x ∈ xs, Q (.string x)) :
    Calls Tryz.prog 31 #[.pointer (some ⟨p, 0, none⟩), .slice (some ⟨w.heap.size, 0, none⟩) n n] (w.alloc (.cells C 9)) (Drawn w0 p v l w Q) := by
  subst hC
  have hlt := hc.lt
  refine (strOf w0 p v l _ w.heap.size (xs.map Value.string) n (by simpa using hn) h0 h1 (hc.alloc _) (by omega) (fun j hj => ?_)).mono fun e w' h => ?_
  · rw [World.cell?_alloc_mark]; simp at hj; simp [hj]
  · refine (h.from (keep_alloc p w _)).imp fun x hx => ?_
    obtain ⟨y, hy, rfl⟩ := List.mem_map.1 hx
    exact hQ y hy

theorem big_no (x : Option Addr) (n cap : Nat) (w : World) (h : decide ((1048576 : Int) < (n : Int)) = false) :
    Calls Tryz.prog 4 #[.slice x n cap] w fun e w' => e = .returned (.bool false) ∧ w = w' := by
  go_enter Tryz.func4, Tryz.ntmps4
  go_wp2
  go_ret
  exact ⟨rfl, rfl⟩
theorem big_yes (x : Option Addr) (n cap : Nat) (w : World) (h : decide ((1048576 : Int) < (n : Int)) = true) :
    Calls Tryz.prog 4 #[.slice x n cap] w fun e w' => e = .returned (.bool true) ∧ w = w' := by
  go_enter Tryz.func4, Tryz.ntmps4
  go_wp2
  go_ret
  exact ⟨rfl, rfl⟩

end Go.Proofs.YtkojeajjappchaaGreat.Draw
/- Draws over the cursor that make memory: what keeps the cursor; texts out of a list. -/
namespace Go.Proofs.YtkojeajjappchaaGreat.Draw
open Go.ChangeShapes Go.WideShapes Go.ChangeAt Go.RowKit Go.Instr
set_option linter.unusedVariables false
set_option maxRecDepth 100000

/-- What a draw of something in memory gives. -/
def DrawnW (w0 : World) (p : Nat) (v : Value) (l : List UInt8) (w : World) (Q : Value → World → Prop) (e : Ending) (w' : World) : Prop :=
  ∃ x, e = .returned x ∧ Q x w' ∧ Cur w0 p v l w' ∧ Keep p w w'

theorem Keep.grown {p : Nat} {w w1 w2 : World} {row : Option Nat} (h : Keep p w w1) (hg : w1.grownBy w2 row) (hr : ∀ g, row = some g → w.heap.size ≤ g) : Keep p w w2 :=
  ⟨hg.os.trans h.os, hg.tape.trans h.tape, hg.output.trans h.output, Nat.le_trans h.size hg.size, fun k hk hp => (hg.block k (Nat.lt_of_lt_of_le hk h.size) (fun e => by have := hr k e.symm; omega)).trans (h.block k hk hp)⟩
theorem Cur.grown {w0 : World} {p : Nat} {v : Value} {l : List UInt8} {w w' : World} {row : Option Nat} (hc : Cur w0 p v l w) (hg : w.grownBy w' row) (hr : ∀ g, row = some g → w0.heap.size ≤ g ∧ g ≠ p) : Cur w0 p v l w' := by
  obtain ⟨i, h, h0, h1, hrow⟩ := hc.row
  refine ⟨hc.bytes, hc.below.grown hg hc.below.size (fun g hk => (hr g hk).1), hc.place, i, h, h0, h1, ?_⟩
  rw [hg.block p (Array.getElem?_eq_some_iff.1 hrow).1 (fun e => (hr p e.symm).2 rfl)]
  exact hrow
theorem Cur.on {w0 : World} {p : Nat} {v : Value} {l : List UInt8} {w w' : World} (hc : Cur w0 p v l w) (hb : Below w.heap.size w w') : Cur w0 p v l w' :=
  hc.grown (row := none) ⟨hb.os, hb.tape, hb.output, hb.size, fun i hi _ => hb.block i hi⟩ (fun g h => by cases h)
/-- A text of at most so many bytes. -/
def StrUpto (k : Nat) (x : Value) : Prop := ∃ t : ByteArray, x = .string t ∧ t.size ≤ k
theorem strLit2 (w0 : World) (p : Nat) (v : Value) (l : List UInt8) (w : World) (hc : Cur w0 p v l w) (xs : List ByteArray) (C : Array Value) (hC : C = (xs.map Value.string).toArray) (n : Nat) (hn : xs.length = n) (h0 : 0 < n) (h1 : n < 1000) (k : Nat) (hk : (xs.all fun t => decide (t.size ≤ k)) = true) :
    Calls Tryz.prog 31 #[.pointer (some ⟨p, 0, none⟩), .slice (some ⟨w.heap.size, 0, none⟩) n n] (w.alloc (.cells C 9)) (Drawn w0 p v l w (StrUpto k)) :=
  strLit w0 p v l w hc xs C hC n hn h0 h1 (StrUpto k) (fun x hx => ⟨x, rfl, by have := List.all_eq_true.1 hk x hx; simpa using this⟩)


/-- A text out of a list that lies in block q, in whatever world. -/
theorem strAt (w0 : World) (p : Nat) (v : Value) (l : List UInt8) (W : World) (hc : Cur w0 p v l W) (q : Nat) (hq : q ≠ p) (xs : List ByteArray) (n : Nat) (hn : xs.length = n) (h0 : 0 < n) (h1 : n < 1000) (k : Nat) (hk : (xs.all fun t => decide (t.size ≤ k)) = true)
    (hcells : ∀ j (h : j < xs.length), W.cell? ⟨q, j, none⟩ = some (.string xs[j])) :
    Calls Tryz.prog 31 #[.pointer (some ⟨p, 0, none⟩), .slice (some ⟨q, 0, none⟩) n n] W (Drawn w0 p v l W (StrUpto k)) := by
  refine (strOf w0 p v l W q (xs.map Value.string) n (by simpa using hn) h0 h1 hc hq (fun j hj => ?_)).mono fun e w' h => ?_
  · simp at hj; rw [hcells j hj]; simp
  · refine h.imp fun x hx => ?_
    obtain ⟨y, hy, rfl⟩ := List.mem_map.1 hx
    exact ⟨y, rfl, by have := List.all_eq_true.1 hk y hy; simpa using this⟩
theorem lits_at {w : World} {q : Nat} (hq : q = w.heap.size) {xs : List ByteArray} {t : TypeId} {C : Array Value} (hC : C = (xs.map Value.string).toArray) : ∀ j (h : j < xs.length), (w.alloc (.cells C t)).cell? ⟨q, j, none⟩ = some (.string xs[j]) := by
  intro j hj
  subst hC hq
  rw [World.cell?_alloc_mark]; simp [hj]
end Go.Proofs.YtkojeajjappchaaGreat.Draw
