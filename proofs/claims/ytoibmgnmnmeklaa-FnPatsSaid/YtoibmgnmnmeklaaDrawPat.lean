/- Contracts of the reference model's draws of patterns, of names that they may mean, and of bindings: what is drawn lies in memory of the call's own; all else but the cursor is as it was. -/
import Derived.Test.YtoibmgnmnmeklaaDrawAny
import Derived.Test.YtoibmgnmnmeklaaBind
import Derived.Test.YtoibmgnmnmeklaaPParse
namespace Go.Proofs.Ytoibmgnmnmeklaa.Draw
open Go.ChangeShapes Go.WideShapes Go.ChangeAt Go.RowKit Go.Instr
open Go.Proofs.Ytoibmgnmnmeklaa.Row (bulk bulk_append bulk_one bulk_nil bulk_cons elemSTR oneStr encBd OwnK HoldsK bulk2 kindBd szBd)
open Go.Proofs.Ytoibmgnmnmeklaa.Ret (NC)
set_option linter.unusedVariables false
set_option maxRecDepth 100000

abbrev OwnS (B : Nat) (w : World) (u : Value) (m : List ByteArray) : Prop := Row.Own 9 Value.string B w u m
theorem own_one {α : Type} [Inhabited α] (enc : α → Value) (e : TypeId) (w : World) (x : α) : Row.Own e enc w.heap.size (w.alloc (.cells #[enc x] e)) (.slice (some ⟨w.heap.size, 0, none⟩) 1 1) [x] := World.ownsRow_lit w #[enc x] 1 (Nat.le_refl _) (by unfold maxLen; omega) rfl
/-- Behind an append whose slice is stored back into the variable g. -/
theorem storeP {w0 : World} {p : Nat} {v : Value} {l : List UInt8} {w w3 w4 : World} {g B : Nat} {s s4 u : Value} {m m4 : List ByteArray} {t : TypeId} (h0 : w0.heap.size ≤ w.heap.size) (hwB : w.heap.size ≤ B) (hgw : w.heap.size ≤ g) (hgp : g ≠ p) (hpB : p < B) (hne : 9 ≠ t)
    (ho3 : OwnS B w3 s m) (hc : Cur w0 p v l w3) (hk : Keep p w w3) (hg : w3.grownBy w4 s.ownBlock) (ho : OwnS B w4 s4 m4) (hx : Ret.Box w4 g u t) :
    OwnS B (w4.setCell ⟨g, 0, none⟩ s4) s4 m4 ∧ Cur w0 p v l (w4.setCell ⟨g, 0, none⟩ s4) ∧ Keep p w (w4.setCell ⟨g, 0, none⟩ s4) ∧ Ret.Box (w4.setCell ⟨g, 0, none⟩ s4) g s4 t ∧
    (∀ g0 u0, NC w3 g0 u0 → g0 < B → g0 ≠ g → NC (w4.setCell ⟨g, 0, none⟩ s4) g0 u0) ∧ (∀ g0 u0 t0, Ret.Box w3 g0 u0 t0 → g0 < B → g0 ≠ g → Ret.Box (w4.setCell ⟨g, 0, none⟩ s4) g0 u0 t0) ∧
    (∀ B' v' l', OwnS B' w3 v' l' → (∀ q, v'.ownBlock = some q → q < B ∧ q ≠ g) → OwnS B' (w4.setCell ⟨g, 0, none⟩ s4) v' l') := by
  have hlt := fun q hq => (ho3.lt q hq).1
  have hgs : w4.grownBy (w4.setCell ⟨g, 0, none⟩ s4) (some g) := Ret.grownBy_set w4 ⟨g, 0, none⟩ s4
  refine ⟨ho.grown hgs (Or.inr fun e => Row.Own.notBox ho hx hne e.symm), (hc.grown hg (fun q hq => ⟨by have := hlt q hq; omega, by have := hlt q hq; omega⟩)).set (by omega) hgp _, (hk.grown hg (fun q hq => by have := hlt q hq; omega)).set hgw _, hx.set s4, fun g0 u0 h hb hn => ?_, fun g0 u0 t0 h hb hn => ?_, fun B' v' l' h hq => ?_⟩
  · exact (h.grown hg (fun e => by have := hlt _ e.symm; omega)).other (a := ⟨g, 0, none⟩) (fun e => hn e.symm) _
  · exact (h.grown hg (fun e => by have := hlt _ e.symm; omega)).grown hgs (fun e => hn (Option.some.inj e))
  · refine (h.grown hg ?_).grown hgs ?_
    · cases hv : v'.ownBlock with
      | none => exact Or.inl rfl
      | some q => exact Or.inr fun e => by have := hlt q e.symm; have := (hq q hv).1; omega
    · cases hv : v'.ownBlock with
      | none => exact Or.inl rfl
      | some q => exact Or.inr fun e => (hq q hv).2 (Option.some.inj e)
/-- The last store of a draw that gives a pattern or a name. -/
theorem endP {w0 : World} {p : Nat} {v : Value} {l : List UInt8} {w W : World} {s : Value} {m : List ByteArray} (hc0 : Cur w0 p v l w) (hwp : w.heap.size ≠ p)
    (ho : OwnS (w.heap.size + 1) W s m) (hc : Cur w0 p v l W) (hk : Keep p w W) (hr : NC W w.heap.size (.slice none 0 0)) :
    (W.setCell ⟨w.heap.size, 0, none⟩ s).cell? ⟨w.heap.size, 0, none⟩ = some s ∧ OwnS w.heap.size (W.setCell ⟨w.heap.size, 0, none⟩ s) s m ∧ Cur w0 p v l (W.setCell ⟨w.heap.size, 0, none⟩ s) ∧ Keep p w (W.setCell ⟨w.heap.size, 0, none⟩ s) :=
  ⟨Ret.set_same hr.1, (ho.grown (Ret.grownBy_set W ⟨w.heap.size, 0, none⟩ s) (Row.nb ho (b := w.heap.size) (by omega))).mono (by omega), hc.set hc0.below.size hwp _, hk.set (Nat.le_refl _) _⟩
theorem z1 : ({ data := #[42] } : ByteArray).size = 1 := rfl
theorem z2 : ({ data := #[42, 42] } : ByteArray).size = 2 := rfl
theorem z97 : ({ data := #[97] } : ByteArray).size = 1 := rfl

set_option maxHeartbeats 4000000 in
theorem l5Pat (w0 : World) (p : Nat) (v : Value) (l : List UInt8) (w : World) (hc : Cur w0 p v l w) :
    Calls Try.prog 83 #[.pointer (some ⟨p, 0, none⟩)] w (DrawnW w0 p v l w (NameIn w.heap.size 100)) := by
  have hpl := hc.lt
  have hwp : w.heap.size ≠ p := by omega
  have hca := (hc.alloc (.cells #[.slice none 0 0] 26)).alloc (.cells #[.slice none 0 0] 26)
  have HK0 := Lib.hid ((keep_alloc p w (.cells #[.slice none 0 0] 26)).trans (keep_alloc p _ (.cells #[.slice none 0 0] 26)))
  have HR0 := Lib.hid ((NC.new' (w := w) (.slice none 0 0) 26 rfl).alloc (.cells #[.slice none 0 0] 26))
  have HX0 := Lib.hid (Ret.Box.new' (w := w.alloc (.cells #[.slice none 0 0] 26)) (.slice none 0 0) 26 (n := w.heap.size + 1) (by simp))
  have HC0 := Lib.hid hc
  have HB := Lib.hid (below w0 p v l _ 4 hca)
  have HSZ := Lib.hid HC0.out.below.size
  have HWB := Lib.hid (show w.heap.size ≤ w.heap.size + 1 + 1 by omega)
  have HGW := Lib.hid (show w.heap.size ≤ w.heap.size + 1 by omega)
  have HGP := Lib.hid (show w.heap.size + 1 ≠ p by omega)
  have HPB := Lib.hid (show p < w.heap.size + 1 + 1 by omega)
  have HRP := Lib.hid (show w.heap.size ≠ p by omega)
  have HRB := Lib.hid (show w.heap.size < w.heap.size + 1 + 1 by omega)
  have HRG := Lib.hid (show w.heap.size ≠ w.heap.size + 1 by omega)
  clear hc hca
  go_enter Try.func83, Try.ntmps83
  go_wp2_with fail
  refine HB.out.mono ?_
  rintro e w1 ⟨y, rfl, ⟨r, rfl, hr, _⟩, hc1, hk1⟩
  have hr := hr (by omega)
  obtain ⟨r, rfl⟩ := Int.eq_ofNat_of_zero_le hr.1
  have hr4 : r < 4 := by omega
  have HC1 := Lib.hid hc1
  have HK1 := Lib.hid (HK0.out.trans hk1)
  have HR1 := Lib.hid (NC.keep HR0.out hk1 HRP.out)
  have HX1 := Lib.hid (box_keep HX0.out hk1 HGP.out)
  clear hc1 hk1 hr HB
  go_wp2_with fail
  go_loopw [4] (fun iv wr => ∃ (k j : Nat) (x : Option Addr) (n c : Nat) (m : List ByteArray), k + j ≤ 3 ∧ iv = .int .i64 k ∧ bulk m ≤ 21 * j ∧ Hid (NC wr w.heap.size (.slice none 0 0)) ∧ Hid (Ret.Box wr (w.heap.size + 1) (.slice x n c) 26) ∧ Hid (OwnS (w.heap.size + 1 + 1) wr (.slice x n c) m) ∧ Hid (Cur w0 p v l wr) ∧ Hid (Keep p w wr) ∧ Hid (w.heap.size + 1 + 1 ≤ wr.heap.size)) (fun iv _ => (intOf iv).toNat)
  case atStart => exact ⟨r, 0, none, 0, 0, [], by omega, rfl, by rw [bulk_nil]; omega, HR1, HX1, Lib.hid (Row.Own.nil _ _ _ _), HC1, HK1, Lib.hid HX1.out.lt⟩
  case round =>
    obtain ⟨k, j, x, n, c, m, hkj, rfl, hm, HR, HX, HO, HC, HK, HW⟩ := hrel
    have HBB := HW
    have hx1 := HX.out.cell
    by_cases hk0 : 0 < k
    · have hx2 := HX.out.frozen
      have HLM := Lib.hid (show (m.length + 1) * 16 ≤ 140737488355328 by have := Row.bulk_len m; omega)
      have HLX := Lib.hid (show m.length + 1 ≤ maxLen by have := Row.bulk_len m; unfold maxLen; omega)
      have hal : Below wr.heap.size wr (wr.alloc (.cells #[.string { data := #[97] }, .string { data := #[98] }, .string { data := #[110, 101, 119, 115] }, .string { data := #[42] }, .string { data := #[63, 120] }, .string { data := #[63, 121] }, .string { data := #[63, 120] }, .string { data := #[107, 101, 121] }] 9)).drew := ((Below.refl _ _).alloc (Nat.le_refl _) _).drew
      have HCA := Lib.hid (HC.out.on hal); have HKA := Lib.hid (HK.out.trans (Keep.of_below (p := p) hal)); have HXA := Lib.hid (HX.out.on hal); have HOA := Lib.hid (HO.out.on hal)
      have HRA := Lib.hid (HR.out.on hal)
      have hxA : (wr.alloc (.cells #[.string { data := #[97] }, .string { data := #[98] }, .string { data := #[110, 101, 119, 115] }, .string { data := #[42] }, .string { data := #[63, 120] }, .string { data := #[63, 121] }, .string { data := #[63, 120] }, .string { data := #[107, 101, 121] }] 9)).cell? ⟨w.heap.size + 1, 0, none⟩ = some (.slice x n c) := HXA.out.cell
      have hpr := HC.out.lt
      clear hal
      go_wp2_with fail
      go_region_law (first | (refine step_app (enc := Value.string) (B := w.heap.size + 1 + 1) (l := m) (m := [t3]) rfl _ _ (by rfl) Try.underlying24 elemSTR rfl (by rfl) (by rfl) HO3A.out (Row.holds_one Value.string 9 w3 t3) oneStr HLM.out HLX.out hB3 ?_; intro v4 w4 ho4 hg4; obtain ⟨x4, n4, c4, rfl, hn4, hcc4, ho4⟩ := ho4.shapeN; have HO4 := Lib.hid ho4; have HG4 := Lib.hid hg4; have HN4 := Lib.hid hn4; have HX4 := Lib.hid (HX3A.out.grown hg4 (Row.Own.notBox HO3A.out HX3A.out (by decide))); have hx4 := HX4.out.cell; have hx5 := HX4.out.frozen; clear ho4 hg4 hn4) | (go_simp; go_at_call 60; refine (strAt w0 p v l (wr.alloc (.cells #[.string { data := #[97] }, .string { data := #[98] }, .string { data := #[110, 101, 119, 115] }, .string { data := #[42] }, .string { data := #[63, 120] }, .string { data := #[63, 121] }, .string { data := #[63, 120] }, .string { data := #[107, 101, 121] }] 9)).drew HCA.out wr.heap.size (by omega) [{ data := #[97] }, { data := #[98] }, { data := #[110, 101, 119, 115] }, { data := #[42] }, { data := #[63, 120] }, { data := #[63, 121] }, { data := #[63, 120] }, { data := #[107, 101, 121] }] 8 rfl (by decide) (by decide) 20 (by decide) (fun j h => lits_at rfl rfl j h)).mono ?_; rintro e w3 ⟨y3, rfl, ⟨t3, rfl, ht3⟩, hc3, hk3⟩; have HC3 := Lib.hid hc3; have HK3 := Lib.hid (HKA.out.trans hk3); have HX3 := Lib.hid (box_keep HXA.out hk3 HGP.out); have HO3 := Lib.hid (rown_keep HOA.out hk3 HPB.out); have HR3 := Lib.hid (NC.keep HRA.out hk3 HRP.out); have HO3A := Lib.hid (HO3.out.on ((Below.refl _ _).alloc (Nat.le_refl _) (.cells #[.string t3] 9))); have HX3A := Lib.hid (HX3.out.on ((Below.refl _ _).alloc (Nat.le_refl _) (.cells #[.string t3] 9))); have hxc3 := HX3.out.cell; have hxa3 := HX3A.out.cell; have hB3 : w.heap.size + 1 + 1 ≤ (w3.alloc (.cells #[.string t3] 9)).heap.size := (by have := HX3.out.lt; simp; omega); clear hc3 hk3))
      all_goals
        have HZ5 := Lib.hid (storeP HSZ.out HWB.out HGW.out HGP.out HPB.out (by decide) HO3A.out (HC3.out.on ((Below.refl _ _).alloc (Nat.le_refl _) _)) (HK3.out.trans (keep_alloc p w3 _)) HG4.out HO4.out HX4.out)
        have HO5 := Lib.hid HZ5.out.1; have HC5 := Lib.hid HZ5.out.2.1; have HK5 := Lib.hid HZ5.out.2.2.1; have HX5 := Lib.hid HZ5.out.2.2.2.1
        have HR5 := Lib.hid (HZ5.out.2.2.2.2.1 _ _ (HR3.out.on ((Below.refl _ _).alloc (Nat.le_refl _) _)) HRB.out HRG.out)
        have hz5 : bulk (m ++ [t3]) ≤ 21 * (j + 1) := by rw [bulk_append, bulk_one]; omega
        have HW5 := Lib.hid HX5.out.lt
        clear hx1 hx2 hxA hxc3 hxa3 hx4 hx5 HZ5
        go_wp2_with fail
        go_roundw
        case rel => exact ⟨k - 1, j + 1, _, _, _, _, by omega, by first | go_num | (congr 1; omega), hz5, HR5, HX5, HO5, HC5, HK5, HW5⟩
        case measure => simp only [intOf]; omega
    · obtain rfl : k = 0 := by omega
      have HD := Lib.hid (once w0 p v l wr 4 HC.out)
      go_wp2_with fail
      refine HD.out.mono ?_
      rintro e w2 ⟨y, rfl, ⟨b, rfl⟩, hc2, hk2⟩
      replace HC := Lib.hid hc2
      replace HR := Lib.hid (NC.keep HR.out hk2 HRP.out); replace HX := Lib.hid (box_keep HX.out hk2 HGP.out); replace HO := Lib.hid (rown_keep HO.out hk2 HPB.out); replace HK := Lib.hid (HK.out.trans hk2)
      have HBB := Lib.hid HX.out.lt
      clear hc2 hk2 HD hx1
      cases b
      · -- none
        obtain ⟨hk8, hf8⟩ := HR.out
        have hx8 := HX.out.cell
        have HZ := Lib.hid (endP HC0.out hwp (HO.out.mono (by omega)) HC.out HK.out HR.out)
        go_wp2_with fail
        refine bodyPost_ret (Ret.results_c rfl _ _ w.heap.size [_] rfl Row.aggPt (Ret.one HZ.out.1)) rfl ?_
        exact ⟨_, rfl, ⟨_, _, rfl, HZ.out.2.1, by omega⟩, HZ.out.2.2.1, HZ.out.2.2.2⟩
      · -- the rest
        have HLM := Lib.hid (show (m.length + 1) * 16 ≤ 140737488355328 by have := Row.bulk_len m; omega)
        have HLX := Lib.hid (show m.length + 1 ≤ maxLen by have := Row.bulk_len m; unfold maxLen; omega)
        have hal : Below w2.heap.size w2 (w2.alloc (.cells #[.string ({ data := #[42, 42] })] 9)) := (Below.refl _ _).alloc (Nat.le_refl _) _
        have HO3A := Lib.hid (HO.out.on hal); have HX3A := Lib.hid (HX.out.on hal); have HC3 := HC; have HK3 := HK
        have HR3 := HR
        have hB3 : w.heap.size + 1 + 1 ≤ (w2.alloc (.cells #[.string ({ data := #[42, 42] })] 9)).heap.size := by have := HBB.out; have := HK.out.size; simp; omega
        clear hal
        have hxc := HX.out.cell
        go_wp2_with (at_builtin; refine Row.wpList_app (enc := Value.string) (B := w.heap.size + 1 + 1) (l := m) (m := [{ data := #[42, 42] }]) rfl _ _ rfl Try.underlying24 elemSTR rfl rfl rfl HO3A.out (Row.holds_one Value.string 9 w2 _) oneStr HLM.out HLX.out hB3 ?_)
        intro v4 w4 ho4 hg4
        obtain ⟨x4, n4, c4, rfl, hn4, hcc4, ho4⟩ := ho4.shapeN
        have HO4 := Lib.hid ho4; have HG4 := Lib.hid hg4; have HN4 := Lib.hid hn4
        have HX4 := Lib.hid (HX3A.out.grown hg4 (Row.Own.notBox HO3A.out HX3A.out (by decide)))
        have hx4 := HX4.out.cell
        have hx5 := HX4.out.frozen
        clear ho4 hg4 hn4 hxc
        have HZ5 := Lib.hid (storeP HSZ.out HWB.out HGW.out HGP.out HPB.out (by decide) HO3A.out (HC3.out.on ((Below.refl _ _).alloc (Nat.le_refl _) _)) (HK3.out.trans (keep_alloc p w2 _)) HG4.out HO4.out HX4.out)
        have HO5 := Lib.hid HZ5.out.1; have HC5 := Lib.hid HZ5.out.2.1; have HK5 := Lib.hid HZ5.out.2.2.1; have HX5 := Lib.hid HZ5.out.2.2.2.1
        have HR5 := Lib.hid (HZ5.out.2.2.2.2.1 _ _ (HR3.out.on ((Below.refl _ _).alloc (Nat.le_refl _) _)) HRB.out HRG.out)
        have hz5 : bulk (m ++ [{ data := #[42, 42] }]) ≤ 100 := by rw [bulk_append, bulk_one, z2]; omega
        clear HZ5
        clear HR HX HO HC HK
        obtain ⟨hk8, hf8⟩ := HR5.out
        have hx8 := HX5.out.cell
        have HZ := Lib.hid (endP HC0.out hwp (HO5.out.mono (by omega)) HC5.out HK5.out HR5.out)
        go_wp2_with fail
        refine bodyPost_ret (Ret.results_c rfl _ _ w.heap.size [_] rfl Row.aggPt (Ret.one HZ.out.1)) rfl ?_
        exact ⟨_, rfl, ⟨_, _, rfl, HZ.out.2.1, hz5⟩, HZ.out.2.2.1, HZ.out.2.2.2⟩

set_option maxHeartbeats 4000000 in
theorem l5Any (w0 : World) (p : Nat) (v : Value) (l : List UInt8) (w : World) (hc : Cur w0 p v l w) :
    Calls Try.prog 61 #[.pointer (some ⟨p, 0, none⟩)] w (DrawnW w0 p v l w (NameIn w.heap.size 1000)) := by
  have hpl := hc.lt
  have HB := Lib.hid (l5Pat w0 p v l _ (hc.alloc (.cells #[.slice none 0 0] 26)))
  have HK0 := Lib.hid (keep_alloc p w (.cells #[.slice none 0 0] 26))
  have HR0 := Lib.hid (NC.new' (w := w) (.slice none 0 0) 26 rfl)
  have HC0 := Lib.hid hc
  have hwp : w.heap.size ≠ p := by omega
  clear hc
  go_enter Try.func61, Try.ntmps61
  go_wp2_with fail
  refine HB.out.mono ?_
  rintro e w1 ⟨y, rfl, ⟨u, m, rfl, ho, hm⟩, hc1, hk1⟩
  obtain ⟨x, n, c, rfl, hn, hcap, ho⟩ := ho.shapeN
  have hz1 := hk1.size
  simp only [World.size_alloc] at hz1 ho
  have hal : Below w1.heap.size w1 (w1.alloc (.cells #[.slice x n c] 26)) := (Below.refl _ _).alloc (Nat.le_refl _) _
  have HC1 := Lib.hid (hc1.on hal)
  have HK1 := Lib.hid ((HK0.out.trans hk1).trans (Keep.of_below (p := p) hal))
  have HR1 := Lib.hid ((NC.keep HR0.out hk1 hwp).on hal)
  have HX1 := Lib.hid (Ret.Box.new' (w := w1) (.slice x n c) 26 rfl)
  have HO1 := Lib.hid (ho.on hal)
  have HB2 := Lib.hid (below w0 p v l _ 10 HC1.out)
  obtain ⟨g, hg⟩ : ∃ g, g = w1.heap.size := ⟨_, rfl⟩
  have hgp : g ≠ p := by have := hc1.lt; omega
  have hgw : w.heap.size < g := by omega
  have HSZ := Lib.hid HC0.out.below.size
  have HWB := Lib.hid (show w.heap.size ≤ w.heap.size + 1 by omega)
  have HGW := Lib.hid (show w.heap.size ≤ g by omega)
  have HGP := Lib.hid (show g ≠ p by omega)
  have HPB := Lib.hid (show p < w.heap.size + 1 by omega)
  have HRP := Lib.hid (show w.heap.size ≠ p by omega)
  have HRB := Lib.hid (show w.heap.size < w.heap.size + 1 by omega)
  have HRG := Lib.hid (show w.heap.size ≠ g by omega)
  have HN := Lib.hid hn
  clear hc1 hk1 ho hal HB hn
  go_wp2_with fail
  rw [← hg] at HX1 ⊢
  refine HB2.out.mono ?_
  rintro e w2 ⟨y, rfl, ⟨r, rfl, hr, _⟩, hc2, hk2⟩
  have hr := hr (by omega)
  obtain ⟨r, rfl⟩ := Int.eq_ofNat_of_zero_le hr.1
  have HC := Lib.hid hc2
  have HK := Lib.hid (HK1.out.trans hk2)
  have HR := Lib.hid (NC.keep HR1.out hk2 hwp)
  have HX := Lib.hid (box_keep HX1.out hk2 hgp)
  have HO := Lib.hid (rown_keep HO1.out hk2 HPB.out)
  have HBB := Lib.hid (show w.heap.size + 1 ≤ w2.heap.size by have := HX.out.lt; omega)
  clear hc2 hk2 HB2 HC1 HK1 HR1 HX1 HO1 hg
  by_cases h0 : r = 0
  · subst h0
    have hx2 := HX.out.cell
    have hx3 := HX.out.frozen
    have HLM := Lib.hid (show (m.length + 1) * 16 ≤ 140737488355328 by have := Row.bulk_len m; omega)
    have HLX := Lib.hid (show m.length + 1 ≤ maxLen by have := Row.bulk_len m; unfold maxLen; omega)
    have hal : Below w2.heap.size w2 (w2.alloc (.cells #[.string { data := #[] }, .string { data := #[63] }, .string { data := #[63, 120, 120] }, .string { data := #[63, 65] }, .string { data := #[65] }, .string { data := #[42, 42, 42] }] 9)).drew := ((Below.refl _ _).alloc (Nat.le_refl _) _).drew
    have HCA := Lib.hid (HC.out.on hal); have HKA := Lib.hid (HK.out.trans (Keep.of_below (p := p) hal)); have HXA := Lib.hid (HX.out.on hal); have HOA := Lib.hid (HO.out.on hal)
    have HRA := Lib.hid (HR.out.on hal)
    have hxA : (w2.alloc (.cells #[.string { data := #[] }, .string { data := #[63] }, .string { data := #[63, 120, 120] }, .string { data := #[63, 65] }, .string { data := #[65] }, .string { data := #[42, 42, 42] }] 9)).cell? ⟨g, 0, none⟩ = some (.slice x n c) := HXA.out.cell
    have hpr := HC.out.lt
    clear hal
    go_wp2_with fail
    go_region_law (first | (refine step_app (enc := Value.string) (B := w.heap.size + 1) (l := m) (m := [t3]) rfl _ _ (by rfl) Try.underlying24 elemSTR rfl (by rfl) (by rfl) HO3A.out (Row.holds_one Value.string 9 w3 t3) oneStr HLM.out HLX.out hB3 ?_; intro v4 w4 ho4 hg4; obtain ⟨x4, n4, c4, rfl, hn4, hcc4, ho4⟩ := ho4.shapeN; have HO4 := Lib.hid ho4; have HG4 := Lib.hid hg4; have HN4 := Lib.hid hn4; have HX4 := Lib.hid (HX3A.out.grown hg4 (Row.Own.notBox HO3A.out HX3A.out (by decide))); have hx4 := HX4.out.cell; have hx5 := HX4.out.frozen; clear ho4 hg4 hn4) | (go_simp; go_at_call 60; refine (strAt w0 p v l (w2.alloc (.cells #[.string { data := #[] }, .string { data := #[63] }, .string { data := #[63, 120, 120] }, .string { data := #[63, 65] }, .string { data := #[65] }, .string { data := #[42, 42, 42] }] 9)).drew HCA.out w2.heap.size (by omega) [{ data := #[] }, { data := #[63] }, { data := #[63, 120, 120] }, { data := #[63, 65] }, { data := #[65] }, { data := #[42, 42, 42] }] 6 rfl (by decide) (by decide) 20 (by decide) (fun j h => lits_at rfl rfl j h)).mono ?_; rintro e w3 ⟨y3, rfl, ⟨t3, rfl, ht3⟩, hc3, hk3⟩; have HC3 := Lib.hid hc3; have HK3 := Lib.hid (HKA.out.trans hk3); have HX3 := Lib.hid (box_keep HXA.out hk3 HGP.out); have HO3 := Lib.hid (rown_keep HOA.out hk3 HPB.out); have HR3 := Lib.hid (NC.keep HRA.out hk3 HRP.out); have HO3A := Lib.hid (HO3.out.on ((Below.refl _ _).alloc (Nat.le_refl _) (.cells #[.string t3] 9))); have HX3A := Lib.hid (HX3.out.on ((Below.refl _ _).alloc (Nat.le_refl _) (.cells #[.string t3] 9))); have hxc3 := HX3.out.cell; have hxa3 := HX3A.out.cell; have hB3 : w.heap.size + 1 ≤ (w3.alloc (.cells #[.string t3] 9)).heap.size := (by have := HBB.out; have := HK3.out.size; simp; omega); clear hc3 hk3))
    all_goals
      have HZ5 := Lib.hid (storeP HSZ.out HWB.out HGW.out HGP.out HPB.out (by decide) HO3A.out (HC3.out.on ((Below.refl _ _).alloc (Nat.le_refl _) _)) (HK3.out.trans (keep_alloc p w3 _)) HG4.out HO4.out HX4.out)
      have HO5 := Lib.hid HZ5.out.1; have HC5 := Lib.hid HZ5.out.2.1; have HK5 := Lib.hid HZ5.out.2.2.1; have HX5 := Lib.hid HZ5.out.2.2.2.1
      have HR5 := Lib.hid (HZ5.out.2.2.2.2.1 _ _ (HR3.out.on ((Below.refl _ _).alloc (Nat.le_refl _) _)) HRB.out HRG.out)
      have hz5 : bulk (m ++ [t3]) ≤ 1000 := by rw [bulk_append, bulk_one]; omega
      clear hx2 hx3 hxA hxc3 hxa3 hx4 hx5 HZ5
      obtain ⟨hk8, hf8⟩ := HR5.out
      have hx8 := HX5.out.cell
      have HZ := Lib.hid (endP HC0.out hwp (HO5.out.mono (by omega)) HC5.out HK5.out HR5.out)
      go_wp2_with fail
      refine bodyPost_ret (Ret.results_c rfl _ _ w.heap.size [_] rfl Row.aggPt (Ret.one HZ.out.1)) rfl ?_
      exact ⟨_, rfl, ⟨_, _, rfl, HZ.out.2.1, hz5⟩, HZ.out.2.2.1, HZ.out.2.2.2⟩
  · have h0b : ((r : Int) == 0) = false := by simpa using h0
    by_cases h1 : r = 1
    · subst h1
      have HOL := Lib.hid ((own_one Value.string 9 w2 { data := #[42, 42] }).mono HBB.out)
      have HXL := Lib.hid (HX.out.on ((Below.refl _ _).alloc (Nat.le_refl _) (.cells #[.string { data := #[42, 42] }] 9)))
      have hxc := HXL.out.cell
      have HSL := Lib.hid (HO.out.holds.on ((Below.refl _ _).alloc (Nat.le_refl _) (.cells #[.string { data := #[42, 42] }] 9)))
      have HLM := Lib.hid (show (1 + m.length) * 16 ≤ 140737488355328 by have := Row.bulk_len m; omega)
      have HLX := Lib.hid (show 1 + m.length ≤ maxLen by have := Row.bulk_len m; unfold maxLen; omega)
      have hB3 : w.heap.size + 1 ≤ (w2.alloc (.cells #[.string { data := #[42, 42] }] 9)).heap.size := by have := HBB.out; simp; omega
      go_wp2_with (at_builtin; refine Row.wpList_app (enc := Value.string) (B := w.heap.size + 1) (l := [{ data := #[42, 42] }]) (m := m) rfl _ _ rfl Try.underlying24 elemSTR rfl rfl rfl HOL.out HSL.out oneStr HLM.out HLX.out hB3 ?_)
      intro v4 w4 ho4 hg4
      obtain ⟨x4, n4, c4, rfl, hn4, hcc4, ho4⟩ := ho4.shapeN
      have HO4 := Lib.hid ho4; have HG4 := Lib.hid hg4
      have HX4 := Lib.hid (HXL.out.grown hg4 (Row.Own.notBox HOL.out HXL.out (by decide)))
      have hx4 := HX4.out.cell
      have hx5 := HX4.out.frozen
      clear ho4 hg4 hn4 hxc
      have HO3A := HOL; have HC3 := HC; have HK3 := HK; have HR3 := HR
      have HZ5 := Lib.hid (storeP HSZ.out HWB.out HGW.out HGP.out HPB.out (by decide) HO3A.out (HC3.out.on ((Below.refl _ _).alloc (Nat.le_refl _) _)) (HK3.out.trans (keep_alloc p w2 _)) HG4.out HO4.out HX4.out)
      have HO5 := Lib.hid HZ5.out.1; have HC5 := Lib.hid HZ5.out.2.1; have HK5 := Lib.hid HZ5.out.2.2.1; have HX5 := Lib.hid HZ5.out.2.2.2.1
      have HR5 := Lib.hid (HZ5.out.2.2.2.2.1 _ _ (HR3.out.on ((Below.refl _ _).alloc (Nat.le_refl _) _)) HRB.out HRG.out)
      have hz5 : bulk ([{ data := #[42, 42] }] ++ m) ≤ 1000 := by rw [bulk_append, bulk_one, z2]; omega
      clear HZ5
      obtain ⟨hk8, hf8⟩ := HR5.out
      have hx8 := HX5.out.cell
      have HZ := Lib.hid (endP HC0.out hwp (HO5.out.mono (by omega)) HC5.out HK5.out HR5.out)
      go_wp2_with fail
      refine bodyPost_ret (Ret.results_c rfl _ _ w.heap.size [_] rfl Row.aggPt (Ret.one HZ.out.1)) rfl ?_
      exact ⟨_, rfl, ⟨_, _, rfl, HZ.out.2.1, hz5⟩, HZ.out.2.2.1, HZ.out.2.2.2⟩
    · have h1b : ((r : Int) == 1) = false := beq_eq_false_iff_ne.2 (by omega)
      by_cases h2 : r = 2
      · subst h2
        have hbn : bulk m ≤ 100 + 2 * n := by omega
        have hnm2 : n ≤ 107 := by have := HN.out; have := Row.bulk_len m; omega
        have HI := Lib.hid HX.out.cell
        clear hm h1 h0 HBB
        go_wp2_with fail
        go_loopw [] (fun wr => ∃ (x : Option Addr) (n c : Nat) (m : List ByteArray), n ≤ 107 ∧ bulk m ≤ 100 + 2 * n ∧ lenAt wr g = n ∧ Hid (n = m.length) ∧ Hid (NC wr w.heap.size (.slice none 0 0)) ∧ Hid (Ret.Box wr g (.slice x n c) 26) ∧ Hid (OwnS (w.heap.size + 1) wr (.slice x n c) m) ∧ Hid (Cur w0 p v l wr) ∧ Hid (Keep p w wr)) (fun wr => 200 - lenAt wr g)
        case atStart => exact ⟨x, n, c, m, hnm2, hbn, lenAt_of HI.out, HN, HR, HX, HO, HC, HK⟩
        case round =>
          obtain ⟨x, n, c, m, hn7, hbn, hla, HN, HR, HX, HO, HC, HK⟩ := hrel
          have HLA := Lib.hid hla
          have hx := HX.out.cell
          have hdr : Below wr.heap.size wr wr.drew := (Below.refl _ _).drew
          have HCD := Lib.hid (HC.out.on hdr)
          have HKD := Lib.hid (HK.out.trans (Keep.of_below (p := p) hdr))
          have HRD := Lib.hid (HR.out.on hdr)
          have HXD := Lib.hid (HX.out.on hdr)
          have HOD := Lib.hid (HO.out.on hdr)
          clear hla hdr
          go_wp2_with fail
          go_region_held3 (fun w' => w'.cell? ⟨g, 0, none⟩ = some (.slice x n c)) (first | exact HXD.out.cell | exact hxc3) ((go_at_call 78; refine (below w0 p v l wr.drew 3 HCD.out).mono ?_; rintro e w3 ⟨y, rfl, ⟨q, rfl, hq, hq2⟩, hc3, hk3⟩; have hxc3 := (box_keep HXD.out hk3 hgp).cell))
          have hq := hq (by omega)
          replace HC := Lib.hid hc3
          replace HK := Lib.hid (HKD.out.trans hk3)
          replace HR := Lib.hid (NC.keep HRD.out hk3 hwp)
          replace HX := Lib.hid (box_keep HXD.out hk3 hgp)
          replace HO := Lib.hid (rown_keep HOD.out hk3 HPB.out)
          have HBB := Lib.hid (show w.heap.size + 1 ≤ w3.heap.size by have := HX.out.lt; omega)
          have hwq : IntKind.i64.wrap (5 + q) = 5 + q := by rw [IntKind.wrap_i64]; omega
          obtain ⟨q0, q1⟩ := hq
          clear hc3 hk3 hq2 hx
          rw [hwq]
          clear hwq
          by_cases hlt : (n : Int) < 5 + q
          · clear hxc3
            have HLM := Lib.hid (show (m.length + 1) * 16 ≤ 140737488355328 by have := Row.bulk_len m; omega)
            have HLX := Lib.hid (show m.length + 1 ≤ maxLen by have := Row.bulk_len m; unfold maxLen; omega)
            have hal : Below w3.heap.size w3 (w3.alloc (.cells #[.string ({ data := #[42] })] 9)) := (Below.refl _ _).alloc (Nat.le_refl _) _
            have HO3A := Lib.hid (HO.out.on hal); have HX3A := Lib.hid (HX.out.on hal); have HC3 := HC; have HK3 := HK
            have HR3 := HR
            have hB3 : w.heap.size + 1 ≤ (w3.alloc (.cells #[.string ({ data := #[42] })] 9)).heap.size := by have := HBB.out; have := HK.out.size; simp; omega
            clear hal
            have hxc := HX.out.cell
            go_wp2_with (at_builtin; refine Row.wpList_app (enc := Value.string) (B := w.heap.size + 1) (l := m) (m := [{ data := #[42] }]) rfl _ _ rfl Try.underlying24 elemSTR rfl rfl rfl HO3A.out (Row.holds_one Value.string 9 w3 _) oneStr HLM.out HLX.out hB3 ?_)
            intro v4 w4 ho4 hg4
            obtain ⟨x4, n4, c4, rfl, hn4, hcc4, ho4⟩ := ho4.shapeN
            have HO4 := Lib.hid ho4; have HG4 := Lib.hid hg4; have HN4 := Lib.hid hn4
            have HX4 := Lib.hid (HX3A.out.grown hg4 (Row.Own.notBox HO3A.out HX3A.out (by decide)))
            have hx4 := HX4.out.cell
            have hx5 := HX4.out.frozen
            clear ho4 hg4 hn4 hxc
            have HZ5 := Lib.hid (storeP HSZ.out HWB.out HGW.out HGP.out HPB.out (by decide) HO3A.out (HC3.out.on ((Below.refl _ _).alloc (Nat.le_refl _) _)) (HK3.out.trans (keep_alloc p w3 _)) HG4.out HO4.out HX4.out)
            have HO5 := Lib.hid HZ5.out.1; have HC5 := Lib.hid HZ5.out.2.1; have HK5 := Lib.hid HZ5.out.2.2.1; have HX5 := Lib.hid HZ5.out.2.2.2.1
            have HR5 := Lib.hid (HZ5.out.2.2.2.2.1 _ _ (HR3.out.on ((Below.refl _ _).alloc (Nat.le_refl _) _)) HRB.out HRG.out)
            have HNE := Lib.hid (show n4 = n + 1 by rw [HN4.out, List.length_append, HN.out]; rfl)
            have hbk : bulk (m ++ [{ data := #[42] }]) ≤ 100 + 2 * (n + 1) := by
              rw [bulk_append, bulk_one, z1]; omega
            clear HZ5
            go_wp2_with fail
            go_roundw
            case rel => exact ⟨x4, n4, c4, _, by rw [HNE.out]; omega, by rw [HNE.out]; exact hbk, lenAt_of HX5.out.cell, HN4, HR5, HX5, HO5, HC5, HK5⟩
            case measure => rw [lenAt_of HX5.out.cell, HLA.out, HNE.out]; omega
          · clear hxc3
            obtain ⟨hk8, hf8⟩ := HR.out
            have hx8 := HX.out.cell
            have HZ := Lib.hid (endP HC0.out hwp (HO.out.mono (by omega)) HC.out HK.out HR.out)
            go_wp2_with fail
            refine bodyPost_ret (Ret.results_c rfl _ _ w.heap.size [_] rfl Row.aggPt (Ret.one HZ.out.1)) rfl ?_
            exact ⟨_, rfl, ⟨_, _, rfl, HZ.out.2.1, by omega⟩, HZ.out.2.2.1, HZ.out.2.2.2⟩
      · have h2b : ((r : Int) == 2) = false := beq_eq_false_iff_ne.2 (by omega)
        clear h0 h1 h2
        obtain ⟨hk8, hf8⟩ := HR.out
        have hx8 := HX.out.cell
        have HZ := Lib.hid (endP HC0.out hwp (HO.out.mono (by omega)) HC.out HK.out HR.out)
        go_wp2_with fail
        refine bodyPost_ret (Ret.results_c rfl _ _ w.heap.size [_] rfl Row.aggPt (Ret.one HZ.out.1)) rfl ?_
        exact ⟨_, rfl, ⟨_, _, rfl, HZ.out.2.1, by omega⟩, HZ.out.2.2.1, HZ.out.2.2.2⟩

/-- Bindings of the call's own, so many and so great at most. -/
def BindsIn (B K : Nat) (x : Value) (w : World) : Prop := ∃ m, OwnK 80 encBd 2 B w x m ∧ bulk2 m ≤ K
theorem kown_keep {α : Type} {enc : α → List Value} {sz : Nat} {e : TypeId} {B p : Nat} {w w' : World} {x : Value} {m : List α} (h : OwnK e enc sz B w x m) (hk : Keep p w w') (hp : p < B) : OwnK e enc sz B w' x m := by
  refine ⟨h.1, ?_⟩
  rcases h.2 with h2 | ⟨g, cap, cur, hv, hg, hh, r⟩
  · exact Or.inl h2
  · exact Or.inr ⟨g, cap, cur, hv, hg, by rw [hk.block g (Array.getElem?_eq_some_iff.1 hh).1 (by omega)]; exact hh, r⟩
theorem bulk2_append (l m : List (ByteArray × ByteArray)) : bulk2 (l ++ m) = bulk2 l + bulk2 m := by
  unfold bulk2 Row.bulk2To
  rw [List.take_length, List.take_length, List.take_length, List.map_append, List.sum_append, List.length_append]; omega
theorem bulk2_one (a b : ByteArray) : bulk2 [(a, b)] = 1 + (a.size + b.size) := by simp [bulk2, Row.bulk2To]
theorem bulk2_nil : bulk2 [] = 0 := by simp [bulk2, Row.bulk2To]

set_option maxHeartbeats 4000000 in
theorem l5Binds (w0 : World) (p : Nat) (v : Value) (l : List UInt8) (w : World) (hc : Cur w0 p v l w) :
    Calls Try.prog 51 #[.pointer (some ⟨p, 0, none⟩)] w (DrawnW w0 p v l w (BindsIn w.heap.size 1000)) := by
  have hpl := hc.lt
  have HC0 := Lib.hid hc
  have HK0 := Lib.hid (keep_alloc p w (.cells #[] 80))
  have HO0 := Lib.hid (Row.ownK_empty encBd 2 80 w)
  have HB := Lib.hid (below w0 p v l _ 3 (hc.alloc (.cells #[] 80)))
  clear hc
  go_enter Try.func51, Try.ntmps51
  go_wp2_with fail
  refine HB.out.mono ?_
  rintro e w1 ⟨y, rfl, ⟨r, rfl, hr, _⟩, hc1, hk1⟩
  have hr := hr (by omega)
  obtain ⟨r, rfl⟩ := Int.eq_ofNat_of_zero_le hr.1
  have hr4 : r < 3 := by omega
  have HC1 := Lib.hid hc1
  have HK1 := Lib.hid (HK0.out.trans hk1)
  have HO1 := Lib.hid (kown_keep HO0.out hk1 hpl)
  clear hc1 hk1 hr HB
  go_wp2_with fail
  go_loopw [3, 4] (fun ov iv wr => ∃ (k j : Nat) (m : List (ByteArray × ByteArray)), k + j ≤ 2 ∧ iv = .int .i64 k ∧ bulk2 m ≤ 41 * j ∧ Hid (OwnK 80 encBd 2 w.heap.size wr ov m) ∧ Hid (Cur w0 p v l wr) ∧ Hid (Keep p w wr)) (fun _ iv _ => (intOf iv).toNat)
  case atStart => exact ⟨r, 0, [], by omega, rfl, by rw [bulk2_nil]; omega, HO1, HC1, HK1⟩
  case round =>
    obtain ⟨k, j, m, hkj, rfl, hm, HO, HC, HK⟩ := hrel
    by_cases hk0 : 0 < k
    · have HL := Lib.hid (Row.bulk2_len m)
      have HD1 := Lib.hid (strLit2 w0 p v l wr HC.out [{ data := #[63, 120] }, { data := #[63, 121] }, { data := #[63, 122] }] _ rfl 3 rfl (by decide) (by decide) 20 (by decide))
      go_wp2_with fail
      refine HD1.out.mono ?_
      rintro e w2 ⟨y, rfl, ⟨t2, rfl, ht2⟩, hc2, hk2⟩
      have HC2 := Lib.hid hc2
      have HK2 := Lib.hid (HK.out.trans hk2)
      have HO2 := Lib.hid (kown_keep HO.out hk2 hpl)
      have HD2 := Lib.hid (strLit2 w0 p v l w2 hc2 [{ data := #[97] }, { data := #[98] }, { data := #[49] }] _ rfl 3 rfl (by decide) (by decide) 20 (by decide))
      clear hc2 hk2 HD1
      go_wp2_with fail
      refine HD2.out.mono ?_
      rintro e w3 ⟨y, rfl, ⟨t3, rfl, ht3⟩, hc3, hk3⟩
      have HC3 := Lib.hid hc3
      have HK3 := Lib.hid (HK2.out.trans hk3)
      have HO3 := Lib.hid ((kown_keep HO2.out hk3 hpl).on ((Below.refl _ _).alloc (Nat.le_refl _) (.cells #[.string t2, .string t3] 80)))
      clear hc3 hk3 HD2
      go_wp2_with (at_builtin; refine Row.wpList_appK kindBd (B := w.heap.size) (l := m) (m := [(t2, t3)]) rfl _ _ rfl Try.underlying28 rfl rfl HO3.out (Row.holdsK_one szBd 80 w3 (t2, t3)) (by have := HL.out; simp; omega) (by have := HL.out; unfold maxLen; simp; omega) (by have := HK3.out.size; simp; omega) ?_)
      intro v4 w4 ho4 hg4
      have HO4 := Lib.hid ho4
      have HC4 := Lib.hid ((HC3.out.alloc (.cells #[.string t2, .string t3] 80)).grown hg4 (fun q hq => ⟨by have := (HO3.out.lt q hq).1; have := HC0.out.below.size; omega, by have := (HO3.out.lt q hq).1; omega⟩))
      have HK4 := Lib.hid ((HK3.out.trans (keep_alloc p w3 (.cells #[.string t2, .string t3] 80))).grown hg4 (fun q hq => (HO3.out.lt q hq).1))
      have hz4 : bulk2 (m ++ [(t2, t3)]) ≤ 41 * (j + 1) := by rw [bulk2_append, bulk2_one]; omega
      clear ho4 hg4
      go_wp2_with fail
      go_roundw
      case rel => exact ⟨k - 1, j + 1, _, by omega, by first | go_num | (congr 1; omega), hz4, HO4, HC4, HK4⟩
      case measure => simp only [intOf]; omega
    · obtain rfl : k = 0 := by omega
      go_wp2_with fail
      go_ret
      exact ⟨_, rfl, ⟨m, HO.out, by omega⟩, HC.out, HK.out⟩

end Go.Proofs.Ytoibmgnmnmeklaa.Draw
