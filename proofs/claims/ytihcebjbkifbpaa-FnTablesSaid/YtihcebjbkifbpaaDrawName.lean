/- Contracts of the reference model's draws of names: what is drawn lies in memory of the call's own; all else but the cursor is as it was. -/
import Derived.Test.YtihcebjbkifbpaaDrawW
import Derived.Test.YtihcebjbkifbpaaParseN
namespace Go.Proofs.Ytihcebjbkifbpaa.Draw
open Go.ChangeShapes Go.WideShapes Go.ChangeAt Go.RowKit Go.Instr
open Go.Proofs.Ytihcebjbkifbpaa.Row (bulk bulk_append bulk_one bulk_nil elemSTR oneStr)
open Go.Proofs.Ytihcebjbkifbpaa.Ret (NC)
set_option linter.unusedVariables false
set_option maxRecDepth 100000

theorem NC.keep {w w' : World} {g p : Nat} {u : Value} (h : NC w g u) (hk : Keep p w w') (hne : g ≠ p) : NC w' g u :=
  ⟨hk.cell h.1 hne, (World.frozen?_of_block (hk.block g h.lt hne)).trans h.2⟩
theorem rown_keep {α : Type} [Inhabited α] {enc : α → Value} {e : TypeId} {B p : Nat} {w w' : World} {x : Value} {m : List α} (h : Row.Own e enc B w x m) (hk : Keep p w w') (hp : p < B) : Row.Own e enc B w' x m := by
  refine ⟨h.1, ?_⟩
  rcases h.2 with h2 | ⟨g, cap, cur, hv, hg, hh, r⟩
  · exact Or.inl h2
  · exact Or.inr ⟨g, cap, cur, hv, hg, by rw [hk.block g (Array.getElem?_eq_some_iff.1 hh).1 (by omega)]; exact hh, r⟩
theorem NC.set_same {w : World} {g : Nat} {u : Value} (h : NC w g u) (v : Value) : NC (w.setCell ⟨g, 0, none⟩ v) g v := ⟨Ret.set_same h.1, by rw [World.frozen?_setCell]; exact h.2⟩
theorem Cur.set {w0 : World} {p : Nat} {v : Value} {l : List UInt8} {w : World} (hc : Cur w0 p v l w) {g : Nat} (hg : w0.heap.size ≤ g) (hp : g ≠ p) (u : Value) : Cur w0 p v l (w.setCell ⟨g, 0, none⟩ u) :=
  hc.grown (Ret.grownBy_set w ⟨g, 0, none⟩ u) (fun q hq => by
    have : g = q := by simpa using hq
    subst this; exact ⟨hg, hp⟩)
theorem Keep.set {p : Nat} {w w1 : World} (hk : Keep p w w1) {g : Nat} (hg : w.heap.size ≤ g) (u : Value) : Keep p w (w1.setCell ⟨g, 0, none⟩ u) :=
  hk.grown (Ret.grownBy_set w1 ⟨g, 0, none⟩ u) (fun q hq => by
    have : g = q := by simpa using hq
    subst this; exact hg)
/-- A name of the call's own, so great at most. -/
def NameIn (B K : Nat) (x : Value) (w : World) : Prop := ∃ u m, x = .agg #[u] ∧ Row.Own 9 Value.string B w u m ∧ bulk m ≤ K
theorem bulk_appN (m : List ByteArray) (s : ByteArray) : bulk (Row.appN m s) ≤ bulk m + 1 + s.size := by
  unfold Row.appN; split
  · rw [bulk_append, bulk_one]; omega
  · omega

set_option maxRecDepth 100000 in
set_option maxHeartbeats 2000000 in
theorem l4Name (w0 : World) (p : Nat) (v : Value) (l : List UInt8) (w : World) (hc : Cur w0 p v l w) :
    Calls Try.prog 56 #[.pointer (some ⟨p, 0, none⟩)] w (DrawnW w0 p v l w (NameIn w.heap.size 100)) := by
  have hpl := hc.lt
  have hca := (hc.alloc (.cells #[.slice none 0 0] 27)).alloc (.cells #[.slice none 0 0] 27)
  have HK0 := Lib.hid ((keep_alloc p w (.cells #[.slice none 0 0] 27)).trans (keep_alloc p _ (.cells #[.slice none 0 0] 27)))
  have HR0 := Lib.hid ((NC.new' (w := w) (.slice none 0 0) 27 rfl).alloc (.cells #[.slice none 0 0] 27))
  have HX0 := Lib.hid (NC.new' (w := w.alloc (.cells #[.slice none 0 0] 27)) (.slice none 0 0) 27 (n := w.heap.size + 1) (by simp))
  have HC0 := Lib.hid hc
  have hb := below w0 p v l _ 4 hca
  have HB := Lib.hid hb
  clear hc hca hb
  go_enter Try.func56, Try.ntmps56
  go_wp2_with fail
  refine HB.out.mono ?_
  rintro e w1 ⟨y, rfl, ⟨r, rfl, hr, _⟩, hc1, hk1⟩
  have hr := hr (by omega)
  obtain ⟨r, rfl⟩ := Int.eq_ofNat_of_zero_le hr.1
  have hr4 : r < 4 := by omega
  have HC1 := Lib.hid hc1
  have HK1 := Lib.hid (HK0.out.trans hk1)
  have HR1 := Lib.hid (NC.keep HR0.out hk1 (by omega))
  have HX1 := Lib.hid (NC.keep HX0.out hk1 (by omega))
  clear hc1 hk1 hr HB
  go_wp2_with fail
  go_loopw [4] (fun iv wr => ∃ (k j : Nat) (u : Value) (m : List ByteArray), k + j ≤ 3 ∧ iv = .int .i64 k ∧ bulk m ≤ 20 * j ∧ Hid (NC wr w.heap.size (.slice none 0 0)) ∧ Hid (NC wr (w.heap.size + 1) u) ∧ Hid (Row.Own 9 Value.string (w.heap.size + 2) wr u m) ∧ Hid (Cur w0 p v l wr) ∧ Hid (Keep p w wr)) (fun iv _ => (intOf iv).toNat)
  case atStart => exact ⟨r, 0, _, [], by omega, rfl, by rw [bulk_nil]; omega, HR1, HX1, Lib.hid (Row.Own.nil _ _ _ _), HC1, HK1⟩
  case round =>
    obtain ⟨k, j, u, m, hkj, rfl, hm, hR, hX, hO, hC, hK⟩ := hrel
    obtain ⟨x, n, c, rfl, hn, hcap, ho⟩ := hO.out.shapeN
    clear hn
    have hx1 := hX.out.1
    have hx2 := hX.out.2
    by_cases hk0 : 0 < k
    · have hal : Below wr.heap.size wr (wr.alloc (.cells #[.string { data := #[97] }, .string { data := #[98] }, .string { data := #[110, 101, 119, 115] }, .string { data := #[120, 45, 49] }, .string { data := #[49] }, .string { data := #[107, 101, 121] }] 9)).drew := ((Below.refl _ _).alloc (Nat.le_refl _) _).drew
      have HCA := Lib.hid (hC.out.on hal)
      have HKA := Lib.hid (hK.out.trans (Keep.of_below (p := p) hal))
      have HRA := Lib.hid (hR.out.on hal)
      have HXA := Lib.hid (hX.out.on hal)
      have HOA := Lib.hid (ho.on hal)
      have hxA : (wr.alloc (.cells #[.string { data := #[97] }, .string { data := #[98] }, .string { data := #[110, 101, 119, 115] }, .string { data := #[120, 45, 49] }, .string { data := #[49] }, .string { data := #[107, 101, 121] }] 9)).cell? ⟨w.heap.size + 1, 0, none⟩ = some (.slice x n c) := HXA.out.1
      have hpr := hC.out.lt
      have hwp : w.heap.size ≠ p := by omega
      have hwp1 : w.heap.size + 1 ≠ p := by omega
      have hwp2 : p < w.heap.size + 2 := by omega
      have hbm : bulk m ≤ 10000000 := by omega
      clear ho hal
      go_wp2_with fail
      go_region_with (first | (go_at_call 83; refine (strAt w0 p v l (wr.alloc (.cells #[.string { data := #[97] }, .string { data := #[98] }, .string { data := #[110, 101, 119, 115] }, .string { data := #[120, 45, 49] }, .string { data := #[49] }, .string { data := #[107, 101, 121] }] 9)).drew HCA.out wr.heap.size (by omega) [{ data := #[97] }, { data := #[98] }, { data := #[110, 101, 119, 115] }, { data := #[120, 45, 49] }, { data := #[49] }, { data := #[107, 101, 121] }] 6 rfl (by decide) (by decide) 8 (by decide) (fun j h => lits_at rfl rfl j h)).mono ?_; rintro e w2 ⟨y2, rfl, ⟨t2, rfl, ht2⟩, hc2, hk2⟩; have ht2b : t2.size ≤ 10000000 := Nat.le_trans ht2 (by decide); have HC2 := Lib.hid hc2; have HK2 := Lib.hid (HKA.out.trans hk2); have HR2 := Lib.hid (NC.keep HRA.out hk2 hwp); have HX2 := Lib.hid (NC.keep HXA.out hk2 hwp1); have hxc2 := HX2.out.1; have HO2 := Lib.hid (rown_keep HOA.out hk2 hwp2); clear hc2 hk2) | (go_at_call 80; refine (Row.specAppendPart (.slice x n c) m t2 w2 HO2.out.holds hbm ht2b).mono ?_; rintro e w3 ⟨v3, rfl, ho3, hb3⟩; obtain ⟨x3, n3, c3, rfl, -, -, ho3⟩ := ho3.shapeN; have HC3 := Lib.hid (HC2.out.on hb3); have HK3 := Lib.hid (HK2.out.trans (Keep.of_below hb3)); have HR3 := Lib.hid (HR2.out.on hb3); have HX3 := Lib.hid (HX2.out.on hb3); have HO3 := Lib.hid ho3; have hx3 := HX3.out.1; have hx4 := HX3.out.2; clear ho3 hb3))
      all_goals
        have hlt2 := HX2.out.lt
        have hov := (HO3.out.mono (B' := w.heap.size + 2) (by omega)).grown (Ret.grownBy_set w3 ⟨w.heap.size + 1, 0, none⟩ (.slice x3 n3 c3)) (Row.nb (HO3.out.mono (B' := w.heap.size + 2) (by omega)) (b := w.heap.size + 1) (by omega))
        have HO4 := Lib.hid hov
        have HC4 := Lib.hid (HC3.out.set (g := w.heap.size + 1) (by have := HC0.out.below.size; omega) (by omega) (.slice x3 n3 c3))
        have HK4 := Lib.hid (HK3.out.set (g := w.heap.size + 1) (by omega) (.slice x3 n3 c3))
        have HR4 := Lib.hid (HR3.out.other (a := ⟨w.heap.size + 1, 0, none⟩) (by show w.heap.size + 1 ≠ w.heap.size; omega) (.slice x3 n3 c3))
        have HX4 := Lib.hid (NC.set_same HX3.out (.slice x3 n3 c3))
        have hbk := bulk_appN m t2
        clear hov hlt2
        go_wp2_with fail
        go_roundw
        case rel => exact ⟨k - 1, j + 1, _, _, by omega, by first | go_num | (congr 1; omega), by omega, HR4, HX4, HO4, HC4, HK4⟩
        case measure => simp only [intOf]; omega
    · obtain rfl : k = 0 := by omega
      obtain ⟨hk2, hf2⟩ := hR.out
      obtain ⟨q1, q2, q3⟩ : (wr.setCell ⟨w.heap.size, 0, none⟩ (.slice x n c)).cell? ⟨w.heap.size, 0, none⟩ = some (.slice x n c) ∧ Row.Own 9 Value.string w.heap.size (wr.setCell ⟨w.heap.size, 0, none⟩ (.slice x n c)) (.slice x n c) m ∧ (Cur w0 p v l (wr.setCell ⟨w.heap.size, 0, none⟩ (.slice x n c)) ∧ Keep p w (wr.setCell ⟨w.heap.size, 0, none⟩ (.slice x n c))) :=
        ⟨Ret.set_same hk2, (ho.grown (Ret.grownBy_set wr ⟨w.heap.size, 0, none⟩ (.slice x n c)) (Row.nb ho (b := w.heap.size) (by omega))).mono (by omega), hC.out.set HC0.out.below.size (by omega) _, hK.out.set (Nat.le_refl _) _⟩
      have HQ1 := Lib.hid q1; have HQ2 := Lib.hid q2; have HQ3 := Lib.hid q3
      clear q1 q2 q3 ho
      go_wp2
      refine bodyPost_ret (Ret.results_c rfl _ _ w.heap.size [_] rfl Row.aggN (Ret.one HQ1.out)) rfl ?_
      exact ⟨_, rfl, ⟨_, m, rfl, HQ2.out, by omega⟩, HQ3.out.1, HQ3.out.2⟩

end Go.Proofs.Ytihcebjbkifbpaa.Draw
