/- Contracts and mathematics, joined: DrawName, DrawAny, DrawPat, DrawH. No conditions but those that each states. -/
import Derived.Test.YtkojeajjappchaaGreatB11
import Derived.Test.YtkojeajjappchaaGreatB6
import Derived.Test.YtkojeajjappchaaGreatB1
import Derived.Deep.RegionLaw
import Derived.Test.YtkojeajjappchaaGreatB3
import Derived.Test.YtkojeajjappchaaGreatB2
/- Contracts of the reference model's draws of names: what is drawn lies in memory of the call's own; all else but the cursor is as it was. -/
namespace Go.Proofs.YtkojeajjappchaaGreat.Draw
open Go.ChangeShapes Go.WideShapes Go.ChangeAt Go.RowKit Go.Instr
open Go.Proofs.YtkojeajjappchaaGreat.Row (bulk bulk_append bulk_one bulk_nil elemSTR oneStr)
open Go.Proofs.YtkojeajjappchaaGreat.Ret (NC)
set_option linter.unusedVariables false
set_option maxRecDepth 100000

theorem NC.keep {w w' : World} {g p : Nat} {u : Value} (h : NC w g u) (hk : Keep p w w') (hne : g ≠ p) : NC w' g u :=
  ⟨hk.cell h.1 hne, (World.frozen?_of_block (hk.block g h.lt hne)).trans h.2⟩
theorem rown_keep {α : Type} [Inhabited α] {enc : α → Value} {e : TypeId} {B p : Nat} {w w' : World} {x : Value} {m : List α} (h : Row.Own e enc B w x m) (hk : Keep p w w') (hp : p < B) : Row.Own e enc B w' x m := by
  refine ⟨h.1, ?_⟩
  rcases h.2 with h2 | ⟨g, cap, cur, hv, hg, hh, r⟩
  · exact Or.inl h2
  · exact Or.inr ⟨g, cap, cur, hv, hg, by rw [hk.block g (Array.getElem?_eq_some_iff.1 hh).1 (by omega)]; exact hh, r⟩
theorem NC.set_same {w : World} {g : Nat} {u : Value} (h : NC w g u) (v : Value) : NC (w.setCell ⟨g, 0, none⟩ v) g v := ⟨Ret.set_same h.1, by rw [World.frozen?_setCell]; exact h.2⟩
theorem Cur.set {w0 : World} {p : Nat} {v : Value} {l : List UInt8} {w : World} (hc : Cur w0 p v l w) {g : Nat} (hg : w0.heap.size ≤ g) (hp : g ≠ p) (u : Value) : Cur w0 p v l (w.setCell ⟨g, 0, none⟩ u) :=
  hc.grown (Ret.grownBy_set w ⟨g, 0, none⟩ u) (fun q hq => by
    have : g = q := by simpa using hq
    subst this; exact ⟨hg, hp⟩)
theorem Keep.set {p : Nat} {w w1 : World} (hk : Keep p w w1) {g : Nat} (hg : w.heap.size ≤ g) (u : Value) : Keep p w (w1.setCell ⟨g, 0, none⟩ u) :=
  hk.grown (Ret.grownBy_set w1 ⟨g, 0, none⟩ u) (fun q hq => by
    have : g = q := by simpa using hq
    subst this; exact hg)
/-- A name of the call's own, so great at most. -/
def NameIn (B K : Nat) (x : Value) (w : World) : Prop := ∃ u m, x = .agg #[u] ∧ Row.Own 9 Value.string B w u m ∧ bulk m ≤ K
theorem bulk_appN (m : List ByteArray) (s : ByteArray) : bulk (Row.appN m s) ≤ bulk m + 1 + s.size := by
  unfold Row.appN; split
  · rw [bulk_append, bulk_one]; omega
  · omega

set_option maxRecDepth 100000 in
set_option maxHeartbeats 2000000 in
theorem l4Name (w0 : World) (p : Nat) (v : Value) (l : List UInt8) (w : World) (hc : Cur w0 p v l w) :
    Calls Tryz.prog 77 #[.pointer (some ⟨p, 0, none⟩)] w (DrawnW w0 p v l w (NameIn w.heap.size 100)) := by
  have hpl := hc.lt
  have hca := (hc.alloc (.cells #[.slice none 0 0] 29)).alloc (.cells #[.slice none 0 0] 29)
  have HK0 := Lib.hid ((keep_alloc p w (.cells #[.slice none 0 0] 29)).trans (keep_alloc p _ (.cells #[.slice none 0 0] 29)))
  have HR0 := Lib.hid ((NC.new' (w := w) (.slice none 0 0) 29 rfl).alloc (.cells #[.slice none 0 0] 29))
  have HX0 := Lib.hid (NC.new' (w := w.alloc (.cells #[.slice none 0 0] 29)) (.slice none 0 0) 29 (n := w.heap.size + 1) (by simp))
  have HC0 := Lib.hid hc
  have hb := below w0 p v l _ 4 hca
  have HB := Lib.hid hb
  clear hc hca hb
  go_enter Tryz.func77, Tryz.ntmps77
  go_wp2_with fail
  refine HB.out.mono ?_
  rintro e w1 ⟨y, rfl, ⟨r, rfl, hr, _⟩, hc1, hk1⟩
  have hr := hr (by omega)
  obtain ⟨r, rfl⟩ := Int.eq_ofNat_of_zero_le hr.1
  have hr4 : r < 4 := by omega
  have HC1 := Lib.hid hc1
  have HK1 := Lib.hid (HK0.out.trans hk1)
  have HR1 := Lib.hid (NC.keep HR0.out hk1 (by omega))
  have HX1 := Lib.hid (NC.keep HX0.out hk1 (by omega))
  clear hc1 hk1 hr HB
  go_wp2_with fail
  go_loopw [4] (fun iv wr => ∃ (k j : Nat) (u : Value) (m : List ByteArray), k + j ≤ 3 ∧ iv = .int .i64 k ∧ bulk m ≤ 20 * j ∧ Hid (NC wr w.heap.size (.slice none 0 0)) ∧ Hid (NC wr (w.heap.size + 1) u) ∧ Hid (Row.Own 9 Value.string (w.heap.size + 2) wr u m) ∧ Hid (Cur w0 p v l wr) ∧ Hid (Keep p w wr)) (fun iv _ => (intOf iv).toNat)
  case atStart => exact ⟨r, 0, _, [], by omega, rfl, by rw [bulk_nil]; omega, HR1, HX1, Lib.hid (Row.Own.nil _ _ _ _), HC1, HK1⟩
  case round =>
    obtain ⟨k, j, u, m, hkj, rfl, hm, hR, hX, hO, hC, hK⟩ := hrel
    obtain ⟨x, n, c, rfl, hn, hcap, ho⟩ := hO.out.shapeN
    clear hn
    have hx1 := hX.out.1
    have hx2 := hX.out.2
    by_cases hk0 : 0 < k
    · have hal : Below wr.heap.size wr (wr.alloc (.cells #[.string { data := #[97] }, .string { data := #[98] }, .string { data := #[110, 101, 119, 115] }, .string { data := #[120, 45, 49] }, .string { data := #[49] }, .string { data := #[107, 101, 121] }] 9)).drew := ((Below.refl _ _).alloc (Nat.le_refl _) _).drew
      have HCA := Lib.hid (hC.out.on hal)
      have HKA := Lib.hid (hK.out.trans (Keep.of_below (p := p) hal))
      have HRA := Lib.hid (hR.out.on hal)
      have HXA := Lib.hid (hX.out.on hal)
      have HOA := Lib.hid (ho.on hal)
      have hxA : (wr.alloc (.cells #[.string { data := #[97] }, .string { data := #[98] }, .string { data := #[110, 101, 119, 115] }, .string { data := #[120, 45, 49] }, .string { data := #[49] }, .string { data := #[107, 101, 121] }] 9)).cell? ⟨w.heap.size + 1, 0, none⟩ = some (.slice x n c) := HXA.out.1
      have hpr := hC.out.lt
      have hwp : w.heap.size ≠ p := by omega
      have hwp1 : w.heap.size + 1 ≠ p := by omega
      have hwp2 : p < w.heap.size + 2 := by omega
      have hbm : bulk m ≤ 10000000 := by omega
      clear ho hal
      go_wp2_with fail
      go_region_with (first | (go_at_call 31; refine (strAt w0 p v l (wr.alloc (.cells #[.string { data := #[97] }, .string { data := #[98] }, .string { data := #[110, 101, 119, 115] }, .string { data := #[120, 45, 49] }, .string { data := #[49] }, .string { data := #[107, 101, 121] }] 9)).drew HCA.out wr.heap.size (by omega) [{ data := #[97] }, { data := #[98] }, { data := #[110, 101, 119, 115] }, { data := #[120, 45, 49] }, { data := #[49] }, { data := #[107, 101, 121] }] 6 rfl (by decide) (by decide) 8 (by decide) (fun j h => lits_at rfl rfl j h)).mono ?_; rintro e w2 ⟨y2, rfl, ⟨t2, rfl, ht2⟩, hc2, hk2⟩; have ht2b : t2.size ≤ 10000000 := Nat.le_trans ht2 (by decide); have HC2 := Lib.hid hc2; have HK2 := Lib.hid (HKA.out.trans hk2); have HR2 := Lib.hid (NC.keep HRA.out hk2 hwp); have HX2 := Lib.hid (NC.keep HXA.out hk2 hwp1); have hxc2 := HX2.out.1; have HO2 := Lib.hid (rown_keep HOA.out hk2 hwp2); clear hc2 hk2) | (go_at_call 89; refine (Row.specAppendPart (.slice x n c) m t2 w2 HO2.out.holds hbm ht2b).mono ?_; rintro e w3 ⟨v3, rfl, ho3, hb3⟩; obtain ⟨x3, n3, c3, rfl, -, -, ho3⟩ := ho3.shapeN; have HC3 := Lib.hid (HC2.out.on hb3); have HK3 := Lib.hid (HK2.out.trans (Keep.of_below hb3)); have HR3 := Lib.hid (HR2.out.on hb3); have HX3 := Lib.hid (HX2.out.on hb3); have HO3 := Lib.hid ho3; have hx3 := HX3.out.1; have hx4 := HX3.out.2; clear ho3 hb3))
      all_goals
        have hlt2 := HX2.out.lt
        have hov := (HO3.out.mono (B' := w.heap.size + 2) (by omega)).grown (Ret.grownBy_set w3 ⟨w.heap.size + 1, 0, none⟩ (.slice x3 n3 c3)) (Row.nb (HO3.out.mono (B' := w.heap.size + 2) (by omega)) (b := w.heap.size + 1) (by omega))
        have HO4 := Lib.hid hov
        have HC4 := Lib.hid (HC3.out.set (g := w.heap.size + 1) (by have := HC0.out.below.size; omega) (by omega) (.slice x3 n3 c3))
        have HK4 := Lib.hid (HK3.out.set (g := w.heap.size + 1) (by omega) (.slice x3 n3 c3))
        have HR4 := Lib.hid (HR3.out.other (a := ⟨w.heap.size + 1, 0, none⟩) (by show w.heap.size + 1 ≠ w.heap.size; omega) (.slice x3 n3 c3))
        have HX4 := Lib.hid (NC.set_same HX3.out (.slice x3 n3 c3))
        have hbk := bulk_appN m t2
        clear hov hlt2
        go_wp2_with fail
        go_roundw
        case rel => exact ⟨k - 1, j + 1, _, _, by omega, by first | go_num | (congr 1; omega), by omega, HR4, HX4, HO4, HC4, HK4⟩
        case measure => simp only [intOf]; omega
    · obtain rfl : k = 0 := by omega
      obtain ⟨hk2, hf2⟩ := hR.out
      obtain ⟨q1, q2, q3⟩ : (wr.setCell ⟨w.heap.size, 0, none⟩ (.slice x n c)).cell? ⟨w.heap.size, 0, none⟩ = some (.slice x n c) ∧ Row.Own 9 Value.string w.heap.size (wr.setCell ⟨w.heap.size, 0, none⟩ (.slice x n c)) (.slice x n c) m ∧ (Cur w0 p v l (wr.setCell ⟨w.heap.size, 0, none⟩ (.slice x n c)) ∧ Keep p w (wr.setCell ⟨w.heap.size, 0, none⟩ (.slice x n c))) :=
        ⟨Ret.set_same hk2, (ho.grown (Ret.grownBy_set wr ⟨w.heap.size, 0, none⟩ (.slice x n c)) (Row.nb ho (b := w.heap.size) (by omega))).mono (by omega), hC.out.set HC0.out.below.size (by omega) _, hK.out.set (Nat.le_refl _) _⟩
      have HQ1 := Lib.hid q1; have HQ2 := Lib.hid q2; have HQ3 := Lib.hid q3
      clear q1 q2 q3 ho
      go_wp2
      refine bodyPost_ret (Ret.results_c rfl _ _ w.heap.size [_] rfl Row.aggN (Ret.one HQ1.out)) rfl ?_
      exact ⟨_, rfl, ⟨_, m, rfl, HQ2.out, by omega⟩, HQ3.out.1, HQ3.out.2⟩

end Go.Proofs.YtkojeajjappchaaGreat.Draw
/- Contracts of the reference model's draws of names that may be wrong: what is drawn lies in memory of the call's own; all else but the cursor is as it was. -/
namespace Go.Proofs.YtkojeajjappchaaGreat.Draw
open Go.ChangeShapes Go.WideShapes Go.ChangeAt Go.RowKit Go.Instr
open Go.Proofs.YtkojeajjappchaaGreat.Row (bulk bulk_append bulk_one bulk_nil elemSTR oneStr)
open Go.Proofs.YtkojeajjappchaaGreat.Ret (NC)
set_option linter.unusedVariables false
set_option maxRecDepth 100000

/-- append to a slice of strings of the call's own, as a step of a statement that draws its order. -/
theorem step_app {P : Program} {ops : Array Oper} {o : Oper} {a : Act} {w : World} {K : Act → World → Prop} {Q : Exit → Act → World → Prop} {E : Prop} {α : Type} [Inhabited α] {enc : α → Value} {e t : TypeId} {bytes : Nat} {z : Value}
    (hg : o.guard = none) (s x : Operand) (hop : o.op = Op.call { callee := Callee.builtin Builtin.append, args := #[s, x], argTypes := #[t, t] }) (ht : P.underlying t = some (.slice e)) (hi : Row.Elem P e z bytes) (hz : z.cells.size = 1)
    {B : Nat} {v : Value} {ad : Addr} {n c : Nat} {l m : List α} (hs : a.eval s = v) (hx : a.eval x = .slice (some ad) n c) (hown : Row.Own e enc B w v l) (hsrc : Row.Holds enc w (.slice (some ad) n c) m) (h1c : ∀ x, (enc x).oneCell' = true) (hlen : (l.length + m.length) * bytes ≤ 140737488355328) (hmx : l.length + m.length ≤ maxLen) (hB : B ≤ w.heap.size)
    (hK : ∀ v' w', Row.Own e enc B w' v' (l ++ m) → w.grownBy w' v.ownBlock → K (a.put o.dst v') w') :
    if Region.wanted o (yielded ops a.tmps) = true then Oper.wp P o a w K Q else E := by
  have hw : Region.wanted o (yielded ops a.tmps) = true := by simp [Region.wanted, hg]
  rw [if_pos hw]
  obtain ⟨i, h1, h2, h3, h4⟩ := info_parts hi
  obtain rfl := hsrc.lenEq
  obtain ⟨v', w', hrun, r1, r2, _⟩ := run_append_own (P := P) w B t o.type e i z 1 bytes ht h1 h2 h3 h4 hz (by decide) v l.length (l.map enc) hown ad m.length c (m.map enc) (by simp) hsrc.cells (Row.oneCell h1c m) hmx hlen hB
  unfold Oper.wp
  simp [execOp, hop, resolve, invoke, builtin, hs, hx, hrun, Result.andThen]
  refine hK v' w' ?_ r2
  unfold Row.Own
  rw [List.length_append, List.map_append]; exact r1

/-- The length of the slice that lies in block g. -/
def lenAt (w : World) (g : Nat) : Nat := match w.cell? ⟨g, 0, none⟩ with
  | some (.slice _ n _) => n
  | _ => 0
theorem lenAt_of {w : World} {g : Nat} {x : Option Addr} {n c : Nat} (h : w.cell? ⟨g, 0, none⟩ = some (.slice x n c)) : lenAt w g = n := by simp [lenAt, h]

theorem box_keep {w w' : World} {g p : Nat} {u : Value} {t : TypeId} (h : Ret.Box w g u t) (hk : Keep p w w') (hne : g ≠ p) : Ret.Box w' g u t := (hk.block g h.lt hne).trans h
/-- The last store of a draw that gives a name. -/
theorem endA {w0 : World} {p : Nat} {v : Value} {l : List UInt8} {w W : World} {g : Nat} {s : Value} {m : List ByteArray} (hc0 : Cur w0 p v l w) (hgw : w.heap.size < g) (hwp : w.heap.size ≠ p)
    (ho : Row.Own 9 Value.string (w.heap.size + 1) W s m) (hc : Cur w0 p v l W) (hk : Keep p w W) (hr : NC W w.heap.size (.slice none 0 0)) :
    (W.setCell ⟨w.heap.size, 0, none⟩ s).cell? ⟨w.heap.size, 0, none⟩ = some s ∧ Row.Own 9 Value.string w.heap.size (W.setCell ⟨w.heap.size, 0, none⟩ s) s m ∧ Cur w0 p v l (W.setCell ⟨w.heap.size, 0, none⟩ s) ∧ Keep p w (W.setCell ⟨w.heap.size, 0, none⟩ s) :=
  ⟨Ret.set_same hr.1, (ho.grown (Ret.grownBy_set W ⟨w.heap.size, 0, none⟩ s) (Row.nb ho (b := w.heap.size) (by omega))).mono (by omega), hc.set hc0.below.size hwp _, hk.set (Nat.le_refl _) _⟩

/-- Behind an append whose slice is stored back into the variable g. -/
theorem storeA {w0 : World} {p : Nat} {v : Value} {l : List UInt8} {w w3 w4 : World} {g : Nat} {s s4 u : Value} {m m4 : List ByteArray} (hc0 : Cur w0 p v l w) (hgw : w.heap.size < g) (hgp : g ≠ p) (hwp : w.heap.size ≠ p) (hpw : p < w.heap.size + 1)
    (ho3 : Row.Own 9 Value.string (w.heap.size + 1) w3 s m) (hc : Cur w0 p v l w3) (hk : Keep p w w3) (hr : NC w3 w.heap.size (.slice none 0 0)) (hg : w3.grownBy w4 s.ownBlock) (ho : Row.Own 9 Value.string (w.heap.size + 1) w4 s4 m4) (hx : Ret.Box w4 g u 29) :
    Row.Own 9 Value.string (w.heap.size + 1) (w4.setCell ⟨g, 0, none⟩ s4) s4 m4 ∧ Cur w0 p v l (w4.setCell ⟨g, 0, none⟩ s4) ∧ Keep p w (w4.setCell ⟨g, 0, none⟩ s4) ∧ NC (w4.setCell ⟨g, 0, none⟩ s4) w.heap.size (.slice none 0 0) ∧ Ret.Box (w4.setCell ⟨g, 0, none⟩ s4) g s4 29 := by
  have hlt := fun q hq => (ho3.lt q hq).1
  have h0 := hc0.below.size
  refine ⟨ho.grown (Ret.grownBy_set w4 ⟨g, 0, none⟩ s4) (Or.inr fun e => Row.Own.notBox ho hx (by decide) e.symm), (hc.grown hg (fun q hq => ⟨by have := hlt q hq; omega, by have := hlt q hq; omega⟩)).set (by omega) hgp _, (hk.grown hg (fun q hq => by have := hlt q hq; omega)).set (by omega) _, ?_, hx.set s4⟩
  exact (hr.grown hg (fun e => by have := hlt _ e.symm; omega)).other (a := ⟨g, 0, none⟩) (by show g ≠ w.heap.size; omega) _

set_option maxRecDepth 100000 in
set_option maxHeartbeats 4000000 in
theorem l4Any (w0 : World) (p : Nat) (v : Value) (l : List UInt8) (w : World) (hc : Cur w0 p v l w) :
    Calls Tryz.prog 53 #[.pointer (some ⟨p, 0, none⟩)] w (DrawnW w0 p v l w (NameIn w.heap.size 1000)) := by
  have hpl := hc.lt
  have HB := Lib.hid (l4Name w0 p v l _ (hc.alloc (.cells #[.slice none 0 0] 29)))
  have HK0 := Lib.hid (keep_alloc p w (.cells #[.slice none 0 0] 29))
  have HR0 := Lib.hid (NC.new' (w := w) (.slice none 0 0) 29 rfl)
  have HC0 := Lib.hid hc
  have hwp : w.heap.size ≠ p := by omega
  clear hc
  go_enter Tryz.func53, Tryz.ntmps53
  go_wp2_with fail
  refine HB.out.mono ?_
  rintro e w1 ⟨y, rfl, ⟨u, m, rfl, ho, hm⟩, hc1, hk1⟩
  obtain ⟨x, n, c, rfl, hn, hcap, ho⟩ := ho.shapeN
  have hz1 := hk1.size
  simp only [World.size_alloc] at hz1 ho
  have hal : Below w1.heap.size w1 (w1.alloc (.cells #[.slice x n c] 29)) := (Below.refl _ _).alloc (Nat.le_refl _) _
  have HC1 := Lib.hid (hc1.on hal)
  have HK1 := Lib.hid ((HK0.out.trans hk1).trans (Keep.of_below (p := p) hal))
  have HR1 := Lib.hid ((NC.keep HR0.out hk1 hwp).on hal)
  have HX1 := Lib.hid (Ret.Box.new' (w := w1) (.slice x n c) 29 rfl)
  have HO1 := Lib.hid (ho.on hal)
  have hb := below w0 p v l _ 8 HC1.out
  have HB2 := Lib.hid hb
  obtain ⟨g, hg⟩ : ∃ g, g = w1.heap.size := ⟨_, rfl⟩
  have hgp : g ≠ p := by have := hc1.lt; omega
  have hgw : w.heap.size < g := by omega
  have hpw : p < w.heap.size + 1 := by omega
  have hnm : n ≤ 100 := by have := Row.bigLen hm; omega
  have HN := Lib.hid hn
  clear hc1 hk1 ho hal hb HB hn
  go_wp2_with fail
  rw [← hg] at HX1 ⊢
  refine HB2.out.mono ?_
  rintro e w2 ⟨y, rfl, ⟨r, rfl, hr, _⟩, hc2, hk2⟩
  have hr := hr (by omega)
  obtain ⟨r, rfl⟩ := Int.eq_ofNat_of_zero_le hr.1
  have HC2 := Lib.hid hc2
  have HK2 := Lib.hid (HK1.out.trans hk2)
  have HR2 := Lib.hid (NC.keep HR1.out hk2 hwp)
  have HX2 := Lib.hid (box_keep HX1.out hk2 hgp)
  have HO2 := Lib.hid (rown_keep HO1.out hk2 hpw)
  clear hc2 hk2 HB2 HC1 HK1 HR1 HX1 HO1 hg
  by_cases h0 : r = 0
  · subst h0
    have hx2 := HX2.out.cell
    have hx3 := HX2.out.frozen
    have hal : Below w2.heap.size w2 (w2.alloc (.cells #[.string { data := #[] }, .string { data := #[65] }, .string { data := #[116, 111, 111, 108, 111, 110, 103, 120, 120] }, .string { data := #[97, 47, 98] }, .string { data := #[32] }, .string { data := #[101, 105, 103, 104, 116, 56, 56, 56] }] 9)).drew := ((Below.refl _ _).alloc (Nat.le_refl _) _).drew
    have HCA := Lib.hid (HC2.out.on hal)
    have HKA := Lib.hid (HK2.out.trans (Keep.of_below (p := p) hal))
    have HRA := Lib.hid (HR2.out.on hal)
    have HXA := Lib.hid (HX2.out.on hal)
    have HOA := Lib.hid (HO2.out.on hal)
    have hxA : (w2.alloc (.cells #[.string { data := #[] }, .string { data := #[65] }, .string { data := #[116, 111, 111, 108, 111, 110, 103, 120, 120] }, .string { data := #[97, 47, 98] }, .string { data := #[32] }, .string { data := #[101, 105, 103, 104, 116, 56, 56, 56] }] 9)).cell? ⟨g, 0, none⟩ = some (.slice x n c) := HXA.out.cell
    have hpr := HC2.out.lt
    have HLM := Lib.hid (show (m.length + 1) * 16 ≤ 140737488355328 by rw [← HN.out]; omega)
    have HLX := Lib.hid (show m.length + 1 ≤ maxLen by rw [← HN.out]; unfold maxLen; omega)
    clear hal
    go_wp2_with fail
    go_region_law (first | (refine step_app (enc := Value.string) (B := w.heap.size + 1) (l := m) (m := [t3]) rfl _ _ (by rfl) Tryz.underlying24 elemSTR rfl (by rfl) (by rfl) HO3A.out (Row.holds_one Value.string 9 w3 t3) oneStr HLM.out HLX.out hB3 ?_; intro v4 w4 ho4 hg4; obtain ⟨x4, n4, c4, rfl, hn4, hcc4, ho4⟩ := ho4.shapeN; have HO4 := Lib.hid ho4; have HG4 := Lib.hid hg4; have HX4 := Lib.hid ((HX3.out.on ((Below.refl _ _).alloc (Nat.le_refl _) (.cells #[.string t3] 9))).grown hg4 (Row.Own.notBox HO3A.out (HX3.out.on ((Below.refl _ _).alloc (Nat.le_refl _) (.cells #[.string t3] 9))) (by decide))); have hx4 := HX4.out.cell; have hx5 := HX4.out.frozen; clear ho4 hg4 hn4) | (go_simp; go_at_call 31; refine (strAt w0 p v l (w2.alloc (.cells #[.string { data := #[] }, .string { data := #[65] }, .string { data := #[116, 111, 111, 108, 111, 110, 103, 120, 120] }, .string { data := #[97, 47, 98] }, .string { data := #[32] }, .string { data := #[101, 105, 103, 104, 116, 56, 56, 56] }] 9)).drew HCA.out w2.heap.size (by omega) [{ data := #[] }, { data := #[65] }, { data := #[116, 111, 111, 108, 111, 110, 103, 120, 120] }, { data := #[97, 47, 98] }, { data := #[32] }, { data := #[101, 105, 103, 104, 116, 56, 56, 56] }] 6 rfl (by decide) (by decide) 20 (by decide) (fun j h => lits_at rfl rfl j h)).mono ?_; rintro e w3 ⟨y3, rfl, ⟨t3, rfl, ht3⟩, hc3, hk3⟩; have HC3 := Lib.hid hc3; have HK3 := Lib.hid (HKA.out.trans hk3); have HR3 := Lib.hid (NC.keep HRA.out hk3 hwp); have HX3 := Lib.hid (box_keep HXA.out hk3 hgp); have HO3 := Lib.hid (rown_keep HOA.out hk3 hpw); have HO3A := Lib.hid (HO3.out.on ((Below.refl _ _).alloc (Nat.le_refl _) (.cells #[.string t3] 9))); have hxc3 := HX3.out.cell; have hxa3 := (HX3.out.on ((Below.refl _ _).alloc (Nat.le_refl _) (.cells #[.string t3] 9))).cell; have hB3 : w.heap.size + 1 ≤ (w3.alloc (.cells #[.string t3] 9)).heap.size := (by have := HX3.out.lt; simp; omega); clear hc3 hk3))
    all_goals
      have HZ5 := Lib.hid (storeA HC0.out hgw hgp hwp hpw HO3A.out (HC3.out.on ((Below.refl _ _).alloc (Nat.le_refl _) _)) (HK3.out.trans (keep_alloc p w3 _)) (HR3.out.alloc _) HG4.out HO4.out HX4.out)
      have HO5 := Lib.hid HZ5.out.1
      have HC5 := Lib.hid HZ5.out.2.1
      have HK5 := Lib.hid HZ5.out.2.2.1
      have HR5 := Lib.hid HZ5.out.2.2.2.1
      have HX5 := Lib.hid HZ5.out.2.2.2.2
      clear hx2 hx3 hxA hxc3 hxa3 hx4 hx5 HZ5
      obtain ⟨hk8, hf8⟩ := HR5.out
      have hx8 := HX5.out.cell
      have HZ := Lib.hid (endA HC0.out hgw hwp HO5.out HC5.out HK5.out HR5.out)
      go_wp2_with fail
      refine bodyPost_ret (Ret.results_c rfl _ _ w.heap.size [_] rfl Row.aggN (Ret.one HZ.out.1)) rfl ?_
      exact ⟨_, rfl, ⟨_, _, rfl, HZ.out.2.1, by first | omega | (rw [bulk_append, bulk_one]; omega)⟩, HZ.out.2.2.1, HZ.out.2.2.2⟩
  · have h0b : ((r : Int) == 0) = false := by simpa using h0
    by_cases h1 : r = 1
    · subst h1
      have hx2 := HX2.out.cell
      have hbn : bulk m ≤ 100 + 2 * n := by omega
      have hnm2 : n ≤ 107 := by omega
      have HI := Lib.hid HX2.out.cell
      clear hx2 hm hnm
      go_wp2_with fail
      go_loopw [] (fun wr => ∃ (x : Option Addr) (n c : Nat) (m : List ByteArray), n ≤ 107 ∧ bulk m ≤ 100 + 2 * n ∧ lenAt wr g = n ∧ Hid (n = m.length) ∧ Hid (NC wr w.heap.size (.slice none 0 0)) ∧ Hid (Ret.Box wr g (.slice x n c) 29) ∧ Hid (Row.Own 9 Value.string (w.heap.size + 1) wr (.slice x n c) m) ∧ Hid (Cur w0 p v l wr) ∧ Hid (Keep p w wr)) (fun wr => 200 - lenAt wr g)
      case atStart => exact ⟨x, n, c, m, hnm2, hbn, lenAt_of HI.out, HN, HR2, HX2, HO2, HC2, HK2⟩
      case round =>
        obtain ⟨x, n, c, m, hn7, hbn, hla, HN, HR, HX, HO, HC, HK⟩ := hrel
        have HLA := Lib.hid hla
        have hx := HX.out.cell
        have hdr : Below wr.heap.size wr wr.drew := (Below.refl _ _).drew
        have HCD := Lib.hid (HC.out.on hdr)
        have HKD := Lib.hid (HK.out.trans (Keep.of_below (p := p) hdr))
        have HRD := Lib.hid (HR.out.on hdr)
        have HXD := Lib.hid (HX.out.on hdr)
        have HOD := Lib.hid (HO.out.on hdr)
        clear hla hdr
        go_wp2_with fail
        go_region_held3 (fun w' => w'.cell? ⟨g, 0, none⟩ = some (.slice x n c)) (first | exact HXD.out.cell | exact hxc3) ((go_at_call 55; refine (below w0 p v l wr.drew 3 HCD.out).mono ?_; rintro e w3 ⟨y, rfl, ⟨q, rfl, hq, hq2⟩, hc3, hk3⟩; have hxc3 := (box_keep HXD.out hk3 hgp).cell))
        have hq := hq (by omega)
        have HC3 := Lib.hid hc3
        have HK3 := Lib.hid (HKD.out.trans hk3)
        have HR3 := Lib.hid (NC.keep HRD.out hk3 hwp)
        have HX3 := Lib.hid (box_keep HXD.out hk3 hgp)
        have HO3 := Lib.hid (rown_keep HOD.out hk3 hpw)
        have hwq : IntKind.i64.wrap (5 + q) = 5 + q := by rw [IntKind.wrap_i64]; omega
        obtain ⟨q0, q1⟩ := hq
        clear hc3 hk3 hq2 hx
        rw [hwq]
        clear hwq
        by_cases hlt : (n : Int) < 5 + q
        · have HO3A := Lib.hid (HO3.out.on ((Below.refl _ _).alloc (Nat.le_refl _) (.cells #[.string { data := #[109] }] 9)))
          have HX3A := Lib.hid (HX3.out.on ((Below.refl _ _).alloc (Nat.le_refl _) (.cells #[.string { data := #[109] }] 9)))
          have HLM := Lib.hid (show (m.length + ([{ data := #[109] }] : List ByteArray).length) * 16 ≤ 140737488355328 by rw [← HN.out]; simp; omega)
          have HLX := Lib.hid (show m.length + ([{ data := #[109] }] : List ByteArray).length ≤ maxLen by rw [← HN.out]; unfold maxLen; simp; omega)
          have hB3 : w.heap.size + 1 ≤ (w3.alloc (.cells #[.string { data := #[109] }] 9)).heap.size := by have := HX3.out.lt; simp; omega
          go_wp2_with (at_builtin; refine Row.wpList_app (enc := Value.string) (B := w.heap.size + 1) (l := m) (m := [{ data := #[109] }]) rfl _ _ rfl Tryz.underlying24 elemSTR rfl rfl rfl HO3A.out (Row.holds_one Value.string 9 w3 _) oneStr HLM.out HLX.out hB3 ?_)
          intro v4 w4 ho4 hg4
          obtain ⟨x4, n4, c4, rfl, hn4, hcc4, ho4⟩ := ho4.shapeN
          have HX4 := Lib.hid (HX3A.out.grown hg4 (Row.Own.notBox HO3A.out HX3A.out (by decide)))
          have hx4 := HX4.out.cell
          have hx5 := HX4.out.frozen
          have HZ5 := Lib.hid (storeA HC0.out hgw hgp hwp hpw HO3A.out (HC3.out.on ((Below.refl _ _).alloc (Nat.le_refl _) _)) (HK3.out.trans (keep_alloc p w3 _)) (HR3.out.alloc _) hg4 ho4 HX4.out)
          have hn4' : n4 = n + 1 := by rw [hn4, List.length_append, HN.out]; rfl
          have HN4 := Lib.hid hn4
          have HNE := Lib.hid hn4'
          have hbk : bulk (m ++ [{ data := #[109] }]) ≤ 100 + 2 * (n + 1) := by
            rw [bulk_append, bulk_one]
            have : (ByteArray.mk #[109]).size = 1 := rfl
            omega
          clear ho4 hg4 hn4 hxc3 hn4'
          go_wp2_with fail
          go_roundw
          case rel => exact ⟨x4, n4, c4, _, by rw [HNE.out]; omega, by rw [HNE.out]; exact hbk, lenAt_of HZ5.out.2.2.2.2.cell, HN4, Lib.hid HZ5.out.2.2.2.1, Lib.hid HZ5.out.2.2.2.2, Lib.hid HZ5.out.1, Lib.hid HZ5.out.2.1, Lib.hid HZ5.out.2.2.1⟩
          case measure => rw [lenAt_of HZ5.out.2.2.2.2.cell, HLA.out, HNE.out]; omega
        · clear hxc3
          obtain ⟨hk8, hf8⟩ := HR3.out
          have hx8 := HX3.out.cell
          have HZ := Lib.hid (endA HC0.out hgw hwp HO3.out HC3.out HK3.out HR3.out)
          go_wp2_with fail
          refine bodyPost_ret (Ret.results_c rfl _ _ w.heap.size [_] rfl Row.aggN (Ret.one HZ.out.1)) rfl ?_
          exact ⟨_, rfl, ⟨_, _, rfl, HZ.out.2.1, by first | omega | (rw [bulk_append, bulk_one]; omega)⟩, HZ.out.2.2.1, HZ.out.2.2.2⟩
    · have h1b : ((r : Int) == 1) = false := beq_eq_false_iff_ne.2 (by omega)
      clear h0 h1
      obtain ⟨hk8, hf8⟩ := HR2.out
      have hx8 := HX2.out.cell
      have HZ := Lib.hid (endA HC0.out hgw hwp HO2.out HC2.out HK2.out HR2.out)
      go_wp2_with fail
      refine bodyPost_ret (Ret.results_c rfl _ _ w.heap.size [_] rfl Row.aggN (Ret.one HZ.out.1)) rfl ?_
      exact ⟨_, rfl, ⟨_, _, rfl, HZ.out.2.1, by omega⟩, HZ.out.2.2.1, HZ.out.2.2.2⟩

end Go.Proofs.YtkojeajjappchaaGreat.Draw
/- Contracts of the reference model's draws of patterns, of names that they may mean, and of bindings: what is drawn lies in memory of the call's own; all else but the cursor is as it was. -/
namespace Go.Proofs.YtkojeajjappchaaGreat.Draw
open Go.ChangeShapes Go.WideShapes Go.ChangeAt Go.RowKit Go.Instr
open Go.Proofs.YtkojeajjappchaaGreat.Row (bulk bulk_append bulk_one bulk_nil bulk_cons elemSTR oneStr encBd OwnK HoldsK bulk2 kindBd szBd)
open Go.Proofs.YtkojeajjappchaaGreat.Ret (NC)
set_option linter.unusedVariables false
set_option maxRecDepth 100000

abbrev OwnS (B : Nat) (w : World) (u : Value) (m : List ByteArray) : Prop := Row.Own 9 Value.string B w u m
theorem own_one {α : Type} [Inhabited α] (enc : α → Value) (e : TypeId) (w : World) (x : α) : Row.Own e enc w.heap.size (w.alloc (.cells #[enc x] e)) (.slice (some ⟨w.heap.size, 0, none⟩) 1 1) [x] := World.ownsRow_lit w #[enc x] 1 (Nat.le_refl _) (by unfold maxLen; omega) rfl
/-- Behind an append whose slice is stored back into the variable g. -/
theorem storeP {w0 : World} {p : Nat} {v : Value} {l : List UInt8} {w w3 w4 : World} {g B : Nat} {s s4 u : Value} {m m4 : List ByteArray} {t : TypeId} (h0 : w0.heap.size ≤ w.heap.size) (hwB : w.heap.size ≤ B) (hgw : w.heap.size ≤ g) (hgp : g ≠ p) (hpB : p < B) (hne : 9 ≠ t)
    (ho3 : OwnS B w3 s m) (hc : Cur w0 p v l w3) (hk : Keep p w w3) (hg : w3.grownBy w4 s.ownBlock) (ho : OwnS B w4 s4 m4) (hx : Ret.Box w4 g u t) :
    OwnS B (w4.setCell ⟨g, 0, none⟩ s4) s4 m4 ∧ Cur w0 p v l (w4.setCell ⟨g, 0, none⟩ s4) ∧ Keep p w (w4.setCell ⟨g, 0, none⟩ s4) ∧ Ret.Box (w4.setCell ⟨g, 0, none⟩ s4) g s4 t ∧
    (∀ g0 u0, NC w3 g0 u0 → g0 < B → g0 ≠ g → NC (w4.setCell ⟨g, 0, none⟩ s4) g0 u0) ∧ (∀ g0 u0 t0, Ret.Box w3 g0 u0 t0 → g0 < B → g0 ≠ g → Ret.Box (w4.setCell ⟨g, 0, none⟩ s4) g0 u0 t0) ∧
    (∀ B' v' l', OwnS B' w3 v' l' → (∀ q, v'.ownBlock = some q → q < B ∧ q ≠ g) → OwnS B' (w4.setCell ⟨g, 0, none⟩ s4) v' l') := by
  have hlt := fun q hq => (ho3.lt q hq).1
  have hgs : w4.grownBy (w4.setCell ⟨g, 0, none⟩ s4) (some g) := Ret.grownBy_set w4 ⟨g, 0, none⟩ s4
  refine ⟨ho.grown hgs (Or.inr fun e => Row.Own.notBox ho hx hne e.symm), (hc.grown hg (fun q hq => ⟨by have := hlt q hq; omega, by have := hlt q hq; omega⟩)).set (by omega) hgp _, (hk.grown hg (fun q hq => by have := hlt q hq; omega)).set hgw _, hx.set s4, fun g0 u0 h hb hn => ?_, fun g0 u0 t0 h hb hn => ?_, fun B' v' l' h hq => ?_⟩
  · exact (h.grown hg (fun e => by have := hlt _ e.symm; omega)).other (a := ⟨g, 0, none⟩) (fun e => hn e.symm) _
  · exact (h.grown hg (fun e => by have := hlt _ e.symm; omega)).grown hgs (fun e => hn (Option.some.inj e))
  · refine (h.grown hg ?_).grown hgs ?_
    · cases hv : v'.ownBlock with
      | none => exact Or.inl rfl
      | some q => exact Or.inr fun e => by have := hlt q e.symm; have := (hq q hv).1; omega
    · cases hv : v'.ownBlock with
      | none => exact Or.inl rfl
      | some q => exact Or.inr fun e => (hq q hv).2 (Option.some.inj e)
/-- The last store of a draw that gives a pattern or a name. -/
theorem endP {w0 : World} {p : Nat} {v : Value} {l : List UInt8} {w W : World} {s : Value} {m : List ByteArray} (hc0 : Cur w0 p v l w) (hwp : w.heap.size ≠ p)
    (ho : OwnS (w.heap.size + 1) W s m) (hc : Cur w0 p v l W) (hk : Keep p w W) (hr : NC W w.heap.size (.slice none 0 0)) :
    (W.setCell ⟨w.heap.size, 0, none⟩ s).cell? ⟨w.heap.size, 0, none⟩ = some s ∧ OwnS w.heap.size (W.setCell ⟨w.heap.size, 0, none⟩ s) s m ∧ Cur w0 p v l (W.setCell ⟨w.heap.size, 0, none⟩ s) ∧ Keep p w (W.setCell ⟨w.heap.size, 0, none⟩ s) :=
  ⟨Ret.set_same hr.1, (ho.grown (Ret.grownBy_set W ⟨w.heap.size, 0, none⟩ s) (Row.nb ho (b := w.heap.size) (by omega))).mono (by omega), hc.set hc0.below.size hwp _, hk.set (Nat.le_refl _) _⟩
theorem z1 : ({ data := #[42] } : ByteArray).size = 1 := rfl
theorem z2 : ({ data := #[42, 42] } : ByteArray).size = 2 := rfl
set_option maxHeartbeats 4000000 in
theorem l5Pat (w0 : World) (p : Nat) (v : Value) (l : List UInt8) (w : World) (hc : Cur w0 p v l w) :
    Calls Tryz.prog 75 #[.pointer (some ⟨p, 0, none⟩)] w (DrawnW w0 p v l w (NameIn w.heap.size 100)) := by
  have hpl := hc.lt
  have hwp : w.heap.size ≠ p := by omega
  have hca := (hc.alloc (.cells #[.slice none 0 0] 26)).alloc (.cells #[.slice none 0 0] 26)
  have HK0 := Lib.hid ((keep_alloc p w (.cells #[.slice none 0 0] 26)).trans (keep_alloc p _ (.cells #[.slice none 0 0] 26)))
  have HR0 := Lib.hid ((NC.new' (w := w) (.slice none 0 0) 26 rfl).alloc (.cells #[.slice none 0 0] 26))
  have HX0 := Lib.hid (Ret.Box.new' (w := w.alloc (.cells #[.slice none 0 0] 26)) (.slice none 0 0) 26 (n := w.heap.size + 1) (by simp))
  have HC0 := Lib.hid hc
  have HB := Lib.hid (below w0 p v l _ 4 hca)
  have HSZ := Lib.hid HC0.out.below.size
  have HWB := Lib.hid (show w.heap.size ≤ w.heap.size + 1 + 1 by omega)
  have HGW := Lib.hid (show w.heap.size ≤ w.heap.size + 1 by omega)
  have HGP := Lib.hid (show w.heap.size + 1 ≠ p by omega)
  have HPB := Lib.hid (show p < w.heap.size + 1 + 1 by omega)
  have HRP := Lib.hid (show w.heap.size ≠ p by omega)
  have HRB := Lib.hid (show w.heap.size < w.heap.size + 1 + 1 by omega)
  have HRG := Lib.hid (show w.heap.size ≠ w.heap.size + 1 by omega)
  clear hc hca
  go_enter Tryz.func75, Tryz.ntmps75
  go_wp2_with fail
  refine HB.out.mono ?_
  rintro e w1 ⟨y, rfl, ⟨r, rfl, hr, _⟩, hc1, hk1⟩
  have hr := hr (by omega)
  obtain ⟨r, rfl⟩ := Int.eq_ofNat_of_zero_le hr.1
  have hr4 : r < 4 := by omega
  have HC1 := Lib.hid hc1
  have HK1 := Lib.hid (HK0.out.trans hk1)
  have HR1 := Lib.hid (NC.keep HR0.out hk1 HRP.out)
  have HX1 := Lib.hid (box_keep HX0.out hk1 HGP.out)
  clear hc1 hk1 hr HB
  go_wp2_with fail
  go_loopw [4] (fun iv wr => ∃ (k j : Nat) (x : Option Addr) (n c : Nat) (m : List ByteArray), k + j ≤ 3 ∧ iv = .int .i64 k ∧ bulk m ≤ 21 * j ∧ Hid (NC wr w.heap.size (.slice none 0 0)) ∧ Hid (Ret.Box wr (w.heap.size + 1) (.slice x n c) 26) ∧ Hid (OwnS (w.heap.size + 1 + 1) wr (.slice x n c) m) ∧ Hid (Cur w0 p v l wr) ∧ Hid (Keep p w wr) ∧ Hid (w.heap.size + 1 + 1 ≤ wr.heap.size)) (fun iv _ => (intOf iv).toNat)
  case atStart => exact ⟨r, 0, none, 0, 0, [], by omega, rfl, by rw [bulk_nil]; omega, HR1, HX1, Lib.hid (Row.Own.nil _ _ _ _), HC1, HK1, Lib.hid HX1.out.lt⟩
  case round =>
    obtain ⟨k, j, x, n, c, m, hkj, rfl, hm, HR, HX, HO, HC, HK, HW⟩ := hrel
    have HBB := HW
    have hx1 := HX.out.cell
    by_cases hk0 : 0 < k
    · have hx2 := HX.out.frozen
      have HLM := Lib.hid (show (m.length + 1) * 16 ≤ 140737488355328 by have := Row.bulk_len m; omega)
      have HLX := Lib.hid (show m.length + 1 ≤ maxLen by have := Row.bulk_len m; unfold maxLen; omega)
      have hal : Below wr.heap.size wr (wr.alloc (.cells #[.string { data := #[97] }, .string { data := #[98] }, .string { data := #[110, 101, 119, 115] }, .string { data := #[42] }, .string { data := #[63, 120] }, .string { data := #[63, 121] }, .string { data := #[63, 120] }, .string { data := #[107, 101, 121] }] 9)).drew := ((Below.refl _ _).alloc (Nat.le_refl _) _).drew
      have HCA := Lib.hid (HC.out.on hal); have HKA := Lib.hid (HK.out.trans (Keep.of_below (p := p) hal)); have HXA := Lib.hid (HX.out.on hal); have HOA := Lib.hid (HO.out.on hal)
      have HRA := Lib.hid (HR.out.on hal)
      have hxA : (wr.alloc (.cells #[.string { data := #[97] }, .string { data := #[98] }, .string { data := #[110, 101, 119, 115] }, .string { data := #[42] }, .string { data := #[63, 120] }, .string { data := #[63, 121] }, .string { data := #[63, 120] }, .string { data := #[107, 101, 121] }] 9)).cell? ⟨w.heap.size + 1, 0, none⟩ = some (.slice x n c) := HXA.out.cell
      have hpr := HC.out.lt
      clear hal
      go_wp2_with fail
      go_region_law (first | (refine step_app (enc := Value.string) (B := w.heap.size + 1 + 1) (l := m) (m := [t3]) rfl _ _ (by rfl) Tryz.underlying24 elemSTR rfl (by rfl) (by rfl) HO3A.out (Row.holds_one Value.string 9 w3 t3) oneStr HLM.out HLX.out hB3 ?_; intro v4 w4 ho4 hg4; obtain ⟨x4, n4, c4, rfl, hn4, hcc4, ho4⟩ := ho4.shapeN; have HO4 := Lib.hid ho4; have HG4 := Lib.hid hg4; have HN4 := Lib.hid hn4; have HX4 := Lib.hid (HX3A.out.grown hg4 (Row.Own.notBox HO3A.out HX3A.out (by decide))); have hx4 := HX4.out.cell; have hx5 := HX4.out.frozen; clear ho4 hg4 hn4) | (go_simp; go_at_call 31; refine (strAt w0 p v l (wr.alloc (.cells #[.string { data := #[97] }, .string { data := #[98] }, .string { data := #[110, 101, 119, 115] }, .string { data := #[42] }, .string { data := #[63, 120] }, .string { data := #[63, 121] }, .string { data := #[63, 120] }, .string { data := #[107, 101, 121] }] 9)).drew HCA.out wr.heap.size (by omega) [{ data := #[97] }, { data := #[98] }, { data := #[110, 101, 119, 115] }, { data := #[42] }, { data := #[63, 120] }, { data := #[63, 121] }, { data := #[63, 120] }, { data := #[107, 101, 121] }] 8 rfl (by decide) (by decide) 20 (by decide) (fun j h => lits_at rfl rfl j h)).mono ?_; rintro e w3 ⟨y3, rfl, ⟨t3, rfl, ht3⟩, hc3, hk3⟩; have HC3 := Lib.hid hc3; have HK3 := Lib.hid (HKA.out.trans hk3); have HX3 := Lib.hid (box_keep HXA.out hk3 HGP.out); have HO3 := Lib.hid (rown_keep HOA.out hk3 HPB.out); have HR3 := Lib.hid (NC.keep HRA.out hk3 HRP.out); have HO3A := Lib.hid (HO3.out.on ((Below.refl _ _).alloc (Nat.le_refl _) (.cells #[.string t3] 9))); have HX3A := Lib.hid (HX3.out.on ((Below.refl _ _).alloc (Nat.le_refl _) (.cells #[.string t3] 9))); have hxc3 := HX3.out.cell; have hxa3 := HX3A.out.cell; have hB3 : w.heap.size + 1 + 1 ≤ (w3.alloc (.cells #[.string t3] 9)).heap.size := (by have := HX3.out.lt; simp; omega); clear hc3 hk3))
      all_goals
        have HZ5 := Lib.hid (storeP HSZ.out HWB.out HGW.out HGP.out HPB.out (by decide) HO3A.out (HC3.out.on ((Below.refl _ _).alloc (Nat.le_refl _) _)) (HK3.out.trans (keep_alloc p w3 _)) HG4.out HO4.out HX4.out)
        have HO5 := Lib.hid HZ5.out.1; have HC5 := Lib.hid HZ5.out.2.1; have HK5 := Lib.hid HZ5.out.2.2.1; have HX5 := Lib.hid HZ5.out.2.2.2.1
        have HR5 := Lib.hid (HZ5.out.2.2.2.2.1 _ _ (HR3.out.on ((Below.refl _ _).alloc (Nat.le_refl _) _)) HRB.out HRG.out)
        have hz5 : bulk (m ++ [t3]) ≤ 21 * (j + 1) := by rw [bulk_append, bulk_one]; omega
        have HW5 := Lib.hid HX5.out.lt
        clear hx1 hx2 hxA hxc3 hxa3 hx4 hx5 HZ5
        go_wp2_with fail
        go_roundw
        case rel => exact ⟨k - 1, j + 1, _, _, _, _, by omega, by first | go_num | (congr 1; omega), hz5, HR5, HX5, HO5, HC5, HK5, HW5⟩
        case measure => simp only [intOf]; omega
    · obtain rfl : k = 0 := by omega
      have HD := Lib.hid (once w0 p v l wr 4 HC.out)
      go_wp2_with fail
      refine HD.out.mono ?_
      rintro e w2 ⟨y, rfl, ⟨b, rfl⟩, hc2, hk2⟩
      replace HC := Lib.hid hc2
      replace HR := Lib.hid (NC.keep HR.out hk2 HRP.out); replace HX := Lib.hid (box_keep HX.out hk2 HGP.out); replace HO := Lib.hid (rown_keep HO.out hk2 HPB.out); replace HK := Lib.hid (HK.out.trans hk2)
      have HBB := Lib.hid HX.out.lt
      clear hc2 hk2 HD hx1
      cases b
      · -- none
        obtain ⟨hk8, hf8⟩ := HR.out
        have hx8 := HX.out.cell
        have HZ := Lib.hid (endP HC0.out hwp (HO.out.mono (by omega)) HC.out HK.out HR.out)
        go_wp2_with fail
        refine bodyPost_ret (Ret.results_c rfl _ _ w.heap.size [_] rfl Row.aggPt (Ret.one HZ.out.1)) rfl ?_
        exact ⟨_, rfl, ⟨_, _, rfl, HZ.out.2.1, by omega⟩, HZ.out.2.2.1, HZ.out.2.2.2⟩
      · -- the rest
        have HLM := Lib.hid (show (m.length + 1) * 16 ≤ 140737488355328 by have := Row.bulk_len m; omega)
        have HLX := Lib.hid (show m.length + 1 ≤ maxLen by have := Row.bulk_len m; unfold maxLen; omega)
        have hal : Below w2.heap.size w2 (w2.alloc (.cells #[.string ({ data := #[42, 42] })] 9)) := (Below.refl _ _).alloc (Nat.le_refl _) _
        have HO3A := Lib.hid (HO.out.on hal); have HX3A := Lib.hid (HX.out.on hal); have HC3 := HC; have HK3 := HK
        have HR3 := HR
        have hB3 : w.heap.size + 1 + 1 ≤ (w2.alloc (.cells #[.string ({ data := #[42, 42] })] 9)).heap.size := by have := HBB.out; have := HK.out.size; simp; omega
        clear hal
        have hxc := HX.out.cell
        go_wp2_with (at_builtin; refine Row.wpList_app (enc := Value.string) (B := w.heap.size + 1 + 1) (l := m) (m := [{ data := #[42, 42] }]) rfl _ _ rfl Tryz.underlying24 elemSTR rfl rfl rfl HO3A.out (Row.holds_one Value.string 9 w2 _) oneStr HLM.out HLX.out hB3 ?_)
        intro v4 w4 ho4 hg4
        obtain ⟨x4, n4, c4, rfl, hn4, hcc4, ho4⟩ := ho4.shapeN
        have HO4 := Lib.hid ho4; have HG4 := Lib.hid hg4; have HN4 := Lib.hid hn4
        have HX4 := Lib.hid (HX3A.out.grown hg4 (Row.Own.notBox HO3A.out HX3A.out (by decide)))
        have hx4 := HX4.out.cell
        have hx5 := HX4.out.frozen
        clear ho4 hg4 hn4 hxc
        have HZ5 := Lib.hid (storeP HSZ.out HWB.out HGW.out HGP.out HPB.out (by decide) HO3A.out (HC3.out.on ((Below.refl _ _).alloc (Nat.le_refl _) _)) (HK3.out.trans (keep_alloc p w2 _)) HG4.out HO4.out HX4.out)
        have HO5 := Lib.hid HZ5.out.1; have HC5 := Lib.hid HZ5.out.2.1; have HK5 := Lib.hid HZ5.out.2.2.1; have HX5 := Lib.hid HZ5.out.2.2.2.1
        have HR5 := Lib.hid (HZ5.out.2.2.2.2.1 _ _ (HR3.out.on ((Below.refl _ _).alloc (Nat.le_refl _) _)) HRB.out HRG.out)
        have hz5 : bulk (m ++ [{ data := #[42, 42] }]) ≤ 100 := by rw [bulk_append, bulk_one, z2]; omega
        clear HZ5
        clear HR HX HO HC HK
        obtain ⟨hk8, hf8⟩ := HR5.out
        have hx8 := HX5.out.cell
        have HZ := Lib.hid (endP HC0.out hwp (HO5.out.mono (by omega)) HC5.out HK5.out HR5.out)
        go_wp2_with fail
        refine bodyPost_ret (Ret.results_c rfl _ _ w.heap.size [_] rfl Row.aggPt (Ret.one HZ.out.1)) rfl ?_
        exact ⟨_, rfl, ⟨_, _, rfl, HZ.out.2.1, hz5⟩, HZ.out.2.2.1, HZ.out.2.2.2⟩

set_option maxHeartbeats 4000000 in
theorem l5Any (w0 : World) (p : Nat) (v : Value) (l : List UInt8) (w : World) (hc : Cur w0 p v l w) :
    Calls Tryz.prog 50 #[.pointer (some ⟨p, 0, none⟩)] w (DrawnW w0 p v l w (NameIn w.heap.size 1000)) := by
  have hpl := hc.lt
  have HB := Lib.hid (l5Pat w0 p v l _ (hc.alloc (.cells #[.slice none 0 0] 26)))
  have HK0 := Lib.hid (keep_alloc p w (.cells #[.slice none 0 0] 26))
  have HR0 := Lib.hid (NC.new' (w := w) (.slice none 0 0) 26 rfl)
  have HC0 := Lib.hid hc
  have hwp : w.heap.size ≠ p := by omega
  clear hc
  go_enter Tryz.func50, Tryz.ntmps50
  go_wp2_with fail
  refine HB.out.mono ?_
  rintro e w1 ⟨y, rfl, ⟨u, m, rfl, ho, hm⟩, hc1, hk1⟩
  obtain ⟨x, n, c, rfl, hn, hcap, ho⟩ := ho.shapeN
  have hz1 := hk1.size
  simp only [World.size_alloc] at hz1 ho
  have hal : Below w1.heap.size w1 (w1.alloc (.cells #[.slice x n c] 26)) := (Below.refl _ _).alloc (Nat.le_refl _) _
  have HC1 := Lib.hid (hc1.on hal)
  have HK1 := Lib.hid ((HK0.out.trans hk1).trans (Keep.of_below (p := p) hal))
  have HR1 := Lib.hid ((NC.keep HR0.out hk1 hwp).on hal)
  have HX1 := Lib.hid (Ret.Box.new' (w := w1) (.slice x n c) 26 rfl)
  have HO1 := Lib.hid (ho.on hal)
  have HB2 := Lib.hid (below w0 p v l _ 10 HC1.out)
  obtain ⟨g, hg⟩ : ∃ g, g = w1.heap.size := ⟨_, rfl⟩
  have hgp : g ≠ p := by have := hc1.lt; omega
  have hgw : w.heap.size < g := by omega
  have HSZ := Lib.hid HC0.out.below.size
  have HWB := Lib.hid (show w.heap.size ≤ w.heap.size + 1 by omega)
  have HGW := Lib.hid (show w.heap.size ≤ g by omega)
  have HGP := Lib.hid (show g ≠ p by omega)
  have HPB := Lib.hid (show p < w.heap.size + 1 by omega)
  have HRP := Lib.hid (show w.heap.size ≠ p by omega)
  have HRB := Lib.hid (show w.heap.size < w.heap.size + 1 by omega)
  have HRG := Lib.hid (show w.heap.size ≠ g by omega)
  have HN := Lib.hid hn
  clear hc1 hk1 ho hal HB hn
  go_wp2_with fail
  rw [← hg] at HX1 ⊢
  refine HB2.out.mono ?_
  rintro e w2 ⟨y, rfl, ⟨r, rfl, hr, _⟩, hc2, hk2⟩
  have hr := hr (by omega)
  obtain ⟨r, rfl⟩ := Int.eq_ofNat_of_zero_le hr.1
  have HC := Lib.hid hc2
  have HK := Lib.hid (HK1.out.trans hk2)
  have HR := Lib.hid (NC.keep HR1.out hk2 hwp)
  have HX := Lib.hid (box_keep HX1.out hk2 hgp)
  have HO := Lib.hid (rown_keep HO1.out hk2 HPB.out)
  have HBB := Lib.hid (show w.heap.size + 1 ≤ w2.heap.size by have := HX.out.lt; omega)
  clear hc2 hk2 HB2 HC1 HK1 HR1 HX1 HO1 hg
  by_cases h0 : r = 0
  · subst h0
    have hx2 := HX.out.cell
    have hx3 := HX.out.frozen
    have HLM := Lib.hid (show (m.length + 1) * 16 ≤ 140737488355328 by have := Row.bulk_len m; omega)
    have HLX := Lib.hid (show m.length + 1 ≤ maxLen by have := Row.bulk_len m; unfold maxLen; omega)
    have hal : Below w2.heap.size w2 (w2.alloc (.cells #[.string { data := #[] }, .string { data := #[63] }, .string { data := #[63, 120, 120] }, .string { data := #[63, 65] }, .string { data := #[65] }, .string { data := #[42, 42, 42] }] 9)).drew := ((Below.refl _ _).alloc (Nat.le_refl _) _).drew
    have HCA := Lib.hid (HC.out.on hal); have HKA := Lib.hid (HK.out.trans (Keep.of_below (p := p) hal)); have HXA := Lib.hid (HX.out.on hal); have HOA := Lib.hid (HO.out.on hal)
    have HRA := Lib.hid (HR.out.on hal)
    have hxA : (w2.alloc (.cells #[.string { data := #[] }, .string { data := #[63] }, .string { data := #[63, 120, 120] }, .string { data := #[63, 65] }, .string { data := #[65] }, .string { data := #[42, 42, 42] }] 9)).cell? ⟨g, 0, none⟩ = some (.slice x n c) := HXA.out.cell
    have hpr := HC.out.lt
    clear hal
    go_wp2_with fail
    go_region_law (first | (refine step_app (enc := Value.string) (B := w.heap.size + 1) (l := m) (m := [t3]) rfl _ _ (by rfl) Tryz.underlying24 elemSTR rfl (by rfl) (by rfl) HO3A.out (Row.holds_one Value.string 9 w3 t3) oneStr HLM.out HLX.out hB3 ?_; intro v4 w4 ho4 hg4; obtain ⟨x4, n4, c4, rfl, hn4, hcc4, ho4⟩ := ho4.shapeN; have HO4 := Lib.hid ho4; have HG4 := Lib.hid hg4; have HN4 := Lib.hid hn4; have HX4 := Lib.hid (HX3A.out.grown hg4 (Row.Own.notBox HO3A.out HX3A.out (by decide))); have hx4 := HX4.out.cell; have hx5 := HX4.out.frozen; clear ho4 hg4 hn4) | (go_simp; go_at_call 31; refine (strAt w0 p v l (w2.alloc (.cells #[.string { data := #[] }, .string { data := #[63] }, .string { data := #[63, 120, 120] }, .string { data := #[63, 65] }, .string { data := #[65] }, .string { data := #[42, 42, 42] }] 9)).drew HCA.out w2.heap.size (by omega) [{ data := #[] }, { data := #[63] }, { data := #[63, 120, 120] }, { data := #[63, 65] }, { data := #[65] }, { data := #[42, 42, 42] }] 6 rfl (by decide) (by decide) 20 (by decide) (fun j h => lits_at rfl rfl j h)).mono ?_; rintro e w3 ⟨y3, rfl, ⟨t3, rfl, ht3⟩, hc3, hk3⟩; have HC3 := Lib.hid hc3; have HK3 := Lib.hid (HKA.out.trans hk3); have HX3 := Lib.hid (box_keep HXA.out hk3 HGP.out); have HO3 := Lib.hid (rown_keep HOA.out hk3 HPB.out); have HR3 := Lib.hid (NC.keep HRA.out hk3 HRP.out); have HO3A := Lib.hid (HO3.out.on ((Below.refl _ _).alloc (Nat.le_refl _) (.cells #[.string t3] 9))); have HX3A := Lib.hid (HX3.out.on ((Below.refl _ _).alloc (Nat.le_refl _) (.cells #[.string t3] 9))); have hxc3 := HX3.out.cell; have hxa3 := HX3A.out.cell; have hB3 : w.heap.size + 1 ≤ (w3.alloc (.cells #[.string t3] 9)).heap.size := (by have := HBB.out; have := HK3.out.size; simp; omega); clear hc3 hk3))
    all_goals
      have HZ5 := Lib.hid (storeP HSZ.out HWB.out HGW.out HGP.out HPB.out (by decide) HO3A.out (HC3.out.on ((Below.refl _ _).alloc (Nat.le_refl _) _)) (HK3.out.trans (keep_alloc p w3 _)) HG4.out HO4.out HX4.out)
      have HO5 := Lib.hid HZ5.out.1; have HC5 := Lib.hid HZ5.out.2.1; have HK5 := Lib.hid HZ5.out.2.2.1; have HX5 := Lib.hid HZ5.out.2.2.2.1
      have HR5 := Lib.hid (HZ5.out.2.2.2.2.1 _ _ (HR3.out.on ((Below.refl _ _).alloc (Nat.le_refl _) _)) HRB.out HRG.out)
      have hz5 : bulk (m ++ [t3]) ≤ 1000 := by rw [bulk_append, bulk_one]; omega
      clear hx2 hx3 hxA hxc3 hxa3 hx4 hx5 HZ5
      obtain ⟨hk8, hf8⟩ := HR5.out
      have hx8 := HX5.out.cell
      have HZ := Lib.hid (endP HC0.out hwp (HO5.out.mono (by omega)) HC5.out HK5.out HR5.out)
      go_wp2_with fail
      refine bodyPost_ret (Ret.results_c rfl _ _ w.heap.size [_] rfl Row.aggPt (Ret.one HZ.out.1)) rfl ?_
      exact ⟨_, rfl, ⟨_, _, rfl, HZ.out.2.1, hz5⟩, HZ.out.2.2.1, HZ.out.2.2.2⟩
  · have h0b : ((r : Int) == 0) = false := by simpa using h0
    by_cases h1 : r = 1
    · subst h1
      have HOL := Lib.hid ((own_one Value.string 9 w2 { data := #[42, 42] }).mono HBB.out)
      have HXL := Lib.hid (HX.out.on ((Below.refl _ _).alloc (Nat.le_refl _) (.cells #[.string { data := #[42, 42] }] 9)))
      have hxc := HXL.out.cell
      have HSL := Lib.hid (HO.out.holds.on ((Below.refl _ _).alloc (Nat.le_refl _) (.cells #[.string { data := #[42, 42] }] 9)))
      have HLM := Lib.hid (show (1 + m.length) * 16 ≤ 140737488355328 by have := Row.bulk_len m; omega)
      have HLX := Lib.hid (show 1 + m.length ≤ maxLen by have := Row.bulk_len m; unfold maxLen; omega)
      have hB3 : w.heap.size + 1 ≤ (w2.alloc (.cells #[.string { data := #[42, 42] }] 9)).heap.size := by have := HBB.out; simp; omega
      go_wp2_with (at_builtin; refine Row.wpList_app (enc := Value.string) (B := w.heap.size + 1) (l := [{ data := #[42, 42] }]) (m := m) rfl _ _ rfl Tryz.underlying24 elemSTR rfl rfl rfl HOL.out HSL.out oneStr HLM.out HLX.out hB3 ?_)
      intro v4 w4 ho4 hg4
      obtain ⟨x4, n4, c4, rfl, hn4, hcc4, ho4⟩ := ho4.shapeN
      have HO4 := Lib.hid ho4; have HG4 := Lib.hid hg4
      have HX4 := Lib.hid (HXL.out.grown hg4 (Row.Own.notBox HOL.out HXL.out (by decide)))
      have hx4 := HX4.out.cell
      have hx5 := HX4.out.frozen
      clear ho4 hg4 hn4 hxc
      have HO3A := HOL; have HC3 := HC; have HK3 := HK; have HR3 := HR
      have HZ5 := Lib.hid (storeP HSZ.out HWB.out HGW.out HGP.out HPB.out (by decide) HO3A.out (HC3.out.on ((Below.refl _ _).alloc (Nat.le_refl _) _)) (HK3.out.trans (keep_alloc p w2 _)) HG4.out HO4.out HX4.out)
      have HO5 := Lib.hid HZ5.out.1; have HC5 := Lib.hid HZ5.out.2.1; have HK5 := Lib.hid HZ5.out.2.2.1; have HX5 := Lib.hid HZ5.out.2.2.2.1
      have HR5 := Lib.hid (HZ5.out.2.2.2.2.1 _ _ (HR3.out.on ((Below.refl _ _).alloc (Nat.le_refl _) _)) HRB.out HRG.out)
      have hz5 : bulk ([{ data := #[42, 42] }] ++ m) ≤ 1000 := by rw [bulk_append, bulk_one, z2]; omega
      clear HZ5
      obtain ⟨hk8, hf8⟩ := HR5.out
      have hx8 := HX5.out.cell
      have HZ := Lib.hid (endP HC0.out hwp (HO5.out.mono (by omega)) HC5.out HK5.out HR5.out)
      go_wp2_with fail
      refine bodyPost_ret (Ret.results_c rfl _ _ w.heap.size [_] rfl Row.aggPt (Ret.one HZ.out.1)) rfl ?_
      exact ⟨_, rfl, ⟨_, _, rfl, HZ.out.2.1, hz5⟩, HZ.out.2.2.1, HZ.out.2.2.2⟩
    · have h1b : ((r : Int) == 1) = false := beq_eq_false_iff_ne.2 (by omega)
      by_cases h2 : r = 2
      · subst h2
        have hbn : bulk m ≤ 100 + 2 * n := by omega
        have hnm2 : n ≤ 107 := by have := HN.out; have := Row.bulk_len m; omega
        have HI := Lib.hid HX.out.cell
        clear hm h1 h0 HBB
        go_wp2_with fail
        go_loopw [] (fun wr => ∃ (x : Option Addr) (n c : Nat) (m : List ByteArray), n ≤ 107 ∧ bulk m ≤ 100 + 2 * n ∧ lenAt wr g = n ∧ Hid (n = m.length) ∧ Hid (NC wr w.heap.size (.slice none 0 0)) ∧ Hid (Ret.Box wr g (.slice x n c) 26) ∧ Hid (OwnS (w.heap.size + 1) wr (.slice x n c) m) ∧ Hid (Cur w0 p v l wr) ∧ Hid (Keep p w wr)) (fun wr => 200 - lenAt wr g)
        case atStart => exact ⟨x, n, c, m, hnm2, hbn, lenAt_of HI.out, HN, HR, HX, HO, HC, HK⟩
        case round =>
          obtain ⟨x, n, c, m, hn7, hbn, hla, HN, HR, HX, HO, HC, HK⟩ := hrel
          have HLA := Lib.hid hla
          have hx := HX.out.cell
          have hdr : Below wr.heap.size wr wr.drew := (Below.refl _ _).drew
          have HCD := Lib.hid (HC.out.on hdr)
          have HKD := Lib.hid (HK.out.trans (Keep.of_below (p := p) hdr))
          have HRD := Lib.hid (HR.out.on hdr)
          have HXD := Lib.hid (HX.out.on hdr)
          have HOD := Lib.hid (HO.out.on hdr)
          clear hla hdr
          go_wp2_with fail
          go_region_held3 (fun w' => w'.cell? ⟨g, 0, none⟩ = some (.slice x n c)) (first | exact HXD.out.cell | exact hxc3) ((go_at_call 55; refine (below w0 p v l wr.drew 3 HCD.out).mono ?_; rintro e w3 ⟨y, rfl, ⟨q, rfl, hq, hq2⟩, hc3, hk3⟩; have hxc3 := (box_keep HXD.out hk3 hgp).cell))
          have hq := hq (by omega)
          replace HC := Lib.hid hc3
          replace HK := Lib.hid (HKD.out.trans hk3)
          replace HR := Lib.hid (NC.keep HRD.out hk3 hwp)
          replace HX := Lib.hid (box_keep HXD.out hk3 hgp)
          replace HO := Lib.hid (rown_keep HOD.out hk3 HPB.out)
          have HBB := Lib.hid (show w.heap.size + 1 ≤ w3.heap.size by have := HX.out.lt; omega)
          have hwq : IntKind.i64.wrap (5 + q) = 5 + q := by rw [IntKind.wrap_i64]; omega
          obtain ⟨q0, q1⟩ := hq
          clear hc3 hk3 hq2 hx
          rw [hwq]
          clear hwq
          by_cases hlt : (n : Int) < 5 + q
          · clear hxc3
            have HLM := Lib.hid (show (m.length + 1) * 16 ≤ 140737488355328 by have := Row.bulk_len m; omega)
            have HLX := Lib.hid (show m.length + 1 ≤ maxLen by have := Row.bulk_len m; unfold maxLen; omega)
            have hal : Below w3.heap.size w3 (w3.alloc (.cells #[.string ({ data := #[42] })] 9)) := (Below.refl _ _).alloc (Nat.le_refl _) _
            have HO3A := Lib.hid (HO.out.on hal); have HX3A := Lib.hid (HX.out.on hal); have HC3 := HC; have HK3 := HK
            have HR3 := HR
            have hB3 : w.heap.size + 1 ≤ (w3.alloc (.cells #[.string ({ data := #[42] })] 9)).heap.size := by have := HBB.out; have := HK.out.size; simp; omega
            clear hal
            have hxc := HX.out.cell
            go_wp2_with (at_builtin; refine Row.wpList_app (enc := Value.string) (B := w.heap.size + 1) (l := m) (m := [{ data := #[42] }]) rfl _ _ rfl Tryz.underlying24 elemSTR rfl rfl rfl HO3A.out (Row.holds_one Value.string 9 w3 _) oneStr HLM.out HLX.out hB3 ?_)
            intro v4 w4 ho4 hg4
            obtain ⟨x4, n4, c4, rfl, hn4, hcc4, ho4⟩ := ho4.shapeN
            have HO4 := Lib.hid ho4; have HG4 := Lib.hid hg4; have HN4 := Lib.hid hn4
            have HX4 := Lib.hid (HX3A.out.grown hg4 (Row.Own.notBox HO3A.out HX3A.out (by decide)))
            have hx4 := HX4.out.cell
            have hx5 := HX4.out.frozen
            clear ho4 hg4 hn4 hxc
            have HZ5 := Lib.hid (storeP HSZ.out HWB.out HGW.out HGP.out HPB.out (by decide) HO3A.out (HC3.out.on ((Below.refl _ _).alloc (Nat.le_refl _) _)) (HK3.out.trans (keep_alloc p w3 _)) HG4.out HO4.out HX4.out)
            have HO5 := Lib.hid HZ5.out.1; have HC5 := Lib.hid HZ5.out.2.1; have HK5 := Lib.hid HZ5.out.2.2.1; have HX5 := Lib.hid HZ5.out.2.2.2.1
            have HR5 := Lib.hid (HZ5.out.2.2.2.2.1 _ _ (HR3.out.on ((Below.refl _ _).alloc (Nat.le_refl _) _)) HRB.out HRG.out)
            have HNE := Lib.hid (show n4 = n + 1 by rw [HN4.out, List.length_append, HN.out]; rfl)
            have hbk : bulk (m ++ [{ data := #[42] }]) ≤ 100 + 2 * (n + 1) := by
              rw [bulk_append, bulk_one, z1]; omega
            clear HZ5
            go_wp2_with fail
            go_roundw
            case rel => exact ⟨x4, n4, c4, _, by rw [HNE.out]; omega, by rw [HNE.out]; exact hbk, lenAt_of HX5.out.cell, HN4, HR5, HX5, HO5, HC5, HK5⟩
            case measure => rw [lenAt_of HX5.out.cell, HLA.out, HNE.out]; omega
          · clear hxc3
            obtain ⟨hk8, hf8⟩ := HR.out
            have hx8 := HX.out.cell
            have HZ := Lib.hid (endP HC0.out hwp (HO.out.mono (by omega)) HC.out HK.out HR.out)
            go_wp2_with fail
            refine bodyPost_ret (Ret.results_c rfl _ _ w.heap.size [_] rfl Row.aggPt (Ret.one HZ.out.1)) rfl ?_
            exact ⟨_, rfl, ⟨_, _, rfl, HZ.out.2.1, by omega⟩, HZ.out.2.2.1, HZ.out.2.2.2⟩
      · have h2b : ((r : Int) == 2) = false := beq_eq_false_iff_ne.2 (by omega)
        clear h0 h1 h2
        obtain ⟨hk8, hf8⟩ := HR.out
        have hx8 := HX.out.cell
        have HZ := Lib.hid (endP HC0.out hwp (HO.out.mono (by omega)) HC.out HK.out HR.out)
        go_wp2_with fail
        refine bodyPost_ret (Ret.results_c rfl _ _ w.heap.size [_] rfl Row.aggPt (Ret.one HZ.out.1)) rfl ?_
        exact ⟨_, rfl, ⟨_, _, rfl, HZ.out.2.1, by omega⟩, HZ.out.2.2.1, HZ.out.2.2.2⟩

/-- Bindings of the call's own, so many and so great at most. -/
def BindsIn (B K : Nat) (x : Value) (w : World) : Prop := ∃ m, OwnK 88 encBd 2 B w x m ∧ bulk2 m ≤ K
end Go.Proofs.YtkojeajjappchaaGreat.Draw
/- Helpers for the model's draws of structs of names: slices of texts that lie in blocks which hold texts alone (holdS_set, holdS_keep), names out of texts. What was in memory stays as it was, but for the cursor. -/
namespace Go.Proofs.YtkojeajjappchaaGreat.Draw
open Go.ChangeShapes Go.WideShapes Go.ChangeAt Go.RowKit Go.Instr
open Go.Proofs.YtkojeajjappchaaGreat.Row (bulk bulk_append bulk_one bulk_nil bulk_cons)
open Go.Proofs.YtkojeajjappchaaGreat.Ret (NC Blk Box)
set_option linter.unusedVariables false
set_option maxRecDepth 100000

theorem Cur.setI {w0 : World} {p : Nat} {v : Value} {l : List UInt8} {w : World} (hc : Cur w0 p v l w) {g : Nat} (i : Nat) (hg : w0.heap.size ≤ g) (hp : g ≠ p) (u : Value) : Cur w0 p v l (w.setCell ⟨g, i, none⟩ u) :=
  hc.grown (Ret.grownBy_set w ⟨g, i, none⟩ u) (fun q hq => by
    have : q = g := by simpa using hq.symm
    exact ⟨by omega, by omega⟩)
theorem Keep.setI {p : Nat} {w w1 : World} (hk : Keep p w w1) {g : Nat} (i : Nat) (hg : w.heap.size ≤ g) (u : Value) : Keep p w (w1.setCell ⟨g, i, none⟩ u) :=
  hk.grown (Ret.grownBy_set w1 ⟨g, i, none⟩ u) (fun q hq => by
    have : q = g := by simpa using hq.symm
    omega)
theorem blk_keep {w w' : World} {g p : Nat} {cs : Array Value} {t : TypeId} (h : Blk w g cs t) (hk : Keep p w w') (hne : g ≠ p) : Blk w' g cs t := (hk.block g h.lt hne).trans h
/-- No cell is a text. -/
def NoStr (cs : Array Value) : Prop := ∀ (i : Nat) (s : ByteArray), cs[i]? ≠ some (.string s)
end Go.Proofs.YtkojeajjappchaaGreat.Draw
