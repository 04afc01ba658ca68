/- Contracts of the reference model's draws of chapter 6: tables, names, numbers. What was in memory stays as it was. -/
import Derived.Test.YtihcebjbkifbpaaDrawTab
namespace Go.Proofs.Ytihcebjbkifbpaa.Ret
variable {P : Program}
theorem results_tc {fn : Func} {p u : Tmp} {ty : TypeId} (h : fn.results = #[.tmp u, .cell p ty]) (tmps : Array Value) (w : World) (b : Nat) (cs : List Value) (hp : tmps.getD p undef = .pointer (some ⟨b, 0, none⟩))
    (ha : AggOf P ty cs.length) (hc : ∀ j v, cs[j]? = some v → w.cell? ⟨b, j, none⟩ = some v) : (results fn tmps).run P w = .ok (.tuple #[tmps.getD u undef, .agg cs.toArray]) w := by
  have hp' : tmps[p]?.getD undef = .pointer (some ⟨b, 0, none⟩) := by simpa using hp
  have hl := run_loadVar_cells (P := P) w b ty cs hc ha
  simp [results, h, hp', asAddr, hl, Result.andThen]
theorem results_tct {fn : Func} {p u u2 : Tmp} {ty : TypeId} (h : fn.results = #[.tmp u, .cell p ty, .tmp u2]) (tmps : Array Value) (w : World) (b : Nat) (cs : List Value) (hp : tmps.getD p undef = .pointer (some ⟨b, 0, none⟩))
    (ha : AggOf P ty cs.length) (hc : ∀ j v, cs[j]? = some v → w.cell? ⟨b, j, none⟩ = some v) : (results fn tmps).run P w = .ok (.tuple #[tmps.getD u undef, .agg cs.toArray, tmps.getD u2 undef]) w := by
  have hp' : tmps[p]?.getD undef = .pointer (some ⟨b, 0, none⟩) := by simpa using hp
  have hl := run_loadVar_cells (P := P) w b ty cs hc ha
  simp [results, h, hp', asAddr, hl, Result.andThen]
end Go.Proofs.Ytihcebjbkifbpaa.Ret
namespace Go.Proofs.Ytihcebjbkifbpaa.Draw
open Go.ChangeShapes Go.WideShapes Go.ChangeAt Go.RowKit Go.Instr
open Go.Proofs.Ytihcebjbkifbpaa.Row (bulk bulk_append bulk_one bulk_nil bulk_cons OwnK TabOwn elemSTR oneStr)
open Go.Proofs.Ytihcebjbkifbpaa.Ret (NC)
set_option linter.unusedVariables false
set_option maxRecDepth 100000

abbrev OwnS2 (B : Nat) (w : World) (u : Value) (m : List ByteArray) : Prop := Row.Own 9 Value.string B w u m
def QTN (w : World) (e : Ending) (w' : World) : Prop := ∃ x T u m, e = .returned (.tuple #[x, .agg #[u]]) ∧ TabOwn w.heap.size w' x T ∧ T.length ≤ 40 ∧ smD T ∧ OwnS2 w.heap.size w' u m ∧ bulk m ≤ 2000 ∧ Below w.heap.size w w'
def QTNI (w : World) (e : Ending) (w' : World) : Prop := ∃ x T u m, ∃ a : Int, e = .returned (.tuple #[x, .agg #[u], .int .i64 a]) ∧ TabOwn w.heap.size w' x T ∧ T.length ≤ 40 ∧ smD T ∧ OwnS2 w.heap.size w' u m ∧ bulk m ≤ 2000 ∧ 0 ≤ a ∧ a ≤ 8 ∧ Below w.heap.size w w'
def QTT (w : World) (e : Ending) (w' : World) : Prop := ∃ x T y U, e = .returned (.tuple #[x, y]) ∧ TabOwn w.heap.size w' x T ∧ T.length ≤ 40 ∧ smD T ∧ TabOwn w.heap.size w' y U ∧ U.length ≤ 40 ∧ smD U ∧ Below w.heap.size w w'

/-- A table is left by a store into a block below it. -/
theorem tab_low {B g : Nat} {w : World} {x : Value} {T : List (List ByteArray × Int)} (h : TabOwn B w x T) (hg : g < B) (y : Value) : TabOwn B (w.setCell ⟨g, 0, none⟩ y) x T := by
  obtain ⟨L, e, h⟩ := h
  refine ⟨L, e, h.onGrown (Ret.grownBy_set w ⟨g, 0, none⟩ y) (fun g' e' => ?_)⟩
  have e2 : g = g' := by simpa using e'
  subst e2
  exact ⟨fun e3 => by have := (h.lt.1 _ e3).1; omega, fun z hz e3 => by have := (h.lt.2 z hz _ e3).1; omega⟩
/-- A table is left by a store into a variable. -/
theorem tab_var {B g : Nat} {w : World} {x u : Value} {T : List (List ByteArray × Int)} (h : TabOwn B w x T) (hb : Ret.Box w g u 27) (y : Value) : TabOwn B (w.setCell ⟨g, 0, none⟩ y) x T := by
  obtain ⟨L, e, h⟩ := h
  refine ⟨L, e, h.onGrown (Ret.grownBy_set w ⟨g, 0, none⟩ y) (fun g' e' => ?_)⟩
  have e2 : g = g' := by simpa using e'
  subst e2
  exact ⟨fun e3 => h.1.notBox hb (by decide) e3.symm, fun z hz e3 => (h.2.1 z hz).notBox hb (by decide) e3.symm⟩
theorem endTN {w W : World} {x u : Value} {T : List (List ByteArray × Int)} {m : List ByteArray} (h1 : NC W w.heap.size (.slice none 0 0)) (hT : TabOwn (w.heap.size + 1) W x T) (ho : OwnS2 (w.heap.size + 1) W u m) (hb : Below w.heap.size w W) :
    (W.setCell ⟨w.heap.size, 0, none⟩ u).cell? ⟨w.heap.size, 0, none⟩ = some u ∧ TabOwn w.heap.size (W.setCell ⟨w.heap.size, 0, none⟩ u) x T ∧ OwnS2 w.heap.size (W.setCell ⟨w.heap.size, 0, none⟩ u) u m ∧ Below w.heap.size w (W.setCell ⟨w.heap.size, 0, none⟩ u) :=
  ⟨Ret.set_same h1.1, (tab_low hT (Nat.lt_succ_self _) u).mono (Nat.le_succ _), (ho.grown (Ret.grownBy_set _ _ u) (Row.nb ho (b := w.heap.size) (by omega))).mono (by omega), hb.setCell (p := ⟨w.heap.size, 0, none⟩) (Nat.le_refl _) _⟩

set_option maxHeartbeats 4000000 in
theorem drawEqualTables (w : World) (v : Value) (l : List UInt8) (hb : Frame.Bytes w v l) :
    Calls Try.prog 18 #[v] w (QTT w) := by
  have HN := Lib.hid (new w v l hb); clear hb
  go_enter Try.func18, Try.ntmps18
  go_wp2_with fail
  refine HN.out.mono ?_
  rintro e w1 ⟨rfl, hc⟩
  have hp1 := hc.lt
  have HD := Lib.hid (l6Any _ _ v l w1 hc); clear hc
  go_wp2_with fail
  refine HD.out.mono ?_
  rintro e w2 ⟨y, rfl, ⟨T, ho, hT, hs⟩, hc, hk⟩
  obtain ⟨x, n, c, rfl, -, -, ho⟩ := ho.shapeN
  have HO2 := Lib.hid ho; have HK2 := Lib.hid hk; have HS := Lib.hid hs
  have HC2 := Lib.hid hc
  have HE := Lib.hid (once _ _ v l w2 2 hc)
  clear ho hk hs hc HD
  go_wp2_with fail
  refine HE.out.mono ?_
  rintro e w3 ⟨y, rfl, ⟨b, rfl⟩, hc3, hk3⟩
  have HO3 := Lib.hid (tab_keep HO2.out hk3 hp1)
  have HC3 := Lib.hid hc3
  clear hc3 hk3 HE
  cases b with
  | true =>
    have HA := Lib.hid (Row.l6Copy _ T w3 HO3.out.holds (by omega) HS.out.smT)
    go_wp2_with fail
    refine HA.out.mono ?_
    rintro e w4 ⟨v4, rfl, ho4, hb4⟩
    have HO4 := Lib.hid (ho4.mono HC3.out.below.size)
    have HP4 := Lib.hid ((HO3.out.on hb4).mono (Nat.le_of_lt hp1))
    have HB4 := Lib.hid (HC3.out.below.trans (hb4.mono HC3.out.below.size))
    clear ho4 hb4
    go_wp2_with fail
    go_ret2
    exact ⟨_, T, _, T, rfl, HP4.out, hT, HS.out, HO4.out, hT, HS.out, HB4.out⟩
  | false =>
    have HA := Lib.hid (l6Any _ _ v l w3 HC3.out)
    go_wp2_with fail
    refine HA.out.mono ?_
    rintro e w4 ⟨y, rfl, ⟨U, ho4, hU, hs4⟩, hc4, hk4⟩
    have HO4 := Lib.hid (ho4.mono HC3.out.below.size)
    have HP4 := Lib.hid ((tab_keep HO3.out hk4 hp1).mono (Nat.le_of_lt hp1))
    have HS4 := Lib.hid hs4
    have HB4 := Lib.hid hc4.below
    clear ho4 hc4 hk4 hs4
    go_wp2_with fail
    go_ret2
    exact ⟨_, T, _, U, rfl, HP4.out, hT, HS.out, HO4.out, hU, HS4.out, HB4.out⟩

set_option maxHeartbeats 4000000 in
theorem drawEntriesUnder (w : World) (v : Value) (l : List UInt8) (hb : Frame.Bytes w v l) :
    Calls Try.prog 17 #[v] w (QTN w) := by
  have HAL := Lib.hid ((Below.refl w.heap.size w).alloc (Nat.le_refl _) (.cells #[.slice none 0 0] 27))
  have HR0 := Lib.hid (NC.new' (w := w) (.slice none 0 0) 27 rfl)
  have HN := Lib.hid (new (w.alloc (.cells #[.slice none 0 0] 27)) v l (hb.on HAL.out)); clear hb
  go_enter Try.func17, Try.ntmps17
  go_wp2_with fail
  refine HN.out.mono ?_
  rintro e w1 ⟨rfl, hc⟩
  have HR1 := Lib.hid (HR0.out.on hc.below)
  have hpz := hc.lt
  simp only [World.size_alloc] at hc hpz
  have HD := Lib.hid (l6Any _ _ v l w1 hc); clear hc
  go_wp2_with fail
  refine HD.out.mono ?_
  rintro e w2 ⟨y, rfl, ⟨T, ho, hT, hs⟩, hc, hk⟩
  obtain ⟨x, n, c, rfl, -, -, ho⟩ := ho.shapeN
  have HO2 := Lib.hid ho; have HS := Lib.hid hs
  have HR2 := Lib.hid (NC.keep HR1.out hk (by omega))
  have hz2 := hk.size
  have HE := Lib.hid (l4Name _ _ v l w2 hc)
  clear ho hk hs hc HD
  go_wp2_with fail
  refine HE.out.mono ?_
  rintro e w3 ⟨y, rfl, ⟨u, m, rfl, hou, hm⟩, hc3, hk3⟩
  obtain ⟨xu, nu, cu, rfl, -, -, hou⟩ := hou.shapeN
  have HR3 := Lib.hid (NC.keep HR2.out hk3 (by omega))
  have hr1 := HR3.out.1
  have hr2 := HR3.out.2
  have HQ := Lib.hid (endTN HR3.out ((tab_keep HO2.out hk3 hpz).mono (by omega)) (hou.mono (by omega)) (HAL.out.trans (hc3.below.mono (by simp))))
  clear hou hc3 hk3 HE
  go_wp2_with fail
  refine bodyPost_ret (Ret.results_tc rfl _ _ w.heap.size [_] rfl Row.aggN (Ret.one HQ.out.1)) rfl ?_
  exact ⟨_, T, _, m, rfl, HQ.out.2.1, hT, HS.out, HQ.out.2.2.1, by omega, HQ.out.2.2.2⟩

set_option maxHeartbeats 4000000 in
theorem drawPutEntry (w : World) (v : Value) (l : List UInt8) (hb : Frame.Bytes w v l) :
    Calls Try.prog 12 #[v] w (QTNI w) := by
  have HAL := Lib.hid ((Below.refl w.heap.size w).alloc (Nat.le_refl _) (.cells #[.slice none 0 0] 27))
  have HR0 := Lib.hid (NC.new' (w := w) (.slice none 0 0) 27 rfl)
  have HN := Lib.hid (new (w.alloc (.cells #[.slice none 0 0] 27)) v l (hb.on HAL.out)); clear hb
  go_enter Try.func12, Try.ntmps12
  go_wp2_with fail
  refine HN.out.mono ?_
  rintro e w1 ⟨rfl, hc⟩
  have HR1 := Lib.hid (HR0.out.on hc.below)
  have hpz := hc.lt
  simp only [World.size_alloc] at hc hpz
  have HD := Lib.hid (l6Any _ _ v l w1 hc); clear hc
  go_wp2_with fail
  refine HD.out.mono ?_
  rintro e w2 ⟨y, rfl, ⟨T, ho, hT, hs⟩, hc, hk⟩
  obtain ⟨x, n, c, rfl, -, -, ho⟩ := ho.shapeN
  have HO2 := Lib.hid ho; have HS := Lib.hid hs
  have HR2 := Lib.hid (NC.keep HR1.out hk (by omega))
  have hz2 := hk.size
  have HE := Lib.hid (l4Any _ _ v l w2 hc)
  clear ho hk hs hc HD
  go_wp2_with fail
  refine HE.out.mono ?_
  rintro e w3 ⟨y, rfl, ⟨u, m, rfl, hou, hm⟩, hc3, hk3⟩
  obtain ⟨xu, nu, cu, rfl, -, -, hou⟩ := hou.shapeN
  have hz3 := hk3.size
  have hpc := hc3.lt
  have hal : Below w3.heap.size w3 (w3.alloc (.cells #[.slice xu nu cu] 27)).drew := ((Below.refl _ _).alloc (Nat.le_refl _) _).drew
  have HCA := Lib.hid (hc3.on hal)
  have HRA := Lib.hid ((NC.keep HR2.out hk3 (by omega)).on hal)
  have HOA := Lib.hid ((tab_keep HO2.out hk3 hpz).on hal)
  have HUA := Lib.hid (hou.on hal)
  have HXA := Lib.hid ((Ret.Box.new' (w := w3) (n := w3.heap.size) (.slice xu nu cu) 27 rfl).on ((Below.refl _ _).drew))
  clear hal hou hc3 hk3 HE
  go_wp2_with fail
  have hww : ¬ w3.heap.size = w.heap.size := by omega
  go_region_held3 (fun w' => w'.cell? ⟨w3.heap.size, 0, none⟩ = some (.slice xu nu cu)) (first | exact HXA.out.cell | exact hx4 | exact hxs) ((go_at_call 46; refine (below _ _ v l (w3.alloc (.cells #[.slice xu nu cu] 27)).drew 9 HCA.out).mono ?_; rintro e w4 ⟨y, rfl, ⟨q, rfl, hq, hq2⟩, hc4, hk4⟩; have HX4 := Lib.hid (box_keep HXA.out hk4 (by omega)); have HR4 := Lib.hid (NC.keep HRA.out hk4 (by omega)); have hx4 := HX4.out.cell; have hr4 := HR4.out.1; have hr5 := HR4.out.2; have hxs := (HX4.out.grown (Ret.grownBy_set w4 ⟨w.heap.size, 0, none⟩ (.slice xu nu cu)) (by simp; omega)).cell))
  all_goals
    have hq := hq (by omega)
    have HQ := Lib.hid (endTN HR4.out ((tab_keep HOA.out hk4 hpz).mono (by omega)) ((rown_keep HUA.out hk4 (by omega)).mono (by omega)) (HAL.out.trans (hc4.below.mono (by simp))))
    clear hx4 hr4 hr5 hxs hc4 hk4
    go_wp2_with fail
    refine bodyPost_ret (Ret.results_tct rfl _ _ w.heap.size [_] rfl Row.aggN (Ret.one HQ.out.1)) rfl ?_
    exact ⟨_, T, _, m, q, rfl, HQ.out.2.1, hT, HS.out, HQ.out.2.2.1, by omega, by omega, by omega, HQ.out.2.2.2⟩

theorem name_var {B g : Nat} {w : World} {x u : Value} {m : List ByteArray} (h : OwnS2 B w x m) (hb : Ret.Box w g u 27) (y : Value) : OwnS2 B (w.setCell ⟨g, 0, none⟩ y) x m :=
  h.grown (Ret.grownBy_set w ⟨g, 0, none⟩ y) (Or.inr fun e => h.notBox hb (by decide) e.symm)

set_option maxHeartbeats 8000000 in
theorem l6Pair (w : World) (v : Value) (l : List UInt8) (hb : Frame.Bytes w v l) :
    Calls Try.prog 55 #[v] w (QTN w) := by
  have HAL := Lib.hid ((Below.refl w.heap.size w).alloc (Nat.le_refl _) (.cells #[.slice none 0 0] 27))
  have HR0 := Lib.hid (NC.new' (w := w) (.slice none 0 0) 27 rfl)
  have HN := Lib.hid (new (w.alloc (.cells #[.slice none 0 0] 27)) v l (hb.on HAL.out)); clear hb
  go_enter Try.func55, Try.ntmps55
  go_wp2_with fail
  refine HN.out.mono ?_
  rintro e w1 ⟨rfl, hc⟩
  have HR1 := Lib.hid (HR0.out.on hc.below)
  have hpz := hc.lt
  simp only [World.size_alloc] at hc hpz
  have HD := Lib.hid (l6Any _ _ v l w1 hc); clear hc
  go_wp2_with fail
  refine HD.out.mono ?_
  rintro e w2 ⟨y, rfl, ⟨T, ⟨L, hLT, ho⟩, hT, hs⟩, hc, hk⟩
  obtain ⟨x, n, c, rfl, hn, -, ho⟩ := ho.shapeN
  have HT := Lib.hid hLT
  have hT' : n ≤ 40 := by rw [hn, ← Row.strip_length, hLT]; exact hT
  have HNL := Lib.hid hn
  have HO2 := Lib.hid ho; have HS := Lib.hid hs
  have HR2 := Lib.hid (NC.keep HR1.out hk (by omega))
  have HC2 := Lib.hid hc
  have hz2 := hk.size
  clear ho hk hs hc HD hLT hn
  by_cases hn0 : n = 0
  · subst hn0
    have HE := Lib.hid (l4Any _ _ v l w2 HC2.out)
    go_wp2_with fail
    refine HE.out.mono ?_
    rintro e w3 ⟨y, rfl, ⟨u, m, rfl, hou, hm⟩, hc3, hk3⟩
    obtain ⟨xu, nu, cu, rfl, -, -, hou⟩ := hou.shapeN
    have HR3 := Lib.hid (NC.keep HR2.out hk3 (by omega))
    have hr1 := HR3.out.1
    have hr2 := HR3.out.2
    have HQ := Lib.hid (endTN HR3.out ((tab_keep ⟨L, HT.out, HO2.out⟩ hk3 hpz).mono (by omega)) (hou.mono (by omega)) (HAL.out.trans (hc3.below.mono (by simp))))
    clear hou hc3 hk3 HE
    go_wp2_with fail
    refine bodyPost_ret (Ret.results_tc rfl _ _ w.heap.size [_] rfl Row.aggN (Ret.one HQ.out.1)) rfl ?_
    exact ⟨_, T, _, m, rfl, HQ.out.2.1, hT, HS.out, HQ.out.2.2.1, by omega, HQ.out.2.2.2⟩
  · have hn1 : decide ((0 : Int) < (n : Int)) = true := by simp; omega
    have HE := Lib.hid (once _ _ v l w2 2 HC2.out)
    go_wp2_with fail
    refine HE.out.mono ?_
    rintro e w3 ⟨y, rfl, ⟨b, rfl⟩, hc3, hk3⟩
    have HO3 := Lib.hid (tabo_keep HO2.out hk3 hpz)
    have HR3 := Lib.hid (NC.keep HR2.out hk3 (by omega))
    have HC3 := Lib.hid hc3
    have hz3 := hk3.size
    clear hc3 hk3 HE
    cases b with
    | false =>
      have HE := Lib.hid (l4Any _ _ v l w3 HC3.out)
      go_wp2_with fail
      refine HE.out.mono ?_
      rintro e w4 ⟨y, rfl, ⟨u, m, rfl, hou, hm⟩, hc4, hk4⟩
      obtain ⟨xu, nu, cu, rfl, -, -, hou⟩ := hou.shapeN
      have HR4 := Lib.hid (NC.keep HR3.out hk4 (by omega))
      have hr1 := HR4.out.1
      have hr2 := HR4.out.2
      have HQ := Lib.hid (endTN HR4.out ((tab_keep ⟨L, HT.out, HO3.out⟩ hk4 hpz).mono (by omega)) (hou.mono (by omega)) (HAL.out.trans (hc4.below.mono (by simp))))
      clear hou hc4 hk4 HE
      go_wp2_with fail
      refine bodyPost_ret (Ret.results_tc rfl _ _ w.heap.size [_] rfl Row.aggN (Ret.one HQ.out.1)) rfl ?_
      exact ⟨_, T, _, m, rfl, HQ.out.2.1, hT, HS.out, HQ.out.2.2.1, by omega, HQ.out.2.2.2⟩
    | true =>
      have HE := Lib.hid (below _ _ v l w3 (n : Int) HC3.out)
      go_wp2_with fail
      refine HE.out.mono ?_
      rintro e w4 ⟨y, rfl, ⟨k, rfl, hq, _⟩, hc4, hk4⟩
      have hq := hq (by omega)
      obtain ⟨k, rfl⟩ := Int.eq_ofNat_of_zero_le hq.1
      have hkn : k < n := by omega
      have hkL : k < L.length := by have := HNL.out; omega
      have HO4 := Lib.hid (tabo_keep HO3.out hk4 hpz)
      obtain ⟨b4, off4, hx4, hcl, -, hnm⟩ := HO4.out.holds.at hkL
      subst hx4
      have HNM := Lib.hid hnm
      have HBK := Lib.hid (show bulk (Row.nth L k).ps ≤ 1000 from HS.out (Row.nth L k).t (by rw [← HT.out]; exact Row.strip_mem (Row.nth_mem hkL)))
      have HR4 := Lib.hid (NC.keep HR3.out hk4 (by omega))
      have HC4 := Lib.hid hc4
      have hz4 := hk4.size
      clear hc4 hk4 HE hnm hkL
      go_wp2_with fail
      refine (Row.l4Copy _ (Row.nth L k).ps w4 HNM.out (Nat.le_trans (Row.bigLen HBK.out) (by decide))).mono ?_
      rintro e w5 ⟨v5, rfl, ho5, hb5⟩
      obtain ⟨x5, n5, c5, rfl, hn5, -, ho5⟩ := ho5.shapeN
      have hn5' : n5 ≤ 1000 := by rw [hn5]; exact Row.bigLen HBK.out
      have HN5 := Lib.hid hn5
      have HRW := Lib.hid (show ∀ g', (Value.slice x5 n5 c5).ownBlock = some g' → (Value.slice (some ⟨b4, off4, none⟩) n c).ownBlock ≠ some g' ∧ ∀ y ∈ L, y.v.ownBlock ≠ some g' from fun g' e' => by
        have h5 := (ho5.lt g' e').1
        exact ⟨fun e => by have := (HO4.out.lt.1 g' e).2; omega, fun y hy e => by have := (HO4.out.lt.2 y hy g' e).2; omega⟩)
      have hal : Below w5.heap.size w5 (w5.alloc (.cells #[.slice x5 n5 c5] 27)) := (Below.refl _ _).alloc (Nat.le_refl _) _
      have HX5 := Lib.hid (Ret.Box.new' (w := w5) (n := w5.heap.size) (.slice x5 n5 c5) 27 rfl)
      have HO5 := Lib.hid ((HO4.out.on hb5).on hal)
      have HU5 := Lib.hid (ho5.on hal)
      have HR5 := Lib.hid ((HR4.out.on hb5).on hal)
      have HC5 := Lib.hid ((HC4.out.on hb5).on hal)
      have hz5 := hb5.size
      clear ho5 hb5 hal hn5 hcl
      have HE := Lib.hid (once _ _ v l _ 2 HC5.out)
      obtain ⟨g, hg⟩ : ∃ g, g = w5.heap.size := ⟨_, rfl⟩
      have hgp : g ≠ w.heap.size + 1 := by omega
      have hgr : ¬ g = w.heap.size := by omega
      have hgw : w.heap.size ≤ g := by omega
      go_wp2_with fail
      rw [← hg] at HX5 ⊢
      clear hg
      refine HE.out.mono ?_
      rintro e w6 ⟨y, rfl, ⟨b, rfl⟩, hc6, hk6⟩
      have HX6 := Lib.hid (box_keep HX5.out hk6 hgp)
      have HOL6 := Lib.hid (show Row.TabO (w.heap.size + 2) w6 (.slice (some ⟨b4, off4, none⟩) n c) L from (tabo_keep HO5.out hk6 hpz).mono (by omega))
      have HO6 := Lib.hid (show TabOwn (w.heap.size + 2) w6 (.slice (some ⟨b4, off4, none⟩) n c) T from ⟨L, HT.out, HOL6.out⟩)
      have HU6 := Lib.hid (show OwnS2 (w.heap.size + 2) w6 (.slice x5 n5 c5) (Row.nth L k).ps from (rown_keep HU5.out hk6 (by omega)).mono (by omega))
      have HR6 := Lib.hid (NC.keep HR5.out hk6 (by omega))
      have hz6 := hk6.size
      have HC6 := Lib.hid hc6
      clear hc6 hk6 HE
      cases b with
      | false =>
        have hx6 := HX6.out.cell
        have hx6d : w6.drew.cell? ⟨g, 0, none⟩ = some (.slice x5 n5 c5) := hx6
        have hr6 := HR6.out.1
        have hr7 := HR6.out.2
        have hr6d : w6.drew.cell? ⟨w.heap.size, 0, none⟩ = some (.slice none 0 0) := hr6
        have hr7d : w6.drew.frozen? ⟨w.heap.size, 0, none⟩ = false := hr7
        have HQ := Lib.hid (endTN (HR6.out.on (Below.refl _ _).drew) ((HO6.out.on (Below.refl _ _).drew).mono (by omega)) ((HU6.out.on (Below.refl _ _).drew).mono (by omega)) ((HAL.out.trans (HC6.out.below.mono (by simp))).drew))
        go_wp2_with fail
        go_region
        all_goals
          go_wp2_with fail
          refine bodyPost_ret (Ret.results_tc rfl _ _ w.heap.size [_] rfl Row.aggN (Ret.one HQ.out.1)) rfl ?_
          exact ⟨_, T, _, _, rfl, HQ.out.2.1, hT, HS.out, HQ.out.2.2.1, Nat.le_trans HBK.out (by decide), HQ.out.2.2.2⟩
      | true =>
        have hx6 := HX6.out.cell
        have hz7 : w.heap.size + 2 ≤ w6.heap.size := by have := hz6; rw [World.size_alloc] at this; omega
        have hal : Below w6.heap.size w6 (w6.alloc (.cells #[.string { data := #[113] }] 9)) := (Below.refl _ _).alloc (Nat.le_refl _) _
        have HXA := Lib.hid (HX6.out.on hal)
        have HUA := Lib.hid (HU6.out.on hal)
        have HOA := Lib.hid (HOL6.out.on hal)
        have HRA := Lib.hid (HR6.out.on hal)
        have HBA := Lib.hid ((HAL.out.trans (HC6.out.below.mono (by simp))).trans (hal.mono (by omega)))
        have HLM := Lib.hid (show ((Row.nth L k).ps.length + ([{ data := #[113] }] : List ByteArray).length) * 16 ≤ 140737488355328 by rw [← HN5.out]; simp; omega)
        have HLX := Lib.hid (show (Row.nth L k).ps.length + ([{ data := #[113] }] : List ByteArray).length ≤ maxLen by rw [← HN5.out]; unfold maxLen; simp; omega)
        have HSB := Lib.hid (show w.heap.size + 2 ≤ (w6.alloc (.cells #[.string { data := #[113] }] 9)).heap.size by simp; omega)
        clear hal
        go_wp2_with (at_builtin; refine Row.wpList_app (enc := Value.string) (B := w.heap.size + 2) (l := (Row.nth L k).ps) (m := [{ data := #[113] }]) rfl _ _ rfl Try.underlying25 elemSTR rfl rfl rfl HUA.out (Row.holds_one Value.string 9 w6 _) oneStr HLM.out HLX.out HSB.out ?_)
        intro v7 w7 ho7 hg7
        obtain ⟨x7, n7, c7, rfl, -, -, ho7⟩ := ho7.shapeN
        have HX7 := Lib.hid (HXA.out.grown hg7 (Row.Own.notBox HUA.out HXA.out (by decide)))
        have HO7 := Lib.hid (show TabOwn (w.heap.size + 2) w7 (.slice (some ⟨b4, off4, none⟩) n c) T from ⟨L, HT.out, HOA.out.onGrown hg7 HRW.out⟩)
        have HR7 := Lib.hid (NC.grown HRA.out hg7 (fun e => by have := (HUA.out.lt _ e.symm).1; omega))
        have HB7 := Lib.hid (HBA.out.grown hg7 HBA.out.size (fun g' e' => by have := (HUA.out.lt _ e').1; omega))
        have HU7 := Lib.hid ho7
        have hx7 := HX7.out.cell
        have hx7f := HX7.out.frozen
        have HX8 := Lib.hid (Ret.Box.set HX7.out (.slice x7 n7 c7))
        have HO8 := Lib.hid (tab_var HO7.out HX7.out (.slice x7 n7 c7))
        have HU8 := Lib.hid (name_var HU7.out HX7.out (.slice x7 n7 c7))
        have HR8 := Lib.hid (HR7.out.other (a := ⟨g, 0, none⟩) hgr (.slice x7 n7 c7))
        have HB8 := Lib.hid (HB7.out.setCell (p := ⟨g, 0, none⟩) hgw (.slice x7 n7 c7))
        have HZ := Lib.hid (show bulk ((Row.nth L k).ps ++ [{ data := #[113] }]) ≤ 2000 by
          rw [bulk_append, bulk_one]
          have h1 := HBK.out
          have h2 : ({ data := #[113] } : ByteArray).size = 1 := rfl
          omega)
        have hx8 := HX8.out.cell
        have hx8d : (w7.setCell ⟨g, 0, none⟩ (.slice x7 n7 c7)).drew.cell? ⟨g, 0, none⟩ = some (.slice x7 n7 c7) := hx8
        have hr8 := HR8.out.1
        have hr9 := HR8.out.2
        have hr8d : (w7.setCell ⟨g, 0, none⟩ (.slice x7 n7 c7)).drew.cell? ⟨w.heap.size, 0, none⟩ = some (.slice none 0 0) := hr8
        have hr9d : (w7.setCell ⟨g, 0, none⟩ (.slice x7 n7 c7)).drew.frozen? ⟨w.heap.size, 0, none⟩ = false := hr9
        have HQ := Lib.hid (endTN (HR8.out.on (Below.refl _ _).drew) ((HO8.out.on (Below.refl _ _).drew).mono (by omega)) ((HU8.out.on (Below.refl _ _).drew).mono (by omega)) (HB8.out.drew))
        clear ho7 hg7
        go_wp2_with fail
        go_region
        all_goals
          go_wp2_with fail
          refine bodyPost_ret (Ret.results_tc rfl _ _ w.heap.size [_] rfl Row.aggN (Ret.one HQ.out.1)) rfl ?_
          exact ⟨_, T, _, _, rfl, HQ.out.2.1, hT, HS.out, HQ.out.2.2.1, HZ.out, HQ.out.2.2.2⟩

set_option maxHeartbeats 2000000 in
theorem drawLookupEntry (w : World) (v : Value) (l : List UInt8) (hb : Frame.Bytes w v l) :
    Calls Try.prog 19 #[v] w (QTN w) := by
  have HAL := Lib.hid ((Below.refl w.heap.size w).alloc (Nat.le_refl _) (.cells #[.slice none 0 0] 27))
  have HR0 := Lib.hid (NC.new' (w := w) (.slice none 0 0) 27 rfl)
  have HN := Lib.hid (l6Pair (w.alloc (.cells #[.slice none 0 0] 27)) v l (hb.on HAL.out)); clear hb
  go_enter Try.func19, Try.ntmps19
  go_wp2_with fail
  refine HN.out.mono ?_
  rintro e w1 ⟨x, T, u, m, rfl, ho, hT, hs, hou, hm, hb1⟩
  obtain ⟨xx, n, c, rfl, -, -, ho⟩ := ho.shapeN
  obtain ⟨xu, nu, cu, rfl, -, -, hou⟩ := hou.shapeN
  have HS := Lib.hid hs
  have HR1 := Lib.hid (HR0.out.on hb1)
  have hr1 := HR1.out.1
  have hr2 := HR1.out.2
  have HQ := Lib.hid (endTN HR1.out (ho.mono (by simp)) (hou.mono (by simp)) (HAL.out.trans (hb1.mono (by simp))))
  clear ho hou hb1 hs HN
  go_wp2_with fail
  refine bodyPost_ret (Ret.results_tc rfl _ _ w.heap.size [_] rfl Row.aggN (Ret.one HQ.out.1)) rfl ?_
  exact ⟨_, T, _, m, rfl, HQ.out.2.1, hT, HS.out, HQ.out.2.2.1, hm, HQ.out.2.2.2⟩

set_option maxHeartbeats 2000000 in
theorem drawRemoveEntry (w : World) (v : Value) (l : List UInt8) (hb : Frame.Bytes w v l) :
    Calls Try.prog 16 #[v] w (QTN w) := by
  have HAL := Lib.hid ((Below.refl w.heap.size w).alloc (Nat.le_refl _) (.cells #[.slice none 0 0] 27))
  have HR0 := Lib.hid (NC.new' (w := w) (.slice none 0 0) 27 rfl)
  have HN := Lib.hid (l6Pair (w.alloc (.cells #[.slice none 0 0] 27)) v l (hb.on HAL.out)); clear hb
  go_enter Try.func16, Try.ntmps16
  go_wp2_with fail
  refine HN.out.mono ?_
  rintro e w1 ⟨x, T, u, m, rfl, ho, hT, hs, hou, hm, hb1⟩
  obtain ⟨xx, n, c, rfl, -, -, ho⟩ := ho.shapeN
  obtain ⟨xu, nu, cu, rfl, -, -, hou⟩ := hou.shapeN
  have HS := Lib.hid hs
  have HR1 := Lib.hid (HR0.out.on hb1)
  have hr1 := HR1.out.1
  have hr2 := HR1.out.2
  have HQ := Lib.hid (endTN HR1.out (ho.mono (by simp)) (hou.mono (by simp)) (HAL.out.trans (hb1.mono (by simp))))
  clear ho hou hb1 hs HN
  go_wp2_with fail
  refine bodyPost_ret (Ret.results_tc rfl _ _ w.heap.size [_] rfl Row.aggN (Ret.one HQ.out.1)) rfl ?_
  exact ⟨_, T, _, m, rfl, HQ.out.2.1, hT, HS.out, HQ.out.2.2.1, hm, HQ.out.2.2.2⟩

set_option maxHeartbeats 2000000 in
theorem drawLongestPrefix (w : World) (v : Value) (l : List UInt8) (hb : Frame.Bytes w v l) :
    Calls Try.prog 15 #[v] w (QTN w) := by
  have HAL := Lib.hid ((Below.refl w.heap.size w).alloc (Nat.le_refl _) (.cells #[.slice none 0 0] 27))
  have HR0 := Lib.hid (NC.new' (w := w) (.slice none 0 0) 27 rfl)
  have HN := Lib.hid (l6Pair (w.alloc (.cells #[.slice none 0 0] 27)) v l (hb.on HAL.out)); clear hb
  go_enter Try.func15, Try.ntmps15
  go_wp2_with fail
  refine HN.out.mono ?_
  rintro e w1 ⟨x, T, u, m, rfl, ho, hT, hs, hou, hm, hb1⟩
  obtain ⟨xx, n, c, rfl, -, -, ho⟩ := ho.shapeN
  obtain ⟨xu, nu, cu, rfl, -, -, hou⟩ := hou.shapeN
  have HS := Lib.hid hs
  have HR1 := Lib.hid (HR0.out.on hb1)
  have hr1 := HR1.out.1
  have hr2 := HR1.out.2
  have HQ := Lib.hid (endTN HR1.out (ho.mono (by simp)) (hou.mono (by simp)) (HAL.out.trans (hb1.mono (by simp))))
  clear ho hou hb1 hs HN
  go_wp2_with fail
  refine bodyPost_ret (Ret.results_tc rfl _ _ w.heap.size [_] rfl Row.aggN (Ret.one HQ.out.1)) rfl ?_
  exact ⟨_, T, _, m, rfl, HQ.out.2.1, hT, HS.out, HQ.out.2.2.1, hm, HQ.out.2.2.2⟩

end Go.Proofs.Ytihcebjbkifbpaa.Draw
