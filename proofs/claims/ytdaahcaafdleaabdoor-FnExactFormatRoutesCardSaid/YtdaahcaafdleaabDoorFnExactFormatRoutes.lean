/- FormatRoutes answers as its model for all lists of routes, and writes into no argument. No conditions. -/
import Derived.Test.YtdaahcaafdleaabDoorCards
import Derived.Test.YtdaahcaafdleaabDoorTie
import Derived.WalkKit
import Derived.ProofKit
import Derived.OpenShut
import Derived.SizedLaws
import Derived.LaidMore
import Derived.Stop.Joined
import Derived.Stop.LaidErr
import Derived.Lib.LaidTab
import Derived.SevenTiedAt
import Derived.Test.YtdaahcaafdleaabDoorB1
import Derived.Test.YtdaahcaafdleaabDoorB2
namespace Go.Proofs.YtdaahcaafdleaabDoor.fnExactFormatRoutes
open Go.ChangeShapes Go.WideShapes Go.ChangeAt Go.RowKit
open Go.ChangeMaps (open_string shut_string)
set_option linter.unusedVariables false

theorem own : ownKnob Tryd.prog.godebug = none := by kernel_rfl
theorem laidOut : laidOutB Tryd.prog = true := by kernel_rfl

set_option maxRecDepth 100000 in
set_option maxHeartbeats 4000000 in
theorem walk (w : World) (y0 : Value) (l0 : List Row.Rtt) (q0 : Row.kLRt.At w y0 l0) (n0 : Row.inLRt l0) (m0 : Row.inLRt l0) (ht : Text.Tab w) :
    Calls Tryd.prog 3 #[y0] w fun e w' => e = .returned (.bool true) ∧ Below w.heap.size w w' := by
  have HT := Lib.hid ht; clear ht
  obtain ⟨x_q0, n_q0, c_q0, rfl, q0⟩ := Row.kLRt_shapeA q0
  have Q0 := Lib.hid q0; have N0 := Lib.hid n0; clear q0 n0
  have BB := Lib.hid (Below.refl w.heap.size w)
  go_enter Tryd.func3, Tryd.ntmps3
  go_wp2_with fail
  refine (Row.szLRtK _ l0 _ (1048576) (Q0.out.on BB.out) m0 N0.out (by omega) (by omega)).mono ?_
  rintro e w1 ⟨rfl, hb⟩
  replace BB := Lib.hid (BB.out.trans (hb.mono BB.out.size))
  have S1 := Lib.hid (show w.heap.size ≤ w1.heap.size from (by have h := hb.size; exact h))
  clear hb
  by_cases t0 : (Row.bulkK Row.wtRt l0 : Int) ≤ 1048576
  · -- in
    rw [Row.szW_fit t0]
    have b0 : Row.bulkK Row.wtRt l0 ≤ 1048576 := by omega
    have d0 : Row.adLRt (l0) ≤ 1048576 := Row.adLRt_big b0
    have g0 : ¬ 1048576 - (Row.bulkK Row.wtRt l0 : Int) < 0 := by omega
    go_wp2_with fail
    refine (Row.toLRtK _ l0 _ (Q0.out.on BB.out) (by omega)).mono ?_
    rintro e w2 ⟨v1, rfl, ho, hb⟩
    obtain ⟨x_v1, n_v1, c_v1, rfl, ho⟩ := Row.kLRt_shape ho
    replace BB := Lib.hid (BB.out.trans (hb.mono BB.out.size))
    have S2 := Lib.hid (show w1.heap.size ≤ w2.heap.size from (by have h := hb.size; exact h))
    have O_v1 := Lib.hid (show Row.kLRt.In w1.heap.size w2.heap.size w2 (.slice x_v1 n_v1 c_v1) (l0) from ho); clear ho
    clear hb
    go_wp2_with fail
    refine (Row.specFormatRoutes _ (l0) _ (O_v1.out.at) (show Row.bulkK Row.wtRt (l0) ≤ 1100000 by omega) (fun x hx => (N0.out.2 x hx).2)).mono ?_
    rintro e w3 ⟨rfl, hb⟩
    replace O_v1 := Lib.hid (O_v1.out.on hb)
    replace BB := Lib.hid (BB.out.trans (hb.mono BB.out.size))
    have S3 := Lib.hid (show w2.heap.size ≤ w3.heap.size from (by have h := hb.size; exact h))
    clear hb
    go_wp2_with fail
    clear O_v1
    refine (Row.toLRtK _ l0 _ (Q0.out.on BB.out) (by omega)).mono ?_
    rintro e w4 ⟨v2, rfl, ho, hb⟩
    obtain ⟨x_v2, n_v2, c_v2, rfl, ho⟩ := Row.kLRt_shape ho
    replace BB := Lib.hid (BB.out.trans (hb.mono BB.out.size))
    have S4 := Lib.hid (show w3.heap.size ≤ w4.heap.size from (by have h := hb.size; exact h))
    have O_v2 := Lib.hid (show Row.kLRt.In w3.heap.size w4.heap.size w4 (.slice x_v2 n_v2 c_v2) (l0) from ho); clear ho
    clear hb
    go_wp2_with fail
    refine (Row.implFormatRoutes _ (l0) _ (O_v2.out.at) (show Row.bulkK Row.wtRt (l0) ≤ 1100000 by omega) (fun x hx => (N0.out.2 x hx).2) (HT.out.on BB.out)).mono ?_
    rintro e w5 ⟨rfl, hb⟩
    replace O_v2 := Lib.hid (O_v2.out.on hb)
    replace BB := Lib.hid (BB.out.trans (hb.mono BB.out.size))
    have S5 := Lib.hid (show w4.heap.size ≤ w5.heap.size from (by have h := hb.size; exact h))
    clear hb
    go_wp2_with fail
    refine (Row.toLRtK _ l0 _ (Q0.out.on BB.out) (by omega)).mono ?_
    rintro e w6 ⟨v3, rfl, ho, hb⟩
    obtain ⟨x_v3, n_v3, c_v3, rfl, ho⟩ := Row.kLRt_shape ho
    replace O_v2 := Lib.hid (O_v2.out.on hb)
    replace BB := Lib.hid (BB.out.trans (hb.mono BB.out.size))
    have S6 := Lib.hid (show w5.heap.size ≤ w6.heap.size from (by have h := hb.size; exact h))
    have O_v3 := Lib.hid (show Row.kLRt.In w5.heap.size w6.heap.size w6 (.slice x_v3 n_v3 c_v3) (l0) from ho); clear ho
    clear hb
    go_wp2_with fail
    refine (Row.eqLRtK _ _ (l0) _ (O_v2.out.at) (O_v3.out.at) (by first | omega | (simp; omega) | (simp [Row.marks_length, Sl.marks_length, Row.mkW]; omega))).mono ?_
    rintro e w7 ⟨rfl, hb⟩
    replace O_v2 := Lib.hid (O_v2.out.on hb)
    replace O_v3 := Lib.hid (O_v3.out.on hb)
    replace BB := Lib.hid (BB.out.trans (hb.mono BB.out.size))
    have S7 := Lib.hid (show w6.heap.size ≤ w7.heap.size from (by have h := hb.size; exact h))
    clear hb
    go_wp2_with fail
    clear O_v3
    go_ret
    exact ⟨rfl, BB.out⟩
  · -- out
    rw [Row.szW_not (by omega)]
    go_wp2
    go_ret
    exact ⟨rfl, BB.out⟩

/-- The heap that the initialisers' own run leaves meets the list. -/
theorem door_met (os : Os) (args : Array Value) : laidMetH Tryd.prog Rows.fnExactFormatRoutesRow.laid ((World.doorLaid Tryd.prog 24 os).forCall (fun _ _ => 0) ⟨#[], args, []⟩).memory :=
  laidMetH_of_parts3 (fuel := 8) (laidMet_of_run' 8 (by kernel_rfl) (by kernel_rfl)) (by kernel_rfl) (by kernel_rfl)

theorem powData : (Rows.laid_internal_strconv_uint64pow10 : DataW Unit) = Lib.tabData .u64 Lib.pow10Tab := by kernel_rfl
theorem of_laid {W : World} (h : laidMetH Tryd.prog Rows.fnExactFormatRoutesRow.laid W) : Text.Tab W := by
  rw [MakeChecks.laidMetH_plain _ _ _ (by kernel_rfl)] at h
  have h2 : laidMet Tryd.prog (("internal/strconv.uint64pow10", Rows.laid_internal_strconv_uint64pow10) :: _) W := h.tail.tail
  rw [powData] at h2
  exact Lib.tabIs_of_head (g := 1) (by kernel_rfl) (by kernel_rfl) Tryd.underlying72 Tryd.underlying65 (by kernel_rfl) (by kernel_rfl) h2

set_option maxRecDepth 100000 in
theorem lifted (os : Os) (started : os.Started) (H : Type) (enc : TypeId × Value → H) :
    ReturnsInHanded {} Tryd.checked os 3 .any (fun w args => (Rows.fnExactFormatRoutesSpec.pre enc Tryd.prog Tryd.f3 [] false w args ∧ laidMetH Tryd.prog Rows.fnExactFormatRoutesRow.laid w) ∧ sizedMet enc Tryd.prog Tryd.f3 (OpenSpec.ofChange Rows.fnExactFormatRoutesSpec) false w args)
      (Rows.fnExactFormatRoutesSpec.post enc Tryd.prog Tryd.f3 false true false false) := by
  refine returnsInHanded_of_change_and (C := Tryd.checked) (X := fun w _ => laidMetH Tryd.prog Rows.fnExactFormatRoutesRow.laid w) (fun _ _ _ hh h => h.of_heap hh) own started (by kernel_rfl) Tryd.func3
    (ChangeSpec.witness_shaped (enc := enc) (C := Tryd.checked) (os := os) (X := fun w _ => laidMetH Tryd.prog Rows.fnExactFormatRoutesRow.laid w) false (World.doorLaid Tryd.prog 24 os) #[.slice none 0 0] 8 rfl (World.shaped_of_RefB (by kernel_rfl) (by kernel_rfl)) (by kernel_rfl) (by kernel_rfl) (by kernel_rfl) (door_met os _)) ?_
  intro W base args ds gs before hval0 hW _ hsz0 hL _
  have hval : ∀ (j : Nat) t v, Tryd.f3.params[j]? = some t → args[j]? = some v → Value.okWide Tryd.prog W .any base t v := hval0
  have hsz : (DataW.weightsEach Tryd.prog (Tryd.f3.params.toList ++ Rows.fnExactFormatRoutesSpec.plain.varTypes Tryd.prog) (ds ++ gs)).all (· ≤ reachBytes) = true := hsz0
  clear hsz0
  have hW' := hW
  obtain ⟨p, q, hA0, hV, rfl, hfz, hnd⟩ := hW
  have hA : DataW.TrodAll enc Tryd.prog W 0 (fun _ => true) true Tryd.f3.params.toList args.toList ds p := hA0
  rw [Tryd.params3] at hA hval hsz
  obtain ⟨v0, vs0, d0, ds0, p0, q0, hargs, rfl, rfl, h0, r0⟩ := trodAll_cons hA
  obtain ⟨rfl, rfl, rfl⟩ := trodAll_nil r0
  obtain rfl : args = #[v0] := by cases args; simp_all
  obtain ⟨rfl, rfl⟩ := trodVars_none hV
  obtain ⟨l0, q0, n0⟩ := Row.open_sliceK Row.opens_RouteS Tryd.underlying22 (hval 0 22 v0 rfl rfl) h0
  clear hA0 hval0
  refine (walk W _ _ q0 n0 n0 (of_laid hL)).mono fun e W' ⟨he, hb⟩ => ?_
  subst he
  exact ⟨_, rfl, Frame.law_post laidOut (by kernel_rfl) rfl Tryd.underlying4 rfl rfl hW' hb⟩

theorem said : Rows.FnExactFormatRoutesSaid :=
  OpenClaim.holds_of_wide 3 Tryd.f3 rfl rfl rfl rfl rfl rfl rfl ⟨rfl, rfl, rfl, rfl, rfl⟩ rfl rfl rfl rfl rfl (by kernel_rfl) Tryd.func3 (by kernel_rfl)
    (of_decide_eq_true (by kernel_rfl)) (by unfold Func.isWrapper; first | (rw [if_pos (by decide +kernel)]; kernel_rfl) | (rw [if_neg (by decide +kernel)]; exact ⟨rfl, rfl⟩))
    (fun os started H enc _ => lifted os started H enc)

theorem plain (f : FuncId) (fn : Func) (hf : Tryd.pinned.checked.prog.funcNamed "loop.example/g00507/laws.FnExactFormatRoutes" = some f) (hfn : Tryd.pinned.checked.prog.funcs[f]? = some fn) :
    false = Tryd.pinned.checked.prog.looks [] ∧ ∀ (j : Nat) t, fn.params[j]? = some t → Tryd.pinned.checked.prog.wantsStandIn t = false := by
  obtain rfl : f = 3 := Option.some.inj ((show Tryd.prog.funcNamed "loop.example/g00507/laws.FnExactFormatRoutes" = some 3 by kernel_rfl).symm.trans hf) |>.symm
  obtain rfl : fn = Tryd.f3 := (Option.some.inj (Tryd.func3.symm.trans hfn)).symm
  refine ⟨by kernel_rfl, fun j t ht => ?_⟩
  rw [Tryd.params3] at ht
  have hm : t ∈ [22] := by simpa using Array.mem_of_getElem? ht
  have hall : ([22].all fun u => !Tryd.prog.wantsStandIn u) = true := by kernel_rfl
  exact (show Tryd.prog.wantsStandIn t = false by simpa using List.all_eq_true.1 hall t hm)

/-- THE CARD. -/
theorem card : Rows.FnExactFormatRoutesCardSaid :=
  Claim7.holds_tied_plain_at .later [] _ _ _ _ said (fun _ h => by cases h) (by kernel_rfl) (fun _ h => by cases h) fnExactFormatRoutes_row_tie rfl ⟨rfl, rfl⟩ (by kernel_rfl) rfl plain (by kernel_rfl)
#print axioms card
end Go.Proofs.YtdaahcaafdleaabDoor.fnExactFormatRoutes
