/- After a certificate has expired, nothing that was signed by its key is trusted, unless the key is an anchor: for all draws. No conditions. -/
import Derived.Test.YtcidfmmeonhkhaaGreatDoorCards
import Derived.Test.YtcidfmmeonhkhaaGreatDoorTie
import Derived.WalkKit
import Derived.ProofKit
import Derived.OpenShut
import Derived.SizedLaws
import Derived.LaidMore
import Derived.Stop.Joined
import Derived.Stop.LaidErr
import Derived.Lib.LaidTab
import Derived.SevenTiedAt
import Derived.LaidHandle
import Derived.LaidLaws
import Derived.Test.YtcidfmmeonhkhaaGreatDoorB1
import Derived.Test.YtcidfmmeonhkhaaGreatDoorB22
import Derived.Test.YtcidfmmeonhkhaaGreatDoorB24
namespace Go.Proofs.YtcidfmmeonhkhaaGreatDoor.fnOldPapers
open Go.ChangeShapes Go.WideShapes Go.ChangeAt Go.RowKit
open Go.ChangeMaps (open_string shut_string)
set_option linter.unusedVariables false

theorem own : ownKnob Tryz.prog.godebug = none := by kernel_rfl
theorem laidOut : laidOutB Tryz.prog = true := by kernel_rfl

set_option maxRecDepth 100000 in
set_option maxHeartbeats 4000000 in
theorem walk (w : World) (y0 : Value) (l0 : List UInt8) (q0 : Frame.Bytes w y0 l0) (ht : Row.ErrT w) :
    Calls Tryz.prog 5 #[y0] w fun e w' => e = .returned (.bool true) ∧ Below w.heap.size w w' := by
  by_cases hlen : (l0.length : Int) ≤ 1048576
  · obtain ⟨x, cap, rfl, -⟩ := Draw.bytes_at q0
    have hl : decide ((1048576 : Int) < (l0.length : Int)) = false := by simpa using hlen
    have Q0 := Lib.hid q0; clear q0 hlen
    obtain ⟨n0, hn0⟩ : ∃ n0, n0 = l0.length := ⟨_, rfl⟩
    rw [← hn0] at hl Q0 ⊢
    have HN0 := Lib.hid hn0; clear hn0
    have BB := Lib.hid (Below.refl w.heap.size w)
    have HT := Lib.hid ht; clear ht
    go_enter Tryz.func5, Tryz.ntmps5
    go_wp2_with fail
    refine (Draw.big_no x n0 cap w hl).mono ?_
    rintro e w' ⟨rfl, rfl⟩
    go_wp2_with fail
    refine (Draw.dDrawMade _ _ l0 Q0.out).mono ?_
    rintro e w1 ⟨V, U, B, rfl, hV, hU, hb⟩
    obtain ⟨tt, ht, hft, h5⟩ := Row.trustD_at hV
    obtain ⟨xx, hx, hfx, -⟩ := Row.madeD_at hU
    clear hV hU
    obtain ⟨x0, n1, c0, x1, n2, c1, x2, n3, c2, x3, n4, c3, rfl, ht⟩ := Row.kTp_shapeA ht
    obtain ⟨ya, ma, da, yb, mb, db, yc, mc, dc_, rfl, hx⟩ := Row.kD_shapeA hx
    obtain ⟨k1, k2, k3, -⟩ := Draw.two_new (w := w1) #[.slice x0 n1 c0, .slice x1 n2 c1, .slice x2 n3 c2, .slice x3 n4 c3] #[.slice ya ma da, .slice yb mb db, .slice yc mc dc_, .int .i64 xx.2.2.2.1, .int .i64 xx.2.2.2.2] 29 34
    have C_t := Lib.hid k1; have C_x := Lib.hid k2; have H_t := Lib.hid (ht.on k3); have H_x := Lib.hid (hx.on k3); have HFT := Lib.hid hft; have HFX := Lib.hid hfx; have H5 := Lib.hid h5
    replace HT := Lib.hid ((HT.out.on hb).on k3); replace BB := Lib.hid ((BB.out.trans hb).trans (k3.mono hb.size))
    obtain ⟨gt, hgt⟩ : ∃ g, w1.heap.size = g := ⟨_, rfl⟩
    obtain ⟨w2, hw2⟩ : ∃ W, (w1.alloc (.cells #[.slice x0 n1 c0, .slice x1 n2 c1, .slice x2 n3 c2, .slice x3 n4 c3] 29)).alloc (.cells #[.slice ya ma da, .slice yb mb db, .slice yc mc dc_, .int .i64 xx.2.2.2.1, .int .i64 xx.2.2.2.2] 34) = W := ⟨_, rfl⟩
    rw [hw2, hgt] at C_t C_x; rw [hw2] at H_t H_x HT BB
    have HW2 := Lib.hid hw2; have HGQ := Lib.hid hgt
    clear k1 k2 k3 ht hx hft hfx h5 hb hw2 hgt
    go_upto_region 4 with fail
    rw [HW2.out, HGQ.out]
    clear HW2 HGQ
    go_wp2_with fail
    refine (Draw.lawAt x n0 cap 2 l0 w2 (Q0.out.on BB.out) HN0.out (by decide)).mono ?_
    rintro e w3 ⟨⟨r, rfl, hr0, hr1⟩, rfl⟩
    have hwf : IntKind.i64.wrap (5001 + r) = 5001 + r := by rw [IntKind.wrap_i64]; omega
    obtain ⟨t0, t1, t2, t3⟩ := Row.cellsOf4 C_t.out; obtain ⟨d0, d1, d2, d3, d4⟩ := Row.cellsOf5 C_x.out
    go_upto_region 5 with fail
    (try rw [hwf])
    go_wp2_with fail
    obtain ⟨z0, hz0⟩ : ∃ z, Row.trusted tt xx (5001 + r) = z := ⟨_, rfl⟩
    have HZ0 := Lib.hid hz0; clear hz0
    refine (Row.implIsTrusted _ _ tt xx (5001 + r) _ z0 HZ0.out H_t.out H_x.out HFT.out HFX.out HT.out).mono ?_
    rintro e w4 ⟨rfl, hb⟩
    replace C_t := Lib.hid (C_t.out.on hb); replace C_x := Lib.hid (C_x.out.on hb); replace H_t := Lib.hid (H_t.out.on hb); replace H_x := Lib.hid (H_x.out.on hb); replace HT := Lib.hid (HT.out.on hb); replace BB := Lib.hid (BB.out.trans (hb.mono BB.out.size))
    clear hb t0 t1 t2 t3 d0 d1 d2 d3 d4
    cases z0 with
    | true =>
      have HA := Lib.hid (Row.trusted_old (fun n => Row.findC_old H5.out (by omega) n) HZ0.out)
      obtain ⟨t0, t1, t2, t3⟩ := Row.cellsOf4 C_t.out; obtain ⟨d0, d1, d2, d3, d4⟩ := Row.cellsOf5 C_x.out
      go_wp2_with fail
      refine (Row.implIsAnchor _ _ tt xx.2.2.1 _ true HA.out H_t.out (Row.kD_key11 H_x.out) HFT.out.nameLen HFT.out.nameWt9 (Nat.le_trans HFX.out.key (by decide))).mono ?_
      rintro e w5 ⟨rfl, hb⟩
      replace BB := Lib.hid (BB.out.trans (hb.mono BB.out.size))
      clear hb t0 t1 t2 t3 d0 d1 d2 d3 d4
      go_wp2_with fail
      go_ret
      exact ⟨rfl, BB.out⟩
    | false =>
      go_wp2_with fail
      go_loopw [6] (fun iv wr => ∃ k : Nat, k ≤ 3 ∧ iv = .int .i64 k ∧ Hid (Ret.Blk wr gt #[.slice x0 n1 c0, .slice x1 n2 c1, .slice x2 n3 c2, .slice x3 n4 c3] 29) ∧ Hid (Ret.Blk wr (gt + 1) #[.slice ya ma da, .slice yb mb db, .slice yc mc dc_, .int .i64 xx.2.2.2.1, .int .i64 xx.2.2.2.2] 34) ∧ Hid (Row.kTp.At wr (.agg #[.slice x0 n1 c0, .slice x1 n2 c1, .slice x2 n3 c2, .slice x3 n4 c3]) tt) ∧ Hid (Row.kD.At wr (.agg #[.slice ya ma da, .slice yb mb db, .slice yc mc dc_, .int .i64 xx.2.2.2.1, .int .i64 xx.2.2.2.2]) xx) ∧ Hid (Row.ErrT wr) ∧ Hid (Below w.heap.size w wr)) (fun iv _ => 3 - (intOf iv).toNat)
      case atStart => exact ⟨0, by omega, rfl, C_t, C_x, H_t, H_x, HT, BB⟩
      case round =>
        clear C_t C_x H_t H_x HT BB
        obtain ⟨k, hk, rfl, C_t, C_x, H_t, H_x, HT, BB⟩ := hrel
        by_cases hlt : k < 3
        · have hwk : IntKind.i64.wrap (5001 + r - (k : Int)) = 5001 + r - (k : Int) := by rw [IntKind.wrap_i64]; omega
          obtain ⟨z1, hz1⟩ : ∃ z, Row.trusted tt xx (5001 + r - (k : Int)) = z := ⟨_, rfl⟩
          have HZ1 := Lib.hid hz1; clear hz1
          obtain ⟨t0, t1, t2, t3⟩ := Row.cellsOf4 C_t.out; obtain ⟨d0, d1, d2, d3, d4⟩ := Row.cellsOf5 C_x.out
          go_wp2_with fail
          refine (Row.implIsTrusted _ _ tt xx (5001 + r - (k : Int)) _ z1 HZ1.out H_t.out H_x.out HFT.out HFX.out HT.out).mono ?_
          rintro e w5 ⟨rfl, hb⟩
          replace C_t := Lib.hid (C_t.out.on hb); replace C_x := Lib.hid (C_x.out.on hb); replace H_t := Lib.hid (H_t.out.on hb); replace H_x := Lib.hid (H_x.out.on hb); replace HT := Lib.hid (HT.out.on hb); replace BB := Lib.hid (BB.out.trans (hb.mono BB.out.size))
          clear hb t0 t1 t2 t3 d0 d1 d2 d3 d4
          cases z1 with
          | true =>
            have HZ2 := Lib.hid (Row.old_step H5.out hr0 (by omega) HZ0.out HZ1.out)
            obtain ⟨t0, t1, t2, t3⟩ := Row.cellsOf4 C_t.out; obtain ⟨d0, d1, d2, d3, d4⟩ := Row.cellsOf5 C_x.out
            go_wp2_with fail
            refine (Row.implIsTrusted _ _ tt xx 5000 _ true HZ2.out H_t.out H_x.out HFT.out HFX.out HT.out).mono ?_
            rintro e w6 ⟨rfl, hb⟩
            replace C_t := Lib.hid (C_t.out.on hb); replace C_x := Lib.hid (C_x.out.on hb); replace H_t := Lib.hid (H_t.out.on hb); replace H_x := Lib.hid (H_x.out.on hb); replace HT := Lib.hid (HT.out.on hb); replace BB := Lib.hid (BB.out.trans (hb.mono BB.out.size))
            clear hb t0 t1 t2 t3 d0 d1 d2 d3 d4
            go_wp2_with fail
            go_roundw
            case rel => exact ⟨k + 1, by omega, by go_num, C_t, C_x, H_t, H_x, HT, BB⟩
            case measure => simp [intOf]; omega
          | false =>
            go_wp2_with fail
            go_roundw
            case rel => exact ⟨k + 1, by omega, by go_num, C_t, C_x, H_t, H_x, HT, BB⟩
            case measure => simp [intOf]; omega
        · obtain rfl : k = 3 := by omega
          clear hlt
          obtain ⟨t0, t1, t2, t3⟩ := Row.cellsOf4 C_t.out; obtain ⟨d0, d1, d2, d3, d4⟩ := Row.cellsOf5 C_x.out
          go_wp2_with fail
          refine (Row.implFindCertificate _ _ tt xx.2.2.1 (5001 + r) _ (-1) (Row.findC_old H5.out (by omega) _) H_t.out (Row.kD_key11 H_x.out) HFT.out HFX.out.key).mono ?_
          rintro e w5 ⟨rfl, hb⟩
          replace BB := Lib.hid (BB.out.trans (hb.mono BB.out.size))
          clear hb t0 t1 t2 t3 d0 d1 d2 d3 d4
          go_wp2_with fail
          go_ret
          exact ⟨rfl, BB.out⟩
  · obtain ⟨x, cap, rfl, -⟩ := Draw.bytes_at q0
    have hl : decide ((1048576 : Int) < (l0.length : Int)) = true := by simpa using hlen
    obtain ⟨n0, hn0⟩ : ∃ n0, n0 = l0.length := ⟨_, rfl⟩
    rw [← hn0] at hl ⊢
    clear hn0 hlen q0
    go_enter Tryz.func5, Tryz.ntmps5
    go_wp2_with fail
    refine (Draw.big_yes x n0 cap w hl).mono ?_
    rintro e w' ⟨rfl, rfl⟩
    go_wp2_with fail
    go_ret
    exact ⟨rfl, Below.refl _ _⟩

/-- The heap that the initialisers' own run leaves meets the list. -/
theorem door_met (os : Os) (args : Array Value) : laidMetH Tryz.prog Rows.fnOldPapersRow.laid ((World.doorLaid Tryz.prog 16 os).forCall (fun _ _ => 0) ⟨#[], args, []⟩).memory :=
  laidMetH_of_parts (laidMet_nil _ _) (by kernel_rfl)

theorem eG : Tryz.prog.globalNamed "errors.errorType" = some 0 := by kernel_rfl
theorem eR : (Tryz.prog.cutTypes.find? (·.1 == "internal/reflectlite.rtype")).map (·.2) = some 204 := by kernel_rfl
theorem eO : ((List.range Tryz.prog.types.size).filter fun t => Tryz.prog.rowNamed t [101, 114, 114, 111, 114]) = [82] := by kernel_rfl
theorem of_laid {W : World} (h : laidMetH Tryz.prog Rows.fnOldPapersRow.laid W) : Row.ErrT W := by
  have h2 : laidMet Tryz.prog [] W ∧ handlesMet Tryz.prog Rows.fnOldPapersRow.laid W := h
  obtain ⟨name, u, ty, e1, e2, e3, e4, e5⟩ := h2.2 _ (List.mem_singleton.2 rfl)
  have en : name = [101, 114, 114, 111, 114] := (Option.some.inj e1).symm
  subst en
  obtain rfl := Option.some.inj (eR.symm.trans e2)
  have hm : ty ∈ (List.range Tryz.prog.types.size).filter fun t => Tryz.prog.rowNamed t [101, 114, 114, 111, 114] := List.mem_filter.2 ⟨List.mem_range.2 e3, e4⟩
  rw [eO] at hm
  obtain rfl := List.mem_singleton.1 hm
  have hh : typeHandle Tryz.prog 82 = .pointer (some ⟨1, 82, none⟩) := by kernel_rfl
  rw [hh] at e5
  unfold Row.ErrT
  simpa using World.var?_cell eG e5 0

set_option maxRecDepth 100000 in
theorem lifted (os : Os) (started : os.Started) (H : Type) (enc : TypeId × Value → H) :
    ReturnsInHanded {} Tryz.checked os 5 .any (fun w args => (Rows.fnOldPapersSpec.pre enc Tryz.prog Tryz.f5 [] false w args ∧ laidMetH Tryz.prog Rows.fnOldPapersRow.laid w) ∧ sizedMet enc Tryz.prog Tryz.f5 (OpenSpec.ofChange Rows.fnOldPapersSpec) false w args)
      (Rows.fnOldPapersSpec.post enc Tryz.prog Tryz.f5 false true false false) := by
  refine returnsInHanded_of_change_and (C := Tryz.checked) (X := fun w _ => laidMetH Tryz.prog Rows.fnOldPapersRow.laid w) (fun _ _ _ hh h => h.of_heap hh) own started (by kernel_rfl) Tryz.func5
    (ChangeSpec.witness_shaped (enc := enc) (C := Tryz.checked) (os := os) (X := fun w _ => laidMetH Tryz.prog Rows.fnOldPapersRow.laid w) false (World.doorLaid Tryz.prog 16 os) #[.slice none 0 0] 8 rfl (World.shaped_of_RefB (by kernel_rfl) (by kernel_rfl)) (by kernel_rfl) (by kernel_rfl) (by kernel_rfl) (door_met os _)) ?_
  intro W base args ds gs before hval0 hW _ hsz0 hL _
  have hval : ∀ (j : Nat) t v, Tryz.f5.params[j]? = some t → args[j]? = some v → Value.okWide Tryz.prog W .any base t v := hval0
  have hsz : (DataW.weightsEach Tryz.prog (Tryz.f5.params.toList ++ Rows.fnOldPapersSpec.plain.varTypes Tryz.prog) (ds ++ gs)).all (· ≤ reachBytes) = true := hsz0
  clear hsz0
  have hW' := hW
  obtain ⟨p, q, hA0, hV, rfl, hfz, hnd⟩ := hW
  have hA : DataW.TrodAll enc Tryz.prog W 0 (fun _ => true) true Tryz.f5.params.toList args.toList ds p := hA0
  rw [Tryz.params5] at hA hval hsz
  obtain ⟨v0, vs0, d0, ds0, p0, q0, hargs, rfl, rfl, h0, r0⟩ := trodAll_cons hA
  obtain ⟨rfl, rfl, rfl⟩ := trodAll_nil r0
  obtain rfl : args = #[v0] := by cases args; simp_all
  obtain ⟨rfl, rfl⟩ := trodVars_none hV
  obtain ⟨l0, q0⟩ := Frame.open_bytes (j := 0) Tryz.underlying22 Tryz.underlying5 (by kernel_rfl) (by kernel_rfl) (hval 0 22 v0 rfl rfl) h0 hsz rfl rfl
  clear hA0 hval0
  refine (walk W _ _ q0 (of_laid hL)).mono fun e W' ⟨he, hb⟩ => ?_
  subst he
  exact ⟨_, rfl, Frame.law_post laidOut (by kernel_rfl) rfl Tryz.underlying4 rfl rfl hW' hb⟩

theorem said : Rows.FnOldPapersSaid :=
  OpenClaim.holds_of_wide 5 Tryz.f5 rfl rfl rfl rfl rfl rfl rfl ⟨rfl, rfl, rfl, rfl, rfl⟩ rfl rfl rfl rfl rfl (by kernel_rfl) Tryz.func5 (by kernel_rfl)
    (of_decide_eq_true (by kernel_rfl)) (by unfold Func.isWrapper; first | (rw [if_pos (by decide +kernel)]; kernel_rfl) | (rw [if_neg (by decide +kernel)]; exact ⟨rfl, rfl⟩))
    (fun os started H enc _ => lifted os started H enc)

theorem plain (f : FuncId) (fn : Func) (hf : Tryz.pinned.checked.prog.funcNamed "loop.example/g00507/laws.FnOldPapers" = some f) (hfn : Tryz.pinned.checked.prog.funcs[f]? = some fn) :
    true = Tryz.pinned.checked.prog.looks [] ∧ ∀ (j : Nat) t, fn.params[j]? = some t → Tryz.pinned.checked.prog.wantsStandIn t = false := by
  obtain rfl : f = 5 := Option.some.inj ((show Tryz.prog.funcNamed "loop.example/g00507/laws.FnOldPapers" = some 5 by kernel_rfl).symm.trans hf) |>.symm
  obtain rfl : fn = Tryz.f5 := (Option.some.inj (Tryz.func5.symm.trans hfn)).symm
  refine ⟨by kernel_rfl, fun j t ht => ?_⟩
  rw [Tryz.params5] at ht
  have hm : t ∈ [22] := by simpa using Array.mem_of_getElem? ht
  have hall : ([22].all fun u => !Tryz.prog.wantsStandIn u) = true := by kernel_rfl
  exact (show Tryz.prog.wantsStandIn t = false by simpa using List.all_eq_true.1 hall t hm)

/-- THE CARD. -/
theorem card : Rows.FnOldPapersCardSaid :=
  Claim7.holds_tied_plain_at .later [] _ _ _ _ said (fun _ h => by cases h) (by kernel_rfl) (fun _ h => by cases h) fnOldPapers_row_tie rfl ⟨rfl, rfl⟩ (by kernel_rfl) rfl plain (by kernel_rfl)
#print axioms card
end Go.Proofs.YtcidfmmeonhkhaaGreatDoor.fnOldPapers
