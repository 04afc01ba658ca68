/- Contracts and mathematics, joined: RouteV, MarkK, ByK, MarkF, RouteSM, RouteZ, Open, RouteA, RouteX, RouteM, RouteR0. No conditions but those that each states. -/
import Derived.WalkKit
import Derived.Deep.RegionHeld3
import Derived.Deep.RegionLaw
import Derived.Test.YtdaahcaafdleaaaB2
import Derived.Test.YtdaahcaafdleaaaB1
import Derived.SizedLaws
import Derived.ChangeSlices
import Derived.Lib.SmallJoins
/- ValidRoutes, model and program. No conditions but that lengths fit. -/
namespace Go.Proofs.Ytdaahcaafdleaaa.Row
open Go.ChangeShapes Go.WideShapes Go.ChangeAt Go.RowKit Go.Instr
set_option linter.unusedVariables false
set_option maxRecDepth 100000
set_option maxHeartbeats 4000000 in
theorem specValidRoutes (V : Value) (l : List Rtt) (w : World) (z : Bool) (hz : validRts l = z) (h : kLRt.At w V l) (hf : FitRt l) :
    Calls Try.prog 16 #[V] w fun e w' => e = .returned (.bool z) ∧ Below w.heap.size w w' := by
  have hl := hf.len9
  have hp := hf.each
  have hz2 := hz
  have HAT0 := Lib.hid h
  unfold validRts at hz2
  obtain ⟨x, n, cx, L, rfl, hn, ht, hh, hel⟩ := kLRt_at h
  have hlen : l.length = n := by rw [← ht, List.length_map]; exact hn.symm
  rw [hlen] at hl
  have hcap : n ≤ cx := by obtain ⟨x', n', cap', hv, hn', hc', -⟩ := hh.shapeN; cases hv; exact hc'
  rw [hlen] at hz2
  have HZ := Lib.hid hz2
  have HN := Lib.hid hn; have HT := Lib.hid ht; have HH := Lib.hid hh; have HEL := Lib.hid hel; have HLEN := Lib.hid hlen; have HP := Lib.hid hp
  clear hn ht hh hel hlen hp h hz hz2
  go_enter Try.func16, Try.ntmps16
  go_wp2
  go_loopw [3] (fun iv wr => ∃ i : Nat, i ≤ n ∧ iv = .int .i64 i ∧ Hid (vldRt l i = true) ∧ Hid (Below w.heap.size w wr)) (fun iv _ => n - (intOf iv).toNat)
  case atStart => exact ⟨0, Nat.zero_le _, rfl, Lib.hid rfl, Lib.hid (Below.refl _ _)⟩
  case round =>
    obtain ⟨k, hk, rfl, ha, hb⟩ := hrel
    by_cases hlt : k < n
    · have hlen := HN.out
      obtain ⟨b, off, y0, m0, d0, rfl, -, hc0, hc1, hc2, hA⟩ := kLRt_elem (HH.out.on hb.out) (fun y hy => kRt.holds_on (HEL.out y hy) hb.out) (j := k) (by omega)
      have hpt : nth l k = kRt.strip (nth L k) := by rw [← HT.out, nth_map _ (by omega)]
      have hps := HP.out (nth l k) (nth_mem (by have := HLEN.out; omega))
      rw [← hpt] at hA hc1 hc2
      have hNM := kRt_parts hA
      obtain ⟨nm, rf, rc, hx⟩ : ∃ nm rf rc, nth l k = (nm, rf, rc) := ⟨_, _, _, rfl⟩
      rw [hx] at hNM hps hc1 hc2 hA
      have HA := Lib.hid hA; have HNM := Lib.hid hNM; have HPN := Lib.hid hps; have HXE := Lib.hid hx
      simp only at hc1 hc2
      have H0 := Lib.hid hc0; have H1 := Lib.hid hc1; have H2 := Lib.hid hc2
      clear hlen hpt hps hA hNM hx
      have HATL := Lib.hid (HAT0.out.on hb.out)
      have HTK := Lib.hid (kLRt_take (k := k) HATL.out (by have := HLEN.out; omega))
      have HTL := Lib.hid (show (l.take k).length ≤ 9000000 by rw [List.length_take]; omega)
      have HTP := Lib.hid (fun x hx => HP.out x (List.mem_of_mem_take hx) : ∀ x ∈ l.take k, bulk x.1 ≤ 1200000)
      obtain ⟨q1, hq1⟩ : ∃ q, validN nm = q := ⟨_, rfl⟩
      obtain ⟨q2, hq2⟩ : ∃ q, Num.inB rf 1 6 = q := ⟨_, rfl⟩
      obtain ⟨q3, hq3⟩ : ∃ q, Num.inB rc 0 1000 = q := ⟨_, rfl⟩
      obtain ⟨r, hr⟩ : ∃ r, ixL (isRt nm rf) (l.take k) = r := ⟨_, rfl⟩
      have HQ1 := Lib.hid hq1; have HQ2 := Lib.hid hq2; have HQ3 := Lib.hid hq3; have HR := Lib.hid hr
      clear hq1 hq2 hq3 hr hc0 hc1 hc2
      go_wp2_with fail
      cases q1 with
      | false =>
        refine rvt0 hlt (by omega) hl HQ1 HNM HPN H0 ?_
        intro u10 u11 u12 u13 u14 u15 u16 u17 u18 u19 u20 u21 u22 u23 u24 u25 u26 u27 u28 u29 u30 u31 u32 u33 u34 u35 u36 u37 u38 u39 u40 u41 u42 u43 u44 u45 u46 u47 u48 u49 u50 wx hbx
        have HB3 := Lib.hid (hb.out.trans (hbx.mono hb.out.size))
        have HE : Hid (z = false) := Lib.hid (by rw [← HZ.out, vldRt_le (k := k + 1) (by unfold vldRt vRt; rw [HXE.out]; simp [HQ1.out]) (by omega)]; rfl)
        clear hbx
        go_wp2
        go_ret
        exact ⟨ret_bool HE.out.symm, HB3.out⟩
      | true =>
        cases q2 with
        | false =>
          refine rvt1 hlt (by omega) hl HQ1 HNM HPN HQ2 H0 H1 ?_
          intro u10 u11 u12 u13 u14 u15 u16 u17 u18 u19 u20 u21 u22 u23 u24 u25 u26 u27 u28 u29 u30 u31 u32 u33 u34 u35 u36 u37 u38 u39 u40 u41 u42 u43 u44 u45 u46 u47 u48 u49 u50 wx hbx
          have HB3 := Lib.hid (hb.out.trans (hbx.mono hb.out.size))
          have HE : Hid (z = false) := Lib.hid (by rw [← HZ.out, vldRt_le (k := k + 1) (by unfold vldRt vRt; rw [HXE.out]; simp [HQ2.out]) (by omega)]; rfl)
          clear hbx
          go_wp2
          go_ret
          exact ⟨ret_bool HE.out.symm, HB3.out⟩
        | true =>
          cases q3 with
          | false =>
            refine rvt2 hlt (by omega) hl HQ1 HNM HPN HQ2 HQ3 H0 H1 H2 ?_
            intro u10 u11 u12 u13 u14 u15 u16 u17 u18 u19 u20 u21 u22 u23 u24 u25 u26 u27 u28 u29 u30 u31 u32 u33 u34 u35 u36 u37 u38 u39 u40 u41 u42 u43 u44 u45 u46 u47 u48 u49 u50 wx hbx
            have HB3 := Lib.hid (hb.out.trans (hbx.mono hb.out.size))
            have HE : Hid (z = false) := Lib.hid (by rw [← HZ.out, vldRt_le (k := k + 1) (by unfold vldRt vRt; rw [HXE.out]; simp [HQ3.out]) (by omega)]; rfl)
            clear hbx
            go_wp2
            go_ret
            exact ⟨ret_bool HE.out.symm, HB3.out⟩
          | true =>
            refine rvt3 (l := l) hlt (by omega) hl HQ1 HNM HPN HQ2 HQ3 HR HTK HTL HTP H0 H1 H2 ?_
            intro u10 u11 u12 u13 u14 u15 u16 u17 u18 u19 u20 u21 u22 u23 u24 u25 u26 u27 u28 u29 u30 u31 u32 u33 u34 u35 u36 u37 u38 u39 u40 u41 u42 u43 u44 u45 u46 u47 u48 u49 u50 wx hbx
            have hb2 := Lib.hid (hb.out.trans (hbx.mono hb.out.size))
            clear hbx
            have HNR : Hid (newRt l k = !decide (0 ≤ r)) := Lib.hid (by unfold newRt; rw [HXE.out]; simp only; rw [any_ixL, HR.out])
            by_cases h0 : 0 ≤ r
            · have t0 : decide (0 ≤ r) = true := decide_eq_true h0
              have HE : Hid (z = false) := Lib.hid (by
                rw [← HZ.out, vldRt_le (k := k + 1) (by unfold vldRt; rw [HNR.out, t0]; simp) (by omega)]; rfl)
              go_wp2
              go_ret
              exact ⟨ret_bool HE.out.symm, hb2.out⟩
            · have t0 : decide (0 ≤ r) = false := decide_eq_false h0
              have HA2 : Hid (vldRt l (k + 1) = true) := Lib.hid (by unfold vldRt vRt; rw [ha.out, HNR.out, t0, HXE.out]; simp [HQ1.out, HQ2.out, HQ3.out])
              go_wp2
              go_roundw
              case rel => exact ⟨k + 1, by omega, by go_num, HA2, hb2⟩
              case measure => simp [intOf]; omega
    · obtain rfl : k = n := by omega
      have HE : Hid (decide ((k : Int) ≤ 24) = z) := Lib.hid (by rw [← HZ.out, ha.out, Bool.true_and]; exact decide_eq_decide.2 (by have := HLEN.out; omega))
      clear hlt
      go_wp2
      go_ret
      exact ⟨ret_bool HE.out, hb.out⟩
set_option maxHeartbeats 4000000 in
theorem iVRt (V : Value) (x : Rtt) (w : World) (z : Bool) (hz : vRt x = z) (h : kRt.At w V x) (hp : bulk x.1 ≤ 1200000) :
    Calls Try.prog 54 #[V] w fun e w' => e = .returned (.bool z) ∧ Below w.heap.size w w' := by
  obtain ⟨x0, n0, c0, rfl, h⟩ := kRt_shapeA h
  have hN := kRt_parts h
  obtain ⟨nm, rf, rc⟩ := x
  dsimp only at hN hp ⊢
  have hal := (Below.refl w.heap.size w).alloc (Nat.le_refl _) (.cells #[.slice x0 n0 c0, .int .i64 rf, .int .i64 rc] 53)
  have HX := Lib.hid (Ret.Blk.new w #[.slice x0 n0 c0, .int .i64 rf, .int .i64 rc] 53)
  have HB := Lib.hid hal; have GN := Lib.hid (hN.on hal)
  obtain ⟨q1, hq1⟩ : ∃ q, validN nm = q := ⟨_, rfl⟩
  obtain ⟨q2, hq2⟩ : ∃ q, Num.inB rf 1 6 = q := ⟨_, rfl⟩
  obtain ⟨q3, hq3⟩ : ∃ q, Num.inB rc 0 1000 = q := ⟨_, rfl⟩
  have HZ : Hid ((q1 && (q2 && q3)) = z) := Lib.hid (by rw [← hz, ← hq1, ← hq2, ← hq3]; rfl)
  have HQ1 := Lib.hid hq1; have HQ2 := Lib.hid hq2; have HQ3 := Lib.hid hq3
  clear hq1 hq2 hq3 hz hN h hal
  go_enter Try.func54, Try.ntmps54
  have x0_ := HX.out.cell 0
  go_wp2_with fail
  clear x0_
  refine (iValN q1 HQ1.out GN.out (by omega)).mono ?_
  rintro e w1 ⟨rfl, hb1⟩
  have HX1 := Lib.hid (HX.out.on hb1)
  replace HB := Lib.hid (HB.out.trans (hb1.mono HB.out.size)); clear hb1
  cases q1 with
  | false =>
    have HE : Hid (z = false) := Lib.hid (by rw [← HZ.out]; rfl)
    go_wp2
    go_ret
    exact ⟨ret_bool HE.out.symm, HB.out⟩
  | true =>
    have x1_ : w1.cell? ⟨w.heap.size, 1, none⟩ = some (.int .i64 rf) := HX1.out.cell 1
    go_wp2_with fail
    clear x1_
    refine (iInR q2 HQ2.out).mono ?_
    rintro e w2 ⟨rfl, hb2⟩
    have HX2 := Lib.hid (HX1.out.on hb2)
    replace HB := Lib.hid (HB.out.trans (hb2.mono HB.out.size)); clear hb2
    cases q2 with
    | false =>
      have HE : Hid (z = false) := Lib.hid (by rw [← HZ.out]; rfl)
      go_wp2
      go_ret
      exact ⟨ret_bool HE.out.symm, HB.out⟩
    | true =>
      have x2_ : w2.cell? ⟨w.heap.size, 2, none⟩ = some (.int .i64 rc) := HX2.out.cell 2
      go_wp2_with fail
      clear x2_
      refine (iInR q3 HQ3.out).mono ?_
      rintro e w3 ⟨rfl, hb3⟩
      have HE : Hid (z = q3) := Lib.hid (by rw [← HZ.out]; simp)
      replace HB := Lib.hid (HB.out.trans (hb3.mono HB.out.size)); clear hb3
      go_wp2
      go_ret
      exact ⟨ret_bool HE.out.symm, HB.out⟩
set_option maxHeartbeats 8000000 in
theorem implValidRoutes (V : Value) (l : List Rtt) (w : World) (z : Bool) (hz : validRts l = z) (h : kLRt.At w V l) (hf : FitRt l) (hw : ∀ x ∈ l, (Lit.int .i64 x.2.1).wf = true) :
    Calls Try.prog 18 #[V] w fun e w' => e = .returned (.bool z) ∧ Below w.heap.size w w' := by
  have hl := hf.len9
  have hp := hf.each
  have hz2 := hz
  have HAT0 := Lib.hid h
  have HFIT := Lib.hid hf; have HW := Lib.hid hw; have HZ := Lib.hid hz2
  have HOK := Lib.hid (show ∀ x ∈ l, okKR x.1 x.2.1 from fun x hx => ⟨Nat.le_trans (hp x hx) (by decide), hw x hx⟩)
  obtain ⟨x, n, cx, L, rfl, hn, ht, hh, hel⟩ := kLRt_at h
  have hlen : l.length = n := by rw [← ht, List.length_map]; exact hn.symm
  rw [hlen] at hl
  have hcap : n ≤ cx := by obtain ⟨x', n', cap', hv, hn', hc', -⟩ := hh.shapeN; cases hv; exact hc'
  have HN := Lib.hid hn; have HT := Lib.hid ht; have HH := Lib.hid hh; have HEL := Lib.hid hel; have HLEN := Lib.hid hlen; have HP := Lib.hid hp
  clear hn ht hh hel hlen hp h hz hz2 hf hw
  go_enter Try.func18, Try.ntmps18
  go_wp2
  go_loopw [7] (fun iv wr => ∃ i : Nat, i ≤ n ∧ iv = .int .i64 i ∧ Hid (eachRt l i = true) ∧ Hid (Below w.heap.size w wr)) (fun iv _ => n - (intOf iv).toNat)
  case atStart => exact ⟨0, Nat.zero_le _, rfl, Lib.hid rfl, Lib.hid (Below.refl _ _)⟩
  case round =>
    obtain ⟨k, hk, rfl, ha, hb⟩ := hrel
    by_cases hlt : k < n
    · have hlen := HN.out
      obtain ⟨b, off, y0, m0, d0, rfl, -, hc0, hc1, hc2, hA⟩ := kLRt_elem (HH.out.on hb.out) (fun y hy => kRt.holds_on (HEL.out y hy) hb.out) (j := k) (by omega)
      have hpt : nth l k = kRt.strip (nth L k) := by rw [← HT.out, nth_map _ (by omega)]
      have hps := HP.out (nth l k) (nth_mem (by have := HLEN.out; omega))
      rw [← hpt] at hA hc1 hc2
      have hNM := kRt_parts hA
      obtain ⟨nm, rf, rc, hx⟩ : ∃ nm rf rc, nth l k = (nm, rf, rc) := ⟨_, _, _, rfl⟩
      rw [hx] at hNM hps hc1 hc2 hA
      have HA := Lib.hid hA; have HNM := Lib.hid hNM; have HPN := Lib.hid hps; have HXE := Lib.hid hx
      simp only at hc1 hc2
      have H0 := Lib.hid hc0; have H1 := Lib.hid hc1; have H2 := Lib.hid hc2
      clear hlen hpt hps hA hNM hx
      obtain ⟨q1, hq1⟩ : ∃ q, vRt (nth l k) = q := ⟨_, rfl⟩
      have HQ1 := Lib.hid hq1
      rw [HXE.out] at hq1
      have HQX := Lib.hid hq1
      have hal := (Below.refl wr.heap.size wr).alloc (Nat.le_refl _) (.cells #[.slice y0 m0 d0, .int .i64 rf, .int .i64 rc] 53)
      have HX := Lib.hid (Ret.Blk.new wr #[.slice y0 m0 d0, .int .i64 rf, .int .i64 rc] 53)
      have HA1 := Lib.hid (HA.out.on hal); have HB1 := Lib.hid (hb.out.trans (hal.mono hb.out.size))
      have hkl : k < l.length := by have := HLEN.out; omega
      clear hal hq1
      have q0 := HX.out.cell 0; have q1_ := HX.out.cell 1; have q2 := HX.out.cell 2
      go_wp2_with fail
      clear hc0 hc1 hc2 q0 q1_ q2
      refine (iVRt _ _ _ q1 HQX.out HA1.out HPN.out).mono ?_
      rintro e w1 ⟨rfl, hb1⟩
      have HB2 := Lib.hid (HB1.out.trans (hb1.mono HB1.out.size))
      clear hb1
      cases q1 with
      | false =>
        have HE : Hid (z = false) := Lib.hid (by rw [← HZ.out]; exact eachRt_no hkl HQ1.out)
        go_wp2
        go_ret
        exact ⟨ret_bool HE.out.symm, HB2.out⟩
      | true =>
        have HA2 := Lib.hid (eachRt_next hkl ha.out HQ1.out)
        clear hkl
        go_wp2
        go_roundw
        case rel => exact ⟨k + 1, by omega, by go_num, HA2, HB2⟩
        case measure => simp [intOf]; omega
    · obtain rfl : k = n := by omega
      have HE : Hid ((decide (k ≤ 24) && decide (numRt l k = k)) = z) := Lib.hid (by
        have h9 := validRts_eq l
        rw [HLEN.out, ha.out, Bool.true_and, HZ.out] at h9
        exact h9.symm)
      have HAT := Lib.hid (HAT0.out.on hb.out)
      clear hlt
      by_cases h24 : k ≤ 24
      · have t0 : decide ((k : Int) ≤ 24) = true := decide_eq_true (by omega)
        have HE2 : Hid (decide (numRt l k = k) = z) := Lib.hid (by rw [← HE.out, decide_eq_true h24, Bool.true_and])
        go_wp2_with fail
        refine (iFirstRt _ l _ HAT.out HFIT.out HW.out).mono ?_
        rintro e w1 ⟨b1, rfl, hm1, -, hb1⟩
        have HB1 := Lib.hid (hb.out.trans (hb1.mono hb.out.size))
        have hlen := hm1.len Try.underlying88
        rw [rtD_size injKR HOK.out l.length (Nat.le_refl _), HLEN.out] at hlen
        obtain ⟨q, hq⟩ : ∃ q, numRt l k = q := ⟨_, rfl⟩
        rw [hq] at hlen
        have HEQ := Lib.hid (show (((q : Nat) : Int) == (k : Int)) = z by rw [← HE2.out, hq]; by_cases e9 : q = k <;> simp [e9]; omega)
        clear hm1 hb1 h24 hq
        go_wp2
        go_ret
        exact ⟨ret_bool HEQ.out, HB1.out⟩
      · have t0 : decide ((k : Int) ≤ 24) = false := decide_eq_false (by omega)
        have HE2 : Hid (z = false) := Lib.hid (by rw [← HE.out, decide_eq_false h24]; rfl)
        clear h24
        go_wp2
        go_ret
        exact ⟨ret_bool HE2.out.symm, hb.out⟩
end Go.Proofs.Ytdaahcaafdleaaa.Row
/- Lists of elements of a kind, marked part by part: what a part's marking leaves of the list. For any kind and any program. No conditions. -/
namespace Go.Proofs.Ytdaahcaafdleaaa.Row
open Go.ChangeShapes Go.WideShapes Go.ChangeAt Go.RowKit Go.Instr
set_option linter.unusedVariables false
set_option linter.unusedSectionVars false
set_option maxRecDepth 100000
section
variable {α M β N : Type} [Inhabited M] {k : Kd α M} {l : Kd β N} {B E : Nat} {w w' : World} {P : Program}
def MarkF (P : Program) (k : Kd α M) (fn : FuncId) (arg : M → Value) (adv : α → Nat) (mk : Int → α → α) : Prop :=
  ∀ (B E : Nat) (x : M) (w : World) (q : Int), k.Own B E w x → adv (k.strip x) ≤ 100000000 → 0 ≤ q → q + (adv (k.strip x) : Int) ≤ 100000000000 →
    Calls P fn #[arg x, .int .i64 q] w fun e w' => e = .returned (.int .i64 (q + (adv (k.strip x) : Int))) ∧ ∃ x', k.cells x' = k.cells x ∧ k.blocks x' = k.blocks x ∧ k.strip x' = mk q (k.strip x) ∧ k.Own B E w' x' ∧ WroteBy (k.blocks x) w w'
theorem MarkF.fst {fn : FuncId} {arg : M → Value} {adv : α → Nat} {mk : Int → α → α} (h : MarkF P k fn arg adv mk) (l : Kd β N) : MarkF P (k.pair l) fn (fun x => arg x.1) (fun a => adv a.1) (fun q a => (mk q a.1, a.2)) := by
  intro B E x w q ho hl h0 h1
  obtain ⟨m, n⟩ := x
  obtain ⟨o1, o2, hd⟩ := ho.parts
  refine (h B E m w q o1 hl h0 h1).mono ?_
  rintro e w' ⟨rfl, m', c, b, s, o, hw⟩
  refine ⟨rfl, (m', n), ?_, ?_, ?_, ?_, ?_⟩
  · show k.cells m' ++ l.cells n = k.cells m ++ l.cells n
    rw [c]
  · show k.blocks m' ++ l.blocks n = k.blocks m ++ l.blocks n
    rw [b]
  · show (k.strip m', l.strip n) = (mk q (k.strip m), l.strip n)
    rw [s]
  · exact Kd.Own.join o (hw.own o2 (fun g hg hg2 => hd g hg2 hg)) (by rw [b]; exact hd)
  · exact hw.more (fun g hg => List.mem_append_left _ hg)
theorem flat_disj {γ : Type} {f : γ → List Nat} {L : List γ} (h : (L.flatMap f).Nodup) {i j : Nat} (hi : i < L.length) (hj : j < L.length) (hne : i ≠ j) : ∀ q ∈ f L[i], q ∉ f L[j] := by
  have h2 := (List.pairwise_flatMap.1 h).2
  have h3 := List.pairwise_iff_getElem.1 h2
  intro q hq hq2
  rcases Nat.lt_or_gt_of_ne hne with hl | hl
  · exact h3 i j hi hj hl q hq q hq2 rfl
  · exact h3 j i hj hi hl q hq2 q hq rfl
theorem flatB_one {γ : Type} {f : γ → List Nat} {L : List γ} (h : (L.flatMap f).Nodup) {j : Nat} (hj : j < L.length) : (f L[j]).Nodup :=
  (List.pairwise_flatMap.1 h).1 _ (List.getElem_mem hj)
theorem flatMap_set {γ δ : Type} {f : γ → List δ} {L : List γ} {j : Nat} (hj : j < L.length) {y : γ} (e : f y = f L[j]) : (L.set j y).flatMap f = L.flatMap f := by
  rw [List.flatMap_def, List.flatMap_def, List.map_set]
  congr 1
  have : f y = (L.map f)[j]'(by simpa using hj) := by simp [e]
  rw [this, List.set_getElem_self]
variable {e : TypeId} {ad : Option Addr} {n cap j : Nat} {L : List M}
theorem Kd.Own.row (h : (k.slice e).Own B E w ⟨ad, n, cap, L⟩) : OwnK e k.cells k.size B w (.slice ad n cap) L := h.1.1
theorem Kd.Own.apart (h : (k.slice e).Own B E w ⟨ad, n, cap, L⟩) : (L.flatMap k.blocks).Nodup ∧ ∀ g, (Value.slice ad n cap).ownBlock = some g → g ∉ L.flatMap k.blocks := by
  have h2 : ((Value.slice ad n cap).ownBlock.toList ++ L.flatMap k.blocks).Nodup := h.2.1
  have h3 := List.nodup_append.1 h2
  exact ⟨h3.2.1, fun g hg hg2 => h3.2.2 g (by simp [hg]) g hg2 rfl⟩
theorem Kd.Own.elem (h : (k.slice e).Own B E w ⟨ad, n, cap, L⟩) (hj : j < L.length) : k.Own B E w (nth L j) := by
  rw [nth_eq hj]
  refine ⟨h.1.2 _ (List.getElem_mem hj), flatB_one h.apart.1 hj, fun g hg => h.2.2 g ?_⟩
  exact List.mem_append_right _ (List.mem_flatMap.2 ⟨_, List.getElem_mem hj, hg⟩)
theorem Kd.Own.part (h : (k.slice e).Own B E w ⟨ad, n, cap, L⟩) (hj : j < L.length) {x' : M} (hc : k.cells x' = k.cells (nth L j)) (hb : k.blocks x' = k.blocks (nth L j)) (ho : k.Own B E w' x') (hw : WroteBy (k.blocks (nth L j)) w w') :
    (k.slice e).Own B E w' ⟨ad, n, cap, L.set j x'⟩ ∧ WroteBy (L.flatMap k.blocks) w w' := by
  rw [nth_eq hj] at hc hb hw
  obtain ⟨hnd, hrow⟩ := h.apart
  have hfb := flatMap_set hj hb
  have hfc : Row.flat k.cells (L.set j x') = Row.flat k.cells L := by
    unfold Row.flat
    exact flatMap_set hj hc
  refine ⟨⟨⟨?_, fun y hy => ?_⟩, ?_, ?_⟩, hw.more (fun g hg => List.mem_flatMap.2 ⟨_, List.getElem_mem hj, hg⟩)⟩
  · have hk : OwnK e k.cells k.size B w' (.slice ad n cap) L := ownK_keep h.row (fun g hg => hw.block g (h.row.lt g hg).2 (fun hg2 => hrow g hg (List.mem_flatMap.2 ⟨_, List.getElem_mem hj, hg2⟩)))
    show OwnK e k.cells k.size B w' (.slice ad n cap) (L.set j x')
    unfold OwnK at hk ⊢
    rw [List.length_set, hfc]
    exact hk
  · obtain ⟨i, hi, rfl⟩ := List.getElem_of_mem (show y ∈ L.set j x' from hy)
    have hi2 : i < L.length := by simpa using hi
    by_cases e1 : j = i
    · subst e1
      rw [List.getElem_set_self]
      exact ho.1
    · rw [List.getElem_set_ne e1]
      refine k.own_keep (h.1.2 _ (List.getElem_mem hi2)) (fun g hg => hw.block g (k.own_lt (h.1.2 _ (List.getElem_mem hi2)) g hg).2 (fun hg2 => flat_disj hnd hi2 hj (fun e2 => e1 e2.symm) g hg hg2))
  · show ((Value.slice ad n cap).ownBlock.toList ++ (L.set j x').flatMap k.blocks).Nodup
    rw [hfb]
    exact h.2.1
  · intro g hg
    have hg2 : g ∈ (Value.slice ad n cap).ownBlock.toList ++ (L.set j x').flatMap k.blocks := hg
    rw [hfb] at hg2
    exact h.2.2 g hg2
theorem Kd.Own.put {g : Nat} (h : (k.slice e).Own B E w ⟨some ⟨g, 0, none⟩, n, cap, L⟩) (hn : n = L.length) (hj : j < L.length) {i : Nat} (hi : i < k.size) {u : Value} {x' : M} (hc : k.cells x' = (k.cells (nth L j)).set i u) (hb : k.blocks x' = k.blocks (nth L j)) (ho : ∀ {W : World}, k.own B W (nth L j) → k.own B W x') :
    (k.slice e).Own B E (w.setCell ⟨g, j * k.size + i, none⟩ u) ⟨some ⟨g, 0, none⟩, n, cap, L.set j x'⟩ ∧ w.grownBy (w.setCell ⟨g, j * k.size + i, none⟩ u) (some g) := by
  obtain ⟨a1, a2⟩ := ownK_store (fun m => k.len m) h.row hn hj hi hc
  obtain ⟨hnd, hrow⟩ := h.apart
  have hg0 := hrow g rfl
  have hfb := flatMap_set (f := k.blocks) hj (by rw [hb, nth_eq hj])
  have keep : ∀ {y : M}, y ∈ L → k.own B (w.setCell ⟨g, j * k.size + i, none⟩ u) y := fun {y} hy => k.own_keep (h.1.2 y hy) (fun q hq => a2.block q (k.own_lt (h.1.2 y hy) q hq).2 (fun e1 => hg0 (by cases e1; exact List.mem_flatMap.2 ⟨y, hy, hq⟩)))
  refine ⟨⟨⟨a1, fun y hy => ?_⟩, ?_, ?_⟩, a2⟩
  · rcases List.mem_or_eq_of_mem_set (show y ∈ L.set j x' from hy) with hy | rfl
    · exact keep hy
    · exact ho (keep (nth_mem hj))
  · show ((Value.slice (some ⟨g, 0, none⟩) n cap).ownBlock.toList ++ (L.set j x').flatMap k.blocks).Nodup
    rw [hfb]
    exact h.2.1
  · intro q hq
    have hg2 : q ∈ (Value.slice (some ⟨g, 0, none⟩) n cap).ownBlock.toList ++ (L.set j x').flatMap k.blocks := hq
    rw [hfb] at hg2
    exact h.2.2 q hg2
end
section
variable {α : Type} [Inhabited α] (a : α → Nat) (f : Int → α → α)
def advK : List α → Nat
  | [] => 0
  | x :: r => a x + advK r
def mkLK (q : Int) : List α → List α
  | [] => []
  | x :: r => f q x :: mkLK (q + (a x : Int)) r
theorem advK_append : ∀ (l m : List α), advK a (l ++ m) = advK a l + advK a m
  | [], m => by simp [advK]
  | x :: l, m => by simp [advK, advK_append l m]; omega
theorem advK_take {l : List α} {j : Nat} (h : j < l.length) : advK a (l.take (j + 1)) = advK a (l.take j) + a (nth l j) := by
  rw [List.take_succ_eq_append_getElem h, advK_append, nth_eq h]; simp [advK]
theorem advK_take_le (l : List α) (j : Nat) : advK a (l.take j) ≤ advK a l := by
  have := advK_append a (l.take j) (l.drop j)
  rw [List.take_append_drop] at this; omega
theorem mkLK_append (q : Int) : ∀ (l m : List α), mkLK a f q (l ++ m) = mkLK a f q l ++ mkLK a f (q + (advK a l : Int)) m
  | [], m => by simp [mkLK, advK]
  | x :: l, m => by
    simp only [List.cons_append, mkLK, advK, mkLK_append _ l m]
    congr 3
    simp; omega
theorem mkLK_length (q : Int) : ∀ l : List α, (mkLK a f q l).length = l.length
  | [] => rfl
  | x :: r => by simp [mkLK, mkLK_length _ r]
theorem mkLK_take (q : Int) {l : List α} {j : Nat} (h : j < l.length) : mkLK a f q (l.take (j + 1)) = mkLK a f q (l.take j) ++ [f (q + (advK a (l.take j) : Int)) (nth l j)] := by
  rw [List.take_succ_eq_append_getElem h, mkLK_append, nth_eq h]; rfl
theorem mkLK_at (q : Int) {l : List α} {j : Nat} (h : j < l.length) : nth (mkLK a f q l) j = f (q + (advK a (l.take j) : Int)) (nth l j) := by
  have e := mkLK_append a f q (l.take (j + 1)) (l.drop (j + 1))
  rw [List.take_append_drop, mkLK_take a f q h] at e
  have h2 : (mkLK a f q (l.take j)).length = j := by rw [mkLK_length, List.length_take]; omega
  rw [e]
  simp only [nth, List.getD]
  rw [List.append_assoc, List.getElem?_append_right (by omega), h2]
  simp
end
end Go.Proofs.Ytdaahcaafdleaaa.Row
/- Slices of bytes in the words of kinds: sz, to, eq, mark, held. No conditions but that lengths fit. -/
namespace Go.Proofs.Ytdaahcaafdleaaa.Row
open Go.ChangeShapes Go.WideShapes Go.ChangeAt Go.RowKit Go.Instr
set_option linter.unusedVariables false
set_option maxRecDepth 100000
def okB (l : List Int) : Prop := l.length ≤ 9223372036854775807
end Go.Proofs.Ytdaahcaafdleaaa.Row
/- Names and bytes as parts that are marked; an element of a list, step by step. No conditions but that lengths fit. -/
namespace Go.Proofs.Ytdaahcaafdleaaa.Row
open Go.ChangeShapes Go.WideShapes Go.ChangeAt Go.RowKit Go.Instr
set_option linter.unusedVariables false
set_option linter.unusedSectionVars false
set_option maxRecDepth 100000
theorem markF_N : MarkF Try.prog kN 60 (fun m => m.v) (fun l => l.length) (fun q l => marks markT q l.length) := by
  intro B E m w k h hl h0 h1
  have ho := kN_own1 h.1
  rw [kN_strip] at hl h1 ⊢
  refine (markStringS B m.v m.els w k ho hl h0 (by omega)).mono ?_
  rintro e w' ⟨a, b, c⟩
  refine ⟨a, ⟨m.ad, m.n, m.cap, marks markT k m.els.length⟩, rfl, by rw [kN_blocks, kN_blocks]; rfl, by rw [kN_strip], ⟨kN_own2 b, ?_, ?_⟩, WroteBy.of c (fun g hg => by rw [kN_blocks]; simp [hg])⟩
  · have := h.2.1
    rw [kN_blocks] at this ⊢
    exact this
  · have := h.2.2
    rw [kN_blocks] at this ⊢
    exact this
section
variable {α M : Type} [Inhabited M] {k : Kd α M} {B E : Nat} {w w' : World} {e : TypeId} {ad : Option Addr} {n cap j g : Nat} {Z : List M} {x x' : M}
theorem nth_set9 {γ : Type} [Inhabited γ] {Z : List γ} {j : Nat} (hj : j < Z.length) (x : γ) : nth (Z.set j x) j = x := by
  rw [nth_eq (by simpa using hj), List.getElem_set_self]
theorem set_nth9 {γ : Type} [Inhabited γ] {Z : List γ} {j : Nat} (hj : j < Z.length) : Z.set j (nth Z j) = Z := by
  rw [nth_eq hj, List.set_getElem_self]
theorem Kd.Own.elem9 (h : (k.slice e).Own B E w ⟨ad, n, cap, Z.set j x⟩) (hj : j < Z.length) : k.Own B E w x := by
  have := Kd.Own.elem h (j := j) (by simpa using hj)
  rwa [nth_set9 hj] at this
theorem Kd.Own.part9 (h : (k.slice e).Own B E w ⟨ad, n, cap, Z.set j x⟩) (hj : j < Z.length) (hc : k.cells x' = k.cells x) (hb : k.blocks x' = k.blocks x) (ho : k.Own B E w' x') (hw : WroteBy (k.blocks x) w w') :
    (k.slice e).Own B E w' ⟨ad, n, cap, Z.set j x'⟩ := by
  have := (Kd.Own.part h (j := j) (by simpa using hj) (x' := x') (by rw [nth_set9 hj]; exact hc) (by rw [nth_set9 hj]; exact hb) ho (by rw [nth_set9 hj]; exact hw)).1
  rwa [List.set_set] at this
theorem Kd.Own.put9 (h : (k.slice e).Own B E w ⟨some ⟨g, 0, none⟩, n, cap, Z.set j x⟩) (hn : n = Z.length) (hj : j < Z.length) {i : Nat} (hi : i < k.size) {u : Value} (hc : k.cells x' = (k.cells x).set i u) (hb : k.blocks x' = k.blocks x) (ho : ∀ {W : World}, k.own B W x → k.own B W x') :
    (k.slice e).Own B E (w.setCell ⟨g, j * k.size + i, none⟩ u) ⟨some ⟨g, 0, none⟩, n, cap, Z.set j x'⟩ := by
  have := (Kd.Own.put h (j := j) (by simpa using hn) (by simpa using hj) hi (u := u) (x' := x') (by rw [nth_set9 hj]; exact hc) (by rw [nth_set9 hj]; exact hb) (by rw [nth_set9 hj]; exact ho)).1
  rwa [List.set_set] at this
theorem Kd.Own.cell9 (h : (k.slice e).Own B E w ⟨some ⟨g, 0, none⟩, n, cap, Z.set j x⟩) (hn : n = Z.length) (hj : j < Z.length) {i : Nat} (hi : i < k.size) : w.cell? ⟨g, j * k.size + i, none⟩ = (k.cells x)[i]? ∧ w.frozen? ⟨g, j * k.size + i, none⟩ = false := by
  have := ownK_cell (fun m => k.len m) h.row (by simpa using hn) (j := j) (by simpa using hj) hi
  rwa [nth_set9 hj] at this
theorem nth_over {γ : Type} [Inhabited γ] {M L : List γ} {j : Nat} (hm : M.length = j) (hj : j < L.length) : nth (M ++ L.drop j) j = nth L j := by
  simp only [nth, List.getD]
  rw [List.getElem?_append_right (by rw [hm]; exact Nat.le_refl _), hm]
  simp
theorem set_over {γ : Type} [Inhabited γ] {M L : List γ} {j : Nat} (hm : M.length = j) (hj : j < L.length) (x : γ) : (M ++ L.drop j).set j x = M ++ [x] ++ L.drop (j + 1) := by
  have hd : L.drop j = nth L j :: L.drop (j + 1) := by rw [nth_eq hj, List.getElem_cons_drop]
  rw [List.set_append_right _ _ (by rw [hm]; exact Nat.le_refl _), hm, Nat.sub_self, hd, List.set_cons_zero, List.append_assoc]
  rfl
end
end Go.Proofs.Ytdaahcaafdleaaa.Row
/- Lists of Route: marked and looked at. No conditions but that lengths fit. -/
namespace Go.Proofs.Ytdaahcaafdleaaa.Row
open Go.ChangeShapes Go.WideShapes Go.ChangeAt Go.RowKit Go.Instr
set_option linter.unusedVariables false
set_option maxRecDepth 100000
def mvRt (z : Rtt) : Nat := z.1.length + 2
def meRt (q : Int) (z : Rtt) : Rtt := (marks markT (q) z.1.length, q + (z.1.length : Int), q + (z.1.length : Int) + 1)
theorem mfRt0 (B E : Nat) (x : Rtm) (w : World) (q : Int) (a : Nat) (ha : (kRt.strip x).1.length = a) (ho : kRt.Own B E w x) (hl : a ≤ 100000000) (h0 : 0 ≤ q) (h1 : q + (a : Int) ≤ 100000000000) :
    Calls Try.prog 60 #[x.1.v, .int .i64 q] w fun e w' => e = .returned (.int .i64 (q + (a : Int))) ∧ ∃ x', kRt.cells x' = kRt.cells x ∧ kRt.blocks x' = kRt.blocks x ∧ kRt.strip x' = (marks markT (q) (kRt.strip x).1.length, (kRt.strip x).2.1, (kRt.strip x).2.2) ∧ kRt.Own B E w' x' ∧ WroteBy (kRt.blocks x) w w' := by
  subst ha
  exact (markF_N.fst _) B E x w q ho hl h0 h1
set_option maxHeartbeats 4000000 in
theorem markRouteSK (B E : Nat) (m : Rw Rtm) (w : World) (k : Int) (h : kLRt.Own B E w m) (hl : advK mvRt (kLRt.strip m) ≤ 100000000) (h0 : 0 ≤ k) (h1 : k + (advK mvRt (kLRt.strip m) : Int) ≤ 100000000000) :
    Calls Try.prog 25 #[kLRt.val m, .int .i64 k] w fun e w' => e = .returned (.int .i64 (k + (advK mvRt (kLRt.strip m) : Int))) ∧ ∃ m', kLRt.val m' = kLRt.val m ∧ kLRt.blocks m' = kLRt.blocks m ∧ kLRt.strip m' = mkLK mvRt meRt k (kLRt.strip m) ∧ kLRt.Own B E w' m' ∧ WroteBy (kLRt.blocks m) w w' := by
  obtain ⟨ad, n, cap, L⟩ := m
  replace h : (kRt.slice 53).Own B E w ⟨ad, n, cap, L⟩ := h
  replace hl : advK mvRt (L.map kRt.strip) ≤ 100000000 := hl
  replace h1 : k + (advK mvRt (L.map kRt.strip) : Int) ≤ 100000000000 := h1
  show Calls Try.prog 25 #[.slice ad n cap, .int .i64 k] w fun e w' => e = .returned (.int .i64 (k + (advK mvRt (L.map kRt.strip) : Int))) ∧ ∃ m' : Rw Rtm, Rw.v m' = .slice ad n cap ∧ (kRt.slice 53).blocks m' = (kRt.slice 53).blocks ⟨ad, n, cap, L⟩ ∧ m'.els.map kRt.strip = mkLK mvRt meRt k (L.map kRt.strip) ∧ (kRt.slice 53).Own B E w' m' ∧ WroteBy ((kRt.slice 53).blocks ⟨ad, n, cap, L⟩) w w'
  rcases h.row.form with ⟨hv, hL⟩ | ⟨g, cap', hv, g1, g2, g3, g4⟩
  · cases hv
    subst hL
    have H := Lib.hid h; clear h
    go_enter Try.func25, Try.ntmps25
    go_wp2
    refine wp_loop_rounds 1 ?_
    rw [rounds_succ]
    go_wp2
    go_ret
    exact ⟨ret_int (by simp [advK]), ⟨⟨none, 0, 0, []⟩, rfl, rfl, rfl, H.out, WroteBy.refl _ _⟩⟩
  · cases hv
    have HROWLT := g2
    obtain ⟨n, hn⟩ : ∃ n, n = L.length := ⟨_, rfl⟩
    rw [← hn] at h g3 ⊢
    obtain ⟨l, hl9⟩ : ∃ l, L.map kRt.strip = l := ⟨_, rfl⟩
    rw [hl9] at hl h1 ⊢
    have hll : l.length = n := by rw [← hl9, List.length_map, hn]
    obtain ⟨bs, hbs⟩ : ∃ bs, (kRt.slice 53).blocks ⟨some ⟨g, 0, none⟩, n, cap, L⟩ = bs := ⟨_, rfl⟩
    have hgb : g ∈ bs := by rw [← hbs]; exact List.mem_append_left _ (by simp [Value.ownBlock, Rw.v])
    have heb : ∀ x ∈ L, ∀ q ∈ kRt.blocks x, q ∈ bs := fun x hx q hq => by rw [← hbs]; exact List.mem_append_right _ (List.mem_flatMap.2 ⟨x, hx, hq⟩)
    have hmaxl : n ≤ 140737488351232 ∨ True := Or.inr trivial
    have hn2 : n ≤ maxLen := by rw [hn]; exact h.row.len
    unfold maxLen at hn2
    rw [hbs]
    have HN := Lib.hid hn; have HT := Lib.hid hl9; have HLL := Lib.hid hll; have HBS := Lib.hid hbs; have HGB := Lib.hid hgb; have HEB := Lib.hid heb
    have HST := Lib.hid (fun j (hj : j < n) => advK_take mvRt (l := l) (j := j) (by rw [hll]; exact hj))
    have HLE := Lib.hid (fun j => advK_take_le mvRt l j)
    have HB : Hid ((kRt.slice 53).Own B E w ⟨some ⟨g, 0, none⟩, n, cap, [] ++ L.drop 0⟩) := Lib.hid (by simpa using h)
    clear hn h hl9 hll hbs hgb heb hmaxl
    go_enter Try.func25, Try.ntmps25
    go_wp2
    go_loopw [1, 5] (fun kv i wr => ∃ j : Nat, j ≤ n ∧ i = .int .i64 j ∧ ∃ p : Int, kv = .int .i64 p ∧ 0 ≤ p ∧ p ≤ 100000000000 ∧ Hid (p = k + (advK mvRt (l.take j) : Int)) ∧ ∃ M : List Rtm, Hid (M.length = j) ∧ Hid (M.map kRt.strip = mkLK mvRt meRt k (l.take j)) ∧ Hid (M.map kRt.blocks = (L.take j).map kRt.blocks) ∧ Hid ((kRt.slice 53).Own B E wr ⟨some ⟨g, 0, none⟩, n, cap, M ++ L.drop j⟩) ∧ Hid (WroteBy bs w wr)) (fun _ i _ => n - (intOf i).toNat)
    case atStart => exact ⟨0, Nat.zero_le _, rfl, k, rfl, h0, by omega, Lib.hid (by simp [advK]), [], Lib.hid rfl, Lib.hid (by simp [mkLK]), Lib.hid rfl, HB, Lib.hid (WroteBy.refl _ _)⟩
    case round =>
      obtain ⟨j, hj, rfl, p, rfl, hp0, hp1, HP, M, HM1, HM2, HM3, HO, HW⟩ := hrel
      by_cases hlt : j < n
      · have hjL : j < L.length := by have := HN.out; omega
        obtain ⟨x0, hx0⟩ : ∃ x, nth L j = x := ⟨_, rfl⟩
        obtain ⟨Z, hZ⟩ : ∃ Z, M ++ L.drop j = Z := ⟨_, rfl⟩
        have hZl : n = Z.length := by rw [← hZ, List.length_append, HM1.out, List.length_drop]; have := HN.out; omega
        have hjZ : j < Z.length := by omega
        have hx9 : nth Z j = x0 := by rw [← hZ, nth_over HM1.out hjL, hx0]
        have ho := HO.out
        rw [hZ, ← set_nth9 hjZ, hx9] at ho
        have hst := HST.out j hlt
        rw [show nth l j = kRt.strip x0 by rw [← HT.out, nth_map _ hjL, hx0]] at hst
        have hle := HLE.out (j + 1)
        have hxb := HEB.out x0 (by rw [← hx0]; exact nth_mem hjL)
        obtain ⟨a0, ha0⟩ : ∃ a, (kRt.strip x0).1.length = a := ⟨_, rfl⟩
        have hmv : mvRt (kRt.strip x0) = a0 + 2 := by unfold mvRt; rw [ha0]
        rw [hmv] at hst
        have hp := HP.out
        have ba0 : a0 ≤ 100000000 := by omega
        have btot : p + ((a0 + 2 : Nat) : Int) ≤ 100000000000 := by omega
        have HX0 := Lib.hid hx0; have HZ := Lib.hid hZ; have HZL := Lib.hid hZl; have HJZ := Lib.hid hjZ; have HO0 := Lib.hid ho; have HSTP := Lib.hid hst; have HXB := Lib.hid hxb; have HJL := Lib.hid hjL; have HMV := Lib.hid hmv
        have HA0_0 := Lib.hid ha0
        have HW0 := HW
        clear hx0 hZ hZl hjZ hx9 ho hst hle hxb hp hjL hmv ha0
        have c : wr.cell? ⟨g, j * 3, none⟩ = some x0.1.v := (HO0.out.cell9 HZL.out HJZ.out (i := 0) (by decide)).1
        go_wp2_with fail
        clear c
        refine (mfRt0 B E x0 wr (p) a0 HA0_0.out (HO0.out.elem9 HJZ.out) ba0 (by omega) (by omega)).mono ?_
        rintro e w1 ⟨rfl, x1, hc, hb, hs, ho, hw⟩
        have HO1 := Lib.hid (HO0.out.part9 HJZ.out hc hb ho hw); have HB1 := Lib.hid hb; have HS1 := Lib.hid hs
        have HW1 := Lib.hid (HW0.out.trans (hw.more (fun q hq => HXB.out q hq)))
        clear hc hb hs ho hw
        have c1 : w1.cell? ⟨g, j * 3 + 1, none⟩ = some (.int .i64 x1.2.1) := (HO1.out.cell9 HZL.out HJZ.out (i := 1) (by decide)).1; have t1 : w1.frozen? ⟨g, j * 3 + 1, none⟩ = false := (HO1.out.cell9 HZL.out HJZ.out (i := 1) (by decide)).2
        have c2 : w1.cell? ⟨g, j * 3 + 2, none⟩ = some (.int .i64 x1.2.2) := (HO1.out.cell9 HZL.out HJZ.out (i := 2) (by decide)).1; have t2 : w1.frozen? ⟨g, j * 3 + 2, none⟩ = false := (HO1.out.cell9 HZL.out HJZ.out (i := 2) (by decide)).2
        have HOF : Hid ((kRt.slice 53).Own B E ((w1.setCell ⟨g, j * 3 + 1, none⟩ (.int .i64 (p + (a0 : Int)))).setCell ⟨g, j * 3 + 2, none⟩ (.int .i64 (p + (a0 : Int) + 1))) ⟨some ⟨g, 0, none⟩, n, cap, Z.set j (x1.1, p + (a0 : Int), p + (a0 : Int) + 1)⟩) := Lib.hid (Kd.Own.put9 (x' := ((x1.1, p + (a0 : Int), p + (a0 : Int) + 1) : Rtm)) (Kd.Own.put9 (x' := ((x1.1, p + (a0 : Int), x1.2.2) : Rtm)) HO1.out HZL.out HJZ.out (i := 1) (by decide) (u := .int .i64 (p + (a0 : Int))) rfl rfl (fun h => h)) HZL.out HJZ.out (i := 2) (by decide) (u := .int .i64 (p + (a0 : Int) + 1)) rfl rfl (fun h => h))
        have HWF : Hid (WroteBy bs w ((w1.setCell ⟨g, j * 3 + 1, none⟩ (.int .i64 (p + (a0 : Int)))).setCell ⟨g, j * 3 + 2, none⟩ (.int .i64 (p + (a0 : Int) + 1)))) := Lib.hid ((HW1.out.trans (WroteBy.of (Ret.grownBy_set w1 ⟨g, j * 3 + 1, none⟩ (.int .i64 (p + (a0 : Int)))) (fun q hq => by cases hq; exact HGB.out))).trans (WroteBy.of (Ret.grownBy_set (w1.setCell ⟨g, j * 3 + 1, none⟩ (.int .i64 (p + (a0 : Int)))) ⟨g, j * 3 + 2, none⟩ (.int .i64 (p + (a0 : Int) + 1))) (fun q hq => by cases hq; exact HGB.out)))
        have HSF : Hid (kRt.strip (x1.1, p + (a0 : Int), p + (a0 : Int) + 1) = meRt p (kRt.strip x0)) := Lib.hid (by
          show ((kRt.strip x1).1, p + (a0 : Int), p + (a0 : Int) + 1) = _
          unfold meRt
          simp only [HS1.out, HA0_0.out])
        have HBF : Hid (kRt.blocks (x1.1, p + (a0 : Int), p + (a0 : Int) + 1) = kRt.blocks x0) := Lib.hid (show _ = _ from HB1.out)
        clear HO0 HW0 HO1 HW1 HB1 HS1
        go_wp2_with fail
        go_roundw
        case rel =>
          refine ⟨j + 1, by omega, by go_num, p + (a0 : Int) + 1 + 1, by go_num, by omega, by omega, Lib.hid ?_, M ++ [(x1.1, p + (a0 : Int), p + (a0 : Int) + 1)], Lib.hid ?_, Lib.hid ?_, Lib.hid ?_, Lib.hid ?_, HWF⟩
          · rw [HSTP.out, HP.out]; omega
          · simp [HM1.out]
          · rw [List.map_append, HM2.out, mkLK_take _ _ _ (by rw [HLL.out]; exact hlt), show nth l j = kRt.strip x0 by rw [← HT.out, nth_map _ HJL.out, HX0.out], ← HP.out, ← HSF.out]
            rfl
          · rw [List.map_append, HM3.out, List.take_succ_eq_append_getElem HJL.out, List.map_append, ← nth_eq HJL.out, HX0.out]
            simp only [List.map_cons, List.map_nil]
            rw [HBF.out]
          · have h9 := HOF.out
            rw [← HZ.out, set_over HM1.out HJL.out] at h9
            exact h9
        case measure => simp [intOf]; omega
      · obtain rfl : j = n := by omega
        clear hlt
        go_wp2
        go_ret
        have hn := HN.out
        have hp := HP.out
        have e1 : l.take j = l := List.take_of_length_le (by rw [HLL.out]; exact Nat.le_refl _)
        have e2 : L.take j = L := List.take_of_length_le (by omega)
        have e3 : L.drop j = [] := List.drop_eq_nil_of_le (by omega)
        have hh := HO.out
        have hm2 := HM2.out
        have hm3 := HM3.out
        rw [e1] at hp hm2
        rw [e2] at hm3
        rw [e3, List.append_nil] at hh
        refine ⟨ret_int hp, ⟨some ⟨g, 0, none⟩, j, cap, M⟩, rfl, ?_, hm2, hh, HW.out⟩
        rw [← HBS.out]
        show _ ++ M.flatMap kRt.blocks = _ ++ L.flatMap kRt.blocks
        rw [List.flatMap_def, List.flatMap_def, hm3]
        rfl
set_option maxHeartbeats 4000000 in
theorem heldRouteSK (V : Value) (l : List Rtt) (w : World) (k : Int) (h : kLRt.At w V (mkLK mvRt meRt k l)) (hl : advK mvRt l ≤ 100000000) (hlen : l.length ≤ 100000000) (h0 : 0 ≤ k) (h1 : k + (advK mvRt l : Int) ≤ 100000000000) :
    Calls Try.prog 27 #[V, .int .i64 k] w fun e w' => e = .returned (.int .i64 (k + (advK mvRt l : Int))) ∧ Below w.heap.size w w' := by
  obtain ⟨ad, n, cap, L, rfl, hn, hL, hh, hel⟩ := kLRt_at h
  have hll : l.length = n := by have := congrArg List.length hL; rw [List.length_map, mkLK_length] at this; omega
  rw [hll] at hlen
  have HN := Lib.hid hn; have HT := Lib.hid hL; have HH := Lib.hid hh; have HEL := Lib.hid hel; have HLL := Lib.hid hll
  have HST := Lib.hid (fun j (hj : j < n) => advK_take mvRt (l := l) (j := j) (by rw [hll]; exact hj))
  have HLE := Lib.hid (fun j => advK_take_le mvRt l j)
  clear h hn hL hh hel hll
  go_enter Try.func27, Try.ntmps27
  go_wp2
  go_loopw [1, 5] (fun kv i wr => ∃ j : Nat, j ≤ n ∧ i = .int .i64 j ∧ ∃ p : Int, kv = .int .i64 p ∧ 0 ≤ p ∧ p ≤ 100000000000 ∧ Hid (p = k + (advK mvRt (l.take j) : Int)) ∧ Hid (Below w.heap.size w wr)) (fun _ i _ => n - (intOf i).toNat)
  case atStart => exact ⟨0, Nat.zero_le _, rfl, k, rfl, h0, by omega, Lib.hid (by simp [advK]), Lib.hid (Below.refl _ _)⟩
  case round =>
    obtain ⟨j, hj, rfl, p, rfl, hp0, hp1, HP, hb⟩ := hrel
    by_cases hlt : j < n
    · have hn := HN.out
      obtain ⟨b, off, x0, n0, c0, rfl, -, hc0, hc1, hc2, ha⟩ := kLRt_elem (HH.out.on hb.out) (fun y hy => kRt.holds_on (HEL.out y hy) hb.out) (j := j) (by omega)
      have hme : kRt.strip (nth L j) = meRt p (nth l j) := by rw [← nth_map kRt.strip (by omega), HT.out, mkLK_at _ _ _ (by rw [HLL.out]; exact hlt), ← HP.out]
      rw [hme] at ha hc1 hc2
      have hst := HST.out j hlt
      have hle := HLE.out (j + 1)
      obtain ⟨z, hz⟩ : ∃ z, nth l j = z := ⟨_, rfl⟩
      rw [hz] at ha hst hc1 hc2
      obtain ⟨y0, m0, d0, e9, g0⟩ := kRt_at ha
      cases e9
      obtain ⟨a0, ha0⟩ : ∃ a, z.1.length = a := ⟨_, rfl⟩
      obtain ⟨v9, e9, h9_0⟩ := kN_at g0
      cases e9
      have hmv : mvRt z = a0 + 2 := by unfold mvRt; rw [ha0]
      rw [hmv] at hst
      have hp := HP.out
      have G0 := Lib.hid (show Holds Value.string wr (.slice x0 n0 c0) (marks markT (p) a0) from by have h8 := h9_0; simp only [meRt, ha0] at h8; exact h8)
      have HC1 := Lib.hid (show wr.cell? ⟨b, off + j * 3 + 1, none⟩ = some (.int .i64 (p + (a0 : Int))) from by have h8 := hc1; simp only [meRt, ha0] at h8; exact h8)
      have HC2 := Lib.hid (show wr.cell? ⟨b, off + j * 3 + 2, none⟩ = some (.int .i64 (p + (a0 : Int) + 1)) from by have h8 := hc2; simp only [meRt, ha0] at h8; exact h8)
      have HC0 := Lib.hid (show wr.cell? ⟨b, off + j * 3, none⟩ = some (.slice x0 n0 c0) from hc0)
      have ba0 : a0 ≤ 100000000 := by omega
      have btot : p + ((a0 + 2 : Nat) : Int) ≤ 100000000000 := by omega
      have HSTP := Lib.hid hst
      clear hn ha hme hst hle hmv hp hz hc0 hc1 hc2 ha0 h9_0 g0
      have c : wr.cell? ⟨b, off + j * 3, none⟩ = some (.slice x0 n0 c0) := HC0.out
      go_wp2_with fail
      clear c
      refine (heldStringS _ _ (p) a0 G0.out ba0 (by omega) (by omega)).mono ?_
      rintro e w1 ⟨rfl, hb1⟩
      replace HC1 := Lib.hid ((hb1.cell (Ret.cell_lt HC1.out)).trans HC1.out)
      replace HC2 := Lib.hid ((hb1.cell (Ret.cell_lt HC2.out)).trans HC2.out)
      replace hb := Lib.hid (hb.out.trans (hb1.mono hb.out.size)); clear hb1
      have bq : ¬ p + (a0 : Int) < 0 := by omega
      have c19 : w1.cell? ⟨b, off + j * 3 + 1, none⟩ = some (.int .i64 (p + (a0 : Int))) := HC1.out
      have c29 : w1.cell? ⟨b, off + j * 3 + 2, none⟩ = some (.int .i64 (p + (a0 : Int) + 1)) := HC2.out
      go_wp2_with fail
      go_roundw
      case rel => exact ⟨j + 1, by omega, by go_num, p + (a0 : Int) + 1 + 1, by go_num, by omega, by omega, Lib.hid (by rw [HSTP.out, HP.out]; omega), hb⟩
      case measure => simp [intOf]; omega
    · obtain rfl : j = n := by omega
      clear hlt
      go_wp2
      go_ret
      have hp := HP.out
      rw [show l.take j = l from List.take_of_length_le (by rw [HLL.out]; exact Nat.le_refl _)] at hp
      exact ⟨ret_int hp, hb.out⟩
theorem lenAdvRt : ∀ l : List Rtt, l.length ≤ advK mvRt l
  | [] => Nat.le_refl _
  | x :: r => by
    have h := lenAdvRt r
    have h2 : 1 ≤ mvRt x := by unfold mvRt; omega
    simp only [advK, List.length_cons]
    omega
theorem heldRouteSA (V : Value) (l : List Rtt) (w : World) (k : Int) (a : Nat) (ha : advK mvRt l = a) (h : kLRt.At w V (mkLK mvRt meRt k l)) (hl : a ≤ 100000000) (h0 : 0 ≤ k) (h1 : k + (a : Int) ≤ 100000000000) :
    Calls Try.prog 27 #[V, .int .i64 k] w fun e w' => e = .returned (.int .i64 (k + (a : Int))) ∧ Below w.heap.size w w' := by
  subst ha
  exact heldRouteSK V l w k h hl (Nat.le_trans (lenAdvRt l) hl) h0 h1
end Go.Proofs.Ytdaahcaafdleaaa.Row
/- Lists of routes in the words of the exact laws: marks; how much the answers of chapter 14's functions hold. No conditions but that lengths fit. -/
namespace Go.Proofs.Ytdaahcaafdleaaa.Row
open Go.ChangeShapes Go.WideShapes Go.ChangeAt Go.RowKit Go.Instr
set_option linter.unusedVariables false
set_option maxRecDepth 100000
theorem bulkK_sumZ {α : Type} [Inhabited α] (f : α → Nat) (l : List α) : bulkK f l = l.length + (l.map f).sum := by unfold bulkK bulkKTo; rw [List.take_length]
theorem advK_sumZ {α : Type} (f : α → Nat) (l : List α) : advK f l = (l.map f).sum := by
  induction l with
  | nil => rfl
  | cons a r ih => simp [advK, ih]
theorem sum_subZ {α : Type} (f : α → Nat) {l m : List α} (h : l.Sublist m) : (l.map f).sum ≤ (m.map f).sum := by
  induction h with
  | slnil => exact Nat.le_refl _
  | cons a _ ih => simp only [List.map_cons, List.sum_cons]; omega
  | cons_cons a _ ih => simp only [List.map_cons, List.sum_cons]; omega
theorem inLRt.wf {l : List Rtt} (h : inLRt l) : ∀ x ∈ l, (Lit.int .i64 x.2.1).wf = true := fun x hx => (h.2 x hx).2.1
theorem inRt.wf {x : Rtt} (h : inRt x) : (Lit.int .i64 x.2.1).wf = true := h.2.1
theorem avRt_le (l : List Rtt) : advK mvRt l ≤ 2 * adLRt l := by
  unfold adLRt
  rw [advK_sumZ, bulkK_sumZ]
  have h : ∀ l : List Rtt, (l.map mvRt).sum = (l.map adRt).sum + 2 * l.length := fun l => by
    induction l with
    | nil => rfl
    | cons a r ih => simp only [List.map_cons, List.sum_cons, List.length_cons, ih]; show a.1.length + 2 + _ = a.1.length + _ + _; omega
  have := h l; omega
theorem avRt_big {l : List Rtt} {n : Nat} (h : bulkK wtRt l ≤ n) : advK mvRt l ≤ 2 * n := by
  have h1 := avRt_le l
  have h2 := adLRt_big h
  omega
theorem markLRtK (B E : Nat) (V : Value) (l : List Rtt) (w : World) (k : Int) (h : kLRt.In B E w V l) (hl : advK mvRt l ≤ 100000000) (h0 : 0 ≤ k) (h1 : k ≤ 1000000000) :
    Calls Try.prog 25 #[V, .int .i64 k] w fun e w' => e = .returned (.int .i64 (k + (advK mvRt l : Int))) ∧ kLRt.In B E w' V (mkLK mvRt meRt k l) ∧ Wrote B E w w' := by
  obtain ⟨m, rfl, rfl, hw9⟩ := h.split
  refine (markRouteSK B E m w k hw9 hl h0 (by omega)).mono ?_
  rintro e w' ⟨a, n, v, b, s, ho, hw⟩
  exact ⟨a, v ▸ s ▸ ho.in, hw.wrote (fun g hg => ⟨(hw9.lt g hg).1, (hw9.lt g hg).2.1⟩)⟩
theorem heldLRtK (V : Value) (w : World) (k : Int) (l : List Rtt) (h : kLRt.At w V (mkLK mvRt meRt k l)) (hl : advK mvRt l ≤ 100000000) (h0 : 0 ≤ k) (h1 : k ≤ 1000000000) :
    Calls Try.prog 27 #[V, .int .i64 k] w fun e w' => e = .returned (.int .i64 (k + (advK mvRt l : Int))) ∧ Below w.heap.size w w' :=
  heldRouteSA V l w k _ rfl h hl h0 (by omega)
theorem subRt {l m : List Rtt} (h : l.Sublist m) : adLRt l ≤ adLRt m ∧ advK mvRt l ≤ advK mvRt m := by
  have h1 := sum_subZ adRt h; have h2 := sum_subZ mvRt h; have h3 := h.length_le
  unfold adLRt
  rw [bulkK_sumZ, bulkK_sumZ, advK_sumZ, advK_sumZ]
  omega
theorem rmRt_sz (l : List Rtt) (f : Int) : adLRt (rmRt l f) ≤ adLRt l ∧ advK mvRt (rmRt l f) ≤ advK mvRt l := subRt List.filter_sublist
theorem addRt_sz (l : List Rtt) (r : Rtt) : adLRt (addRt l r) ≤ adLRt l + adRt r + 1 ∧ advK mvRt (addRt l r) ≤ advK mvRt l + adRt r + 2 := by
  have hr : adRt r = r.1.length := rfl
  unfold addRt
  split
  · unfold chgRt
    split
    · rename_i h
      have hk : (ixL (isRt r.1 r.2.1) l).toNat < l.length := by rcases ixL_cases (isRt r.1 r.2.1) l with ⟨e, -⟩ | ⟨j, hj, e, -⟩ <;> omega
      have e1 : ∀ f : Rtt → Nat, f ((nth l (ixL (isRt r.1 r.2.1) l).toNat).1, (nth l (ixL (isRt r.1 r.2.1) l).toNat).2.1, r.2.2) = f (nth l (ixL (isRt r.1 r.2.1) l).toNat) → ((l.set (ixL (isRt r.1 r.2.1) l).toNat ((nth l (ixL (isRt r.1 r.2.1) l).toNat).1, (nth l (ixL (isRt r.1 r.2.1) l).toNat).2.1, r.2.2)).map f) = l.map f := fun f hf => by
        rw [List.map_set, hf, nth_eq hk, ← List.map_set, List.set_getElem_self]
      unfold adLRt
      rw [bulkK_sumZ, bulkK_sumZ, advK_sumZ, advK_sumZ, List.length_set, e1 adRt rfl, e1 mvRt rfl]
      omega
    · unfold adLRt
      rw [bulkK_sumZ, bulkK_sumZ, advK_sumZ, advK_sumZ, List.map_append, List.map_append, List.sum_append, List.sum_append, List.length_append]
      have e1 : (List.map adRt [r]).sum = r.1.length := by simp [adRt]
      have e2 : (List.map mvRt [r]).sum = r.1.length + 2 := by simp [mvRt]
      rw [e1, e2]
      simp only [List.length_singleton]
      omega
  · omega
theorem mpN_sz (l : List Rtt) (m : List ByteArray) : (mpN l m).length ≤ adLRt l := by
  unfold mpN
  split
  · exact Nat.zero_le _
  · have h9 := mpI_lt l m l.length
    have hk : (mpI l m l.length).toNat < l.length := by omega
    exact bulkK_mem (f := adRt) (nth_mem hk)
end Go.Proofs.Ytdaahcaafdleaaa.Row
/- A slice of numbers that came in as an argument: it holds a list, its numbers fit their kind, its length is within the reach. No conditions. -/
namespace Go.Proofs.Ytdaahcaafdleaaa.Sl
open Go.ChangeShapes Go.WideShapes Go.ChangeAt Go.RowKit
end Go.Proofs.Ytdaahcaafdleaaa.Sl
/- AddRoute, model and program. No conditions but that lengths fit. -/
namespace Go.Proofs.Ytdaahcaafdleaaa.Row
open Go.ChangeShapes Go.WideShapes Go.ChangeAt Go.RowKit Go.Instr
set_option linter.unusedVariables false
set_option maxRecDepth 100000
theorem bulkK_sumR {α : Type} [Inhabited α] (f : α → Nat) (l : List α) : bulkK f l = l.length + (l.map f).sum := by
  unfold bulkK bulkKTo
  rw [List.take_length]
theorem chg_cases (l : List Rtt) (r : Rtt) : (ixL (isRt r.1 r.2.1) l = -1 ∧ chgRt l r = l ++ [r]) ∨ ∃ k, k < l.length ∧ ixL (isRt r.1 r.2.1) l = (k : Int) ∧ chgRt l r = l.set k ((nth l k).1, (nth l k).2.1, r.2.2) := by
  unfold chgRt
  rcases ixL_cases (isRt r.1 r.2.1) l with ⟨e, -⟩ | ⟨k, hk, e, -, -⟩
  · exact Or.inl ⟨e, by rw [e, if_neg (by omega)]⟩
  · exact Or.inr ⟨k, hk, e, by rw [e, if_pos (by omega)]; rfl⟩
theorem chg_fit (l : List Rtt) (r : Rtt) : bulkK wtRt (chgRt l r) ≤ bulkK wtRt l + wtRt r + 1 := by
  rcases chg_cases l r with ⟨-, e⟩ | ⟨k, hk, -, e⟩
  · rw [e, bulkK_sumR, bulkK_sumR]; simp; omega
  · rw [e, bulkK_sumR, bulkK_sumR, List.length_set, List.map_set]
    have h1 : (l.map wtRt).set k (wtRt ((nth l k).1, (nth l k).2.1, r.2.2)) = l.map wtRt := by
      rw [show wtRt ((nth l k).1, (nth l k).2.1, r.2.2) = wtRt (nth l k) from rfl, nth_eq hk]
      rw [← List.map_set, List.set_getElem_self]
    rw [h1]; omega
theorem chg_wf {l : List Rtt} {r : Rtt} (h : ∀ x ∈ l, (Lit.int .i64 x.2.1).wf = true) (hr : (Lit.int .i64 r.2.1).wf = true) : ∀ x ∈ chgRt l r, (Lit.int .i64 x.2.1).wf = true := by
  intro x hx
  rcases chg_cases l r with ⟨-, e⟩ | ⟨k, hk, -, e⟩
  · rw [e] at hx
    rcases List.mem_append.1 hx with h1 | h1
    · exact h x h1
    · rw [List.mem_singleton.1 h1]; exact hr
  · rw [e] at hx
    rcases List.mem_or_eq_of_mem_set hx with h1 | h1
    · exact h x h1
    · rw [h1]; exact h (nth l k) (nth_mem hk)
theorem row_formR {α M : Type} {k : Kd α M} {e : TypeId} {B E : Nat} {w : World} {x : Option Addr} {n c : Nat} {L : List M} (h : (k.slice e).Own B E w ⟨x, n, c, L⟩) {j : Nat} (hj : j < L.length) : ∃ g, x = some ⟨g, 0, none⟩ ∧ n = L.length ∧ n ≤ c ∧ B ≤ g ∧ g < w.heap.size := by
  have hnl : n = L.length := h.1.1.holds.lenEq
  have hnc : n ≤ c := by obtain ⟨x', n', cap', hv, hn', hc', -⟩ := h.1.1.holds.shapeN; cases hv; exact hc'
  rcases h.1.1.form with ⟨hv, hL⟩ | ⟨g, cap', hv, h1, h2, h3, h4⟩
  · rw [show L = [] from hL] at hj
    exact absurd hj (by simp)
  · replace hv : Value.slice x n c = .slice (some ⟨g, 0, none⟩) L.length cap' := hv
    injection hv with e5 e6 e7
    exact ⟨g, e5, hnl, hnc, h1, h2⟩
theorem put_cost {B : Nat} {w : World} {g n cap j : Nat} {L : List Rtm} {v : Int} (h : kLRt.Own B w.heap.size w ⟨some ⟨g, 0, none⟩, n, cap, L⟩) (hn : n = L.length) (hj : j < L.length) :
    kLRt.Own B (w.setCell ⟨g, j * 3 + 2, none⟩ (.int .i64 v)).heap.size (w.setCell ⟨g, j * 3 + 2, none⟩ (.int .i64 v)) ⟨some ⟨g, 0, none⟩, n, cap, L.set j ((nth L j).1, (nth L j).2.1, v)⟩ := by
  rw [World.size_setCell]
  exact (Kd.Own.put h hn hj (i := 2) (by decide) (u := .int .i64 v) (x' := (((nth L j).1, (nth L j).2.1, v) : Rtm)) rfl rfl (fun h => h)).1
theorem cost_strip {L : List Rtm} {j : Nat} {v : Int} (hj : j < L.length) : (L.set j (((nth L j).1, (nth L j).2.1, v) : Rtm)).map kRt.strip = (L.map kRt.strip).set j ((nth (L.map kRt.strip) j).1, (nth (L.map kRt.strip) j).2.1, v) := by
  rw [List.map_set, nth_map _ hj]
  rfl
def FirstAt (w : World) (b : Nat) (l : List Rtt) : Prop := w.ownsMap Try.prog 93 heldV b l.length (rtD l l.length)
theorem FirstAt.on {w w' : World} {b : Nat} {l : List Rtt} (h : FirstAt w b l) (hb : Below w.heap.size w w') : FirstAt w' b l := by
  obtain ⟨es, clock, hbk, r⟩ := h
  exact ⟨es, clock, (hb.block _ (Array.getElem?_eq_some_iff.1 hbk).1).trans hbk, r⟩
def GivesAdd (l : List Rtt) (r : Rtt) (w : World) (e : Ending) (w' : World) : Prop := ∃ U, e = .returned (.tuple #[U, .bool (validRts (chgRt l r))]) ∧ kLRt.In w.heap.size w'.heap.size w' U (addRt l r) ∧ Below w.heap.size w w'
set_option maxRecDepth 100000 in
set_option maxHeartbeats 4000000 in
theorem rad {Q : Exit → Act → World → Prop} {v1 v2 v4 v5 v6 v7 v8 v9 v10 v11 v12 v13 v14 v15 v16 v17 v18 v19 v20 v21 v22 v23 v24 v25 v26 v27 v28 v29 v30 v31 v32 v33 v34 v35 v36 : Value} {w : World} {p x0n x0c : Nat} {x0 : Option Addr} {l : List Rtt} {VL : Value} {nm : List ByteArray} {rf rc i : Int} {q : Bool} (H_l : Hid (kLRt.At w VL l)) (HFT : Hid (FitRt l)) (HWF : Hid (∀ x ∈ l, (Lit.int .i64 x.2.1).wf = true)) (H_r : Hid (kRt.At w (.agg #[.slice x0 x0n x0c, .int .i64 rf, .int .i64 rc]) (nm, rf, rc))) (HPB : Hid (bulk nm ≤ 1200000)) (HLK : Hid (∀ (W : World) (b : Nat), FirstAt W b l → (Instr.lookup 88 (.map (some b)) (.agg #[.string (txt nm), .int .i64 rf]) true).run Try.prog W = .ok (.tuple #[.int .i64 i, .bool q]) W)) (K0 : Hid (w.cell? ⟨p, 0, none⟩ = some (.slice x0 x0n x0c))) (K1 : Hid (w.cell? ⟨p, 1, none⟩ = some (.int .i64 rf))) (K2 : Hid (w.cell? ⟨p, 2, none⟩ = some (.int .i64 rc)))
  (hQ : ∀ (u11 u12 u13 u14 u15 u16 u17 u18 : Value)  (wx : World), Below w.heap.size w wx → Q .normal ⟨#[VL, v1, v2, .pointer (some ⟨p, 0, none⟩), v4, v5, v6, .int .i64 i, .bool q, v9, v10, u11, u12, u13, u14, u15, u16, u17, u18, v19, v20, v21, v22, v23, v24, v25, v26, v27, v28, v29, v30, v31, v32, v33, v34, v35, v36], []⟩ wx) :
  (Code.region 2 #[⟨some 12, .move (.tmp 0), 42, "l14_route.go:62", #[], none⟩,
   ⟨some 13, .call ⟨.value (.func 55), #[.tmp 12], #[42]⟩, 88, "l14_route.go:62", #[⟨0, .data⟩], none⟩,
   ⟨some 14, .load 53 (.tmp 3), 53, "l14_route.go:62", #[], none⟩,
   ⟨some 15, .call ⟨.value (.func 58), #[.tmp 14], #[53]⟩, 93, "l14_route.go:62", #[⟨2, .data⟩, ⟨1, .chain⟩], none⟩,
   ⟨some 16, .lookup 88 (.tmp 13) (.tmp 15) true, 91, "l14_route.go:62", #[⟨1, .data⟩, ⟨3, .data⟩], none⟩,
   ⟨some 11, .move (.tmp 16), 91, "l14_route.go:62", #[⟨4, .data⟩], none⟩,
   ⟨some 17, .extract (.tmp 11) 0, 3, "l14_route.go:62", #[⟨5, .data⟩], none⟩,
   ⟨some 18, .extract (.tmp 11) 1, 4, "l14_route.go:62", #[⟨5, .data⟩, { on := 8, ground := Ground.gcOnly Departure.lateStores }], none⟩,
   ⟨some 7, .assign (.tmp 17), 3, "l14_route.go:62", #[⟨6, .data⟩, ⟨3, .chain⟩, ⟨0, .phase⟩, ⟨1, .phase⟩, ⟨2, .phase⟩, ⟨3, .phase⟩, ⟨4, .phase⟩, ⟨5, .phase⟩, ⟨6, .phase⟩, { on := 7, ground := Ground.textOnly Departure.lateStores }], none⟩,
   ⟨some 8, .assign (.tmp 18), 4, "l14_route.go:62", #[⟨7, .data⟩, ⟨8, .chain⟩, ⟨0, .phase⟩, ⟨1, .phase⟩, ⟨2, .phase⟩, ⟨3, .phase⟩, ⟨4, .phase⟩, ⟨5, .phase⟩, ⟨6, .phase⟩, ⟨7, .phase⟩, ⟨8, .phase⟩], none⟩] true).wp Try.prog Q ⟨#[VL, v1, v2, .pointer (some ⟨p, 0, none⟩), v4, v5, v6, v7, v8, v9, v10, v11, v12, v13, v14, v15, v16, v17, v18, v19, v20, v21, v22, v23, v24, v25, v26, v27, v28, v29, v30, v31, v32, v33, v34, v35, v36], []⟩ w := by
 have HQ := Lib.hid hQ; clear hQ
 have hdr : Below w.heap.size w w.drew := (Below.refl _ _).drew
 have BB := Lib.hid hdr
 refine wp_region_noPanic ?_
 refine wp_region_held_drew (S := (fun w' => w'.cell? ⟨p, 0, none⟩ = some (.slice x0 x0n x0c) ∧ w'.cell? ⟨p, 1, none⟩ = some (.int .i64 rf) ∧ w'.cell? ⟨p, 2, none⟩ = some (.int .i64 rc))) (by kernel_rfl) ?_ (fun hHeld => ?_)
 ·
  exact ⟨kc K0.out BB.out, kc K1.out BB.out, kc K2.out BB.out⟩
 clear hdr
 generalize w.drew = wd at *
 refine wpAnyH_take (i := 0) (oi := ⟨some 12, .move (.tmp 0), 42, "l14_route.go:62", #[], none⟩) (v := ?_) rfl (by kernel_rfl) (by kernel_rfl) (by kernel_rfl) (fun _ _ _ h => h) (Or.inl ⟨by rfl, ?_⟩) (by assumption) ?_
 rotate_left
 ·
  intro w' hSw; (try dsimp only at hSw); first | (go_simp; done) | (go_simp; with_reducible rfl)
 (try simp only [Act.put, Row.pB0, Row.pB1, Row.pB2])
 refine wpAnyH_take (i := 2) (oi := ⟨some 14, .load 53 (.tmp 3), 53, "l14_route.go:62", #[], none⟩) (v := ?_) rfl (by kernel_rfl) (by kernel_rfl) (by kernel_rfl) (fun _ _ _ h => h) (Or.inl ⟨by rfl, ?_⟩) (by assumption) ?_
 rotate_left
 ·
  intro w' hSw; (try dsimp only at hSw); first | (go_simp; done) | (go_simp; with_reducible rfl)
 (try simp only [Act.put, Row.pB0, Row.pB1, Row.pB2])
 refine wpAnyH_ready (rs := [1]) (by kernel_rfl) (by simp) ?_
 refine AllReadyH.cons (o := ⟨some 13, .call ⟨.value (.func 55), #[.tmp 12], #[42]⟩, 88, "l14_route.go:62", #[⟨0, .data⟩], none⟩) rfl (fun K hK => ?_) AllReadyH.nil
 go_simp
 refine (iFirstRt _ l _ (H_l.out.on BB.out) HFT.out HWF.out).mono ?_
 rintro e wn1 ⟨b1, rfl, hm, -, hb⟩
 have HFM := Lib.hid (show FirstAt wn1 b1 l from hm); clear hm
 replace BB := Lib.hid (BB.out.trans (hb.mono BB.out.size))
 clear hb
 (try go_wp2_with fail)
 clear hHeld
 refine hK.out _ _ ?_ (fun hHeld => ?_)
 ·
  (try dsimp only); exact ⟨kc K0.out BB.out, kc K1.out BB.out, kc K2.out BB.out⟩
 clear hK K
 (try simp only [Act.put, Row.pB0, Row.pB1, Row.pB2])
 refine wpAnyH_ready (rs := [3]) (by kernel_rfl) (by simp) ?_
 refine AllReadyH.cons (o := ⟨some 15, .call ⟨.value (.func 58), #[.tmp 14], #[53]⟩, 93, "l14_route.go:62", #[⟨2, .data⟩, ⟨1, .chain⟩], none⟩) rfl (fun K hK => ?_) AllReadyH.nil
 go_simp
 refine (iKeyRt _ (nm, rf, rc) _ (H_r.out.on BB.out) HPB.out).mono ?_
 rintro e wn2 ⟨rfl, hb⟩
 replace HFM := Lib.hid (HFM.out.on hb)
 replace BB := Lib.hid (BB.out.trans (hb.mono BB.out.size))
 clear hb
 (try go_wp2_with fail)
 clear hHeld
 refine hK.out _ _ ?_ (fun hHeld => ?_)
 ·
  (try dsimp only); exact ⟨kc K0.out BB.out, kc K1.out BB.out, kc K2.out BB.out⟩
 clear hK K
 (try simp only [Act.put, Row.pB0, Row.pB1, Row.pB2])
 refine wpAnyH_ready (rs := [4]) (by kernel_rfl) (by simp) ?_
 refine AllReadyH.cons (o := ⟨some 16, .lookup 88 (.tmp 13) (.tmp 15) true, 91, "l14_route.go:62", #[⟨1, .data⟩, ⟨3, .data⟩], none⟩) rfl (fun K hK => ?_) AllReadyH.nil
 have hlook := HLK.out _ _ HFM.out
 go_simp
 clear hHeld
 refine hK.out _ _ ?_ (fun hHeld => ?_)
 ·
  (try dsimp only); exact ⟨kc K0.out BB.out, kc K1.out BB.out, kc K2.out BB.out⟩
 clear hK K hlook
 (try simp only [Act.put, Row.pB0, Row.pB1, Row.pB2])
 refine wpAnyH_take (i := 5) (oi := ⟨some 11, .move (.tmp 16), 91, "l14_route.go:62", #[⟨4, .data⟩], none⟩) (v := ?_) rfl (by kernel_rfl) (by kernel_rfl) (by kernel_rfl) (fun _ _ _ h => h) (Or.inl ⟨by rfl, ?_⟩) (by assumption) ?_
 rotate_left
 ·
  intro w' hSw; (try dsimp only at hSw); first | (go_simp; done) | (go_simp; with_reducible rfl)
 (try simp only [Act.put, Row.pB0, Row.pB1, Row.pB2])
 refine wpAnyH_take (i := 6) (oi := ⟨some 17, .extract (.tmp 11) 0, 3, "l14_route.go:62", #[⟨5, .data⟩], none⟩) (v := ?_) rfl (by kernel_rfl) (by kernel_rfl) (by kernel_rfl) (fun _ _ _ h => h) (Or.inl ⟨by rfl, ?_⟩) (by assumption) ?_
 rotate_left
 ·
  intro w' hSw; (try dsimp only at hSw); first | (go_simp; done) | (go_simp; with_reducible rfl)
 (try simp only [Act.put, Row.pB0, Row.pB1, Row.pB2])
 refine wpAnyH_take (i := 7) (oi := ⟨some 18, .extract (.tmp 11) 1, 4, "l14_route.go:62", #[⟨5, .data⟩, { on := 8, ground := Ground.gcOnly Departure.lateStores }], none⟩) (v := ?_) rfl (by kernel_rfl) (by kernel_rfl) (by kernel_rfl) (fun _ _ _ h => h) (Or.inl ⟨by rfl, ?_⟩) (by assumption) ?_
 rotate_left
 ·
  intro w' hSw; (try dsimp only at hSw); first | (go_simp; done) | (go_simp; with_reducible rfl)
 (try simp only [Act.put, Row.pB0, Row.pB1, Row.pB2])
 refine wpAnyH_take (i := 8) (oi := ⟨some 7, .assign (.tmp 17), 3, "l14_route.go:62", #[⟨6, .data⟩, ⟨3, .chain⟩, ⟨0, .phase⟩, ⟨1, .phase⟩, ⟨2, .phase⟩, ⟨3, .phase⟩, ⟨4, .phase⟩, ⟨5, .phase⟩, ⟨6, .phase⟩, { on := 7, ground := Ground.textOnly Departure.lateStores }], none⟩) (v := ?_) rfl (by kernel_rfl) (by kernel_rfl) (by kernel_rfl) (fun _ _ _ h => h) (Or.inl ⟨by rfl, ?_⟩) (by assumption) ?_
 rotate_left
 ·
  intro w' hSw; (try dsimp only at hSw); first | (go_simp; done) | (go_simp; with_reducible rfl)
 (try simp only [Act.put, Row.pB0, Row.pB1, Row.pB2])
 refine wpAnyH_take (i := 9) (oi := ⟨some 8, .assign (.tmp 18), 4, "l14_route.go:62", #[⟨7, .data⟩, ⟨8, .chain⟩, ⟨0, .phase⟩, ⟨1, .phase⟩, ⟨2, .phase⟩, ⟨3, .phase⟩, ⟨4, .phase⟩, ⟨5, .phase⟩, ⟨6, .phase⟩, ⟨7, .phase⟩, ⟨8, .phase⟩], none⟩) (v := ?_) rfl (by kernel_rfl) (by kernel_rfl) (by kernel_rfl) (fun _ _ _ h => h) (Or.inl ⟨by rfl, ?_⟩) (by assumption) ?_
 rotate_left
 ·
  intro w' hSw; (try dsimp only at hSw); first | (go_simp; done) | (go_simp; with_reducible rfl)
 (try simp only [Act.put, Row.pB0, Row.pB1, Row.pB2])
 refine wpAnyH_done (by kernel_rfl) ?_ _
 exact NoPanic.normal (HQ.out _ _ _ _ _ _ _ _  _  BB.out)
set_option maxHeartbeats 16000000 in
theorem specAddRoute (V U : Value) (l : List Rtt) (r : Rtt) (w : World) (h : kLRt.At w V l) (g : kRt.At w U r) (hf : bulkK wtRt l + wtRt r ≤ 1090000) :
    Calls Try.prog 21 #[V, U] w (GivesAdd l r w) := by
  obtain ⟨x, n, c, rfl, h⟩ := kLRt_shapeA h
  obtain ⟨x0, n0, c0, rfl, g⟩ := kRt_shapeA g
  have gN := kRt_parts g
  have HF := Lib.hid (show FitRt l by unfold FitRt; omega)
  have HFC := Lib.hid (show FitRt (chgRt l r) by unfold FitRt; have := chg_fit l r; omega)
  have hpn : bulk r.1 ≤ 1200000 := by have h5 : wtRt r = bulk r.1 := rfl; omega
  obtain ⟨nm, rf, rc⟩ := r
  simp only at g gN hpn HFC ⊢
  have HH0 := Lib.hid h
  have hal := (Below.refl w.heap.size w).alloc (Nat.le_refl _) (.cells #[.slice x0 n0 c0, .int .i64 rf, .int .i64 rc] 53)
  have HX := Lib.hid (Ret.Blk.new w #[.slice x0 n0 c0, .int .i64 rf, .int .i64 rc] 53)
  have HH := Lib.hid (h.on hal); have HG := Lib.hid (g.on hal); have HGN := Lib.hid (gN.on hal); have HB := Lib.hid hal; have HPN := Lib.hid hpn
  have hs0 : (w.alloc (.cells #[.slice x0 n0 c0, .int .i64 rf, .int .i64 rc] 53)).heap.size = w.heap.size + 1 := by simp
  obtain ⟨z, hz⟩ : ∃ z, ixL (isRt nm rf) l = z := ⟨_, rfl⟩
  obtain ⟨q9, hq9⟩ : ∃ q, validRts (chgRt l (nm, rf, rc)) = q := ⟨_, rfl⟩
  have HZ := Lib.hid hz; have HQ9 := Lib.hid hq9
  unfold GivesAdd
  clear h g gN hal hf hz hq9 hpn
  go_enter Try.func21, Try.ntmps21
  go_wp2_with fail
  refine (sCopyRt _ l _ HH.out HF.out).mono ?_
  rintro e w1 ⟨U, rfl, hi, hb1⟩
  obtain ⟨⟨xu, nu, cu, Lu⟩, rfl, hs, hi⟩ := hi.split
  replace hs : Lu.map kRt.strip = l := hs
  rw [show kLRt.val (⟨xu, nu, cu, Lu⟩ : Rw Rtm) = .slice xu nu cu from rfl]
  rw [hs0] at hi
  have HO := Lib.hid hi; have HS := Lib.hid hs
  replace HX := Lib.hid (HX.out.on hb1); replace HH := Lib.hid (HH.out.on hb1); replace HG := Lib.hid (HG.out.on hb1); replace HGN := Lib.hid (HGN.out.on hb1); replace HB := Lib.hid (HB.out.trans (hb1.mono HB.out.size))
  clear hi hs hb1 hs0
  have q0 := HX.out.cell 0; have q1 := HX.out.cell 1; have q2 := HX.out.cell 2
  go_wp2_with fail
  refine (sFindRt _ _ l nm rf _ z HZ.out HH.out HGN.out HF.out.len9 HF.out.each HPN.out).mono ?_
  rintro e w2 ⟨rfl, hb2⟩
  clear q0 q1 q2
  replace HO := Lib.hid (HO.out.upto hb2); replace HB := Lib.hid (HB.out.trans (hb2.mono HB.out.size)); replace HX := Lib.hid (HX.out.on hb2); replace HH := Lib.hid (HH.out.on hb2); replace HG := Lib.hid (HG.out.on hb2); replace HGN := Lib.hid (HGN.out.on hb2)
  clear hb2
  have q0 : w2.cell? ⟨w.heap.size, 0, none⟩ = some (.slice x0 n0 c0) := HX.out.cell 0
  have q1 : w2.cell? ⟨w.heap.size, 1, none⟩ = some (.int .i64 rf) := HX.out.cell 1
  have q2 : w2.cell? ⟨w.heap.size, 2, none⟩ = some (.int .i64 rc) := HX.out.cell 2
  rcases chg_cases l (nm, rf, rc) with ⟨e1, e2⟩ | ⟨k, hk, e1, e2⟩
  · obtain rfl : z = -1 := by rw [← HZ.out]; exact e1
    have HCH := Lib.hid e2
    clear e1 e2
    go_wp2_with fail
    clear q0 q1 q2
    refine (sCpyN HGN.out (Nat.le_trans HPN.out (by decide))).mono ?_
    rintro e w5 ⟨U, rfl, hi5, hb5⟩
    obtain ⟨m5, za, na, ea, rfl, hs5, hd5, ho5⟩ := kN_splitP hi5
    have halN := (Below.refl w5.heap.size w5).alloc (Nat.le_refl _) (.cells #[.slice za na ea] 27)
    have HXN := Lib.hid (Ret.Blk.new w5 #[.slice za na ea] 27)
    have hX5 := (HX.out.on hb5).on halN
    have hal := (Below.refl (w5.alloc (.cells #[.slice za na ea] 27)).heap.size (w5.alloc (.cells #[.slice za na ea] 27))).alloc (Nat.le_refl _) (.cells #[.slice za na ea, .int .i64 rf, .int .i64 rc] 53)
    obtain ⟨mm, hmm⟩ : ∃ mm : Rtm, mm = (m5, rf, rc) := ⟨_, rfl⟩
    have hd6 : kRt.cells mm = [.slice za na ea, .int .i64 rf, .int .i64 rc] := by subst hmm; show kN.cells m5 ++ (kInt.cells rf ++ kInt.cells rc) = _; rw [hd5]; rfl
    have HSO := Lib.hid (one_kg (k := kRt) szRt_cells (e := 53) (W := (w5.alloc (.cells #[.slice za na ea] 27))) (m := mm) (g := w5.heap.size + 1) hd6 (by simp))
    have hb55 := hb5.trans (halN.mono hb5.size)
    have hb6 := hb55.trans (hal.mono hb55.size)
    have HMM := Lib.hid (show kRt.Own w2.heap.size (w5.alloc (.cells #[.slice za na ea] 27)).heap.size _ mm by subst hmm; exact (rt_join (u := rf) (v := rc) (ho5.on halN) _ (ho5.on halN).top).on hal)
    have HS5 := Lib.hid (show kRt.strip mm = (nm, rf, rc) by subst hmm; exact Prod.ext hs5 (Prod.ext rfl rfl))
    have q0 := HXN.out.cell 0
    have q1 : (w5.alloc (.cells #[.slice za na ea] 27)).cell? ⟨w.heap.size, 1, none⟩ = some (.int .i64 rf) := hX5.cell 1
    have q2 : (w5.alloc (.cells #[.slice za na ea] 27)).cell? ⟨w.heap.size, 2, none⟩ = some (.int .i64 rc) := hX5.cell 2
    clear hmm hd6 hX5 hb55 halN
    have HLU := Lib.hid (show Lu.length ≤ 1100000 by have h5 := HF.out.len; rw [← HS.out, List.length_map] at h5; exact h5)
    have HBC0 := Lib.hid (show w.heap.size + 1 ≤ w2.heap.size by have h5 := HX.out.lt; omega)
    have HOL2 := Lib.hid (HO.out.on hb6); have HB3 := Lib.hid (HB.out.trans (hb6.mono HB.out.size))
    have HBC1 := Lib.hid (Nat.le_trans HBC0.out hb6.size)
    clear hi5 hd5 ho5 hb5 hb6 hal hs5
    go_wp2_with (at_builtin; refine wpList_appK kindRt (B := w.heap.size + 1) (l := Lu) (m := [mm]) rfl _ _ rfl Try.underlying42 rfl rfl HOL2.out.1.1 HSO.out (by have := HLU.out; simp; omega) (by have := HLU.out; unfold maxLen; simp; omega) HBC1.out ?_)
    intro v4 w4 ho4 hg4
    obtain ⟨x4, n4, c4, rfl, -, -, ho4⟩ := ho4.shapeN
    have HO4 := Lib.hid (Kd.push_later noRow_kRt (r := ⟨xu, nu, cu, Lu⟩) HOL2.out HMM.out HBC0.out ho4 hg4)
    have HBC := Lib.hid (HB3.out.grown hg4 HB3.out.size (fun g e => by have h5 := (HOL2.out.1.1.lt g e).1; omega))
    have HSC : Hid ((Lu ++ [mm]).map kRt.strip = chgRt l (nm, rf, rc)) := Lib.hid (by rw [List.map_append, HS.out, HCH.out]; show _ ++ [kRt.strip mm] = _; rw [HS5.out])
    have HOC := HO4
    clear ho4 hg4
    have HAC := Lib.hid (show kLRt.At w4 (.slice x4 n4 c4) (chgRt l (nm, rf, rc)) from ⟨⟨x4, n4, c4, (Lu ++ [mm])⟩, rfl, HSC.out, HOC.out.holds⟩)
    go_wp2_with fail
    refine (specValidRoutes _ (chgRt l (nm, rf, rc)) _ q9 HQ9.out HAC.out HFC.out).mono ?_
    rintro e w5 ⟨rfl, hb5⟩
    have HOC5 := Lib.hid (HOC.out.upto hb5); have HB5 := Lib.hid (HBC.out.trans (hb5.mono HBC.out.size)); have HH5 := Lib.hid (HH0.out.on HB5.out)
    clear hb5 HAC
    cases q9 with
    | false =>
      have HE : Hid (addRt l (nm, rf, rc) = l) := Lib.hid (by unfold addRt; rw [HQ9.out]; rfl)
      go_wp2_with fail
      refine (sCopyRt _ l _ HH5.out HF.out).mono ?_
      rintro e w6 ⟨U6, rfl, hi6, hb6⟩
      have HB6 := Lib.hid (HB5.out.trans (hb6.mono HB5.out.size))
      have HI6 := Lib.hid (show kLRt.In w.heap.size w6.heap.size w6 U6 l from Kd.In.mono hi6 HB5.out.size (Nat.le_refl _))
      clear hi6 hb6
      go_wp2
      go_ret2
      rw [HQ9.out]
      exact ⟨_, rfl, by rw [HE.out]; exact HI6.out, HB6.out⟩
    | true =>
      have HE : Hid ((Lu ++ [mm]).map kRt.strip = addRt l (nm, rf, rc)) := Lib.hid (by rw [HSC.out]; unfold addRt; rw [HQ9.out]; rfl)
      go_wp2
      go_ret2
      rw [HQ9.out]
      exact ⟨_, rfl, HE.out ▸ (show kLRt.In w.heap.size _ _ (.slice x4 n4 c4) ((Lu ++ [mm]).map kRt.strip) from (HOC5.out.mono (Nat.le_succ _) (Nat.le_refl _)).in), HB5.out⟩
  · obtain rfl : z = (k : Int) := by rw [← HZ.out]; exact e1
    have hkL : k < Lu.length := by rw [← HS.out, List.length_map] at hk; exact hk
    obtain ⟨gR, rfl, hnl, hnc, hg1, hg2⟩ := row_formR HO.out hkL
    have HSC : Hid ((Lu.set k (((nth Lu k).1, (nth Lu k).2.1, rc) : Rtm)).map kRt.strip = chgRt l (nm, rf, rc)) := Lib.hid (by rw [cost_strip hkL, HS.out, e2])
    have hkn : k < nu := by omega
    have hkc : k ≤ cu := by omega
    have hl9 := HF.out.len
    have hn9 : nu ≤ 1100000 := by rw [hnl]; rw [← HS.out, List.length_map] at hl9; exact hl9
    have c2 : w2.cell? ⟨gR, k * 3 + 2, none⟩ = (kRt.cells (nth Lu k))[2]? := (ownK_cell szRt_cells HO.out.1.1 hnl hkL (i := 2) (by decide)).1
    have f2 : w2.frozen? ⟨gR, k * 3 + 2, none⟩ = false := (ownK_cell szRt_cells HO.out.1.1 hnl hkL (i := 2) (by decide)).2
    obtain ⟨z2, hz2⟩ : ∃ z, w2.cell? ⟨gR, k * 3 + 2, none⟩ = some z := ⟨_, c2.trans (List.getElem?_eq_getElem (by rw [kRt.len]; decide))⟩
    have HOC := Lib.hid (put_cost (v := rc) HO.out hnl hkL)
    have HBC := Lib.hid (HB.out.setCell (p := ⟨gR, k * 3 + 2, none⟩) (by show w.heap.size ≤ gR; omega) (.int .i64 rc))
    clear e1 e2 hg1 hg2 hnl hkL hk c2 hl9
    have HAC := Lib.hid (show kLRt.At (w2.setCell ⟨gR, k * 3 + 2, none⟩ (.int .i64 rc)) (.slice (some ⟨gR, 0, none⟩) nu cu) (chgRt l (nm, rf, rc)) from ⟨⟨some ⟨gR, 0, none⟩, nu, cu, (Lu.set k (((nth Lu k).1, (nth Lu k).2.1, rc) : Rtm))⟩, rfl, HSC.out, HOC.out.holds⟩)
    go_wp2_with fail
    refine (specValidRoutes _ (chgRt l (nm, rf, rc)) _ q9 HQ9.out HAC.out HFC.out).mono ?_
    rintro e w5 ⟨rfl, hb5⟩
    have HOC5 := Lib.hid (HOC.out.upto hb5); have HB5 := Lib.hid (HBC.out.trans (hb5.mono HBC.out.size)); have HH5 := Lib.hid (HH0.out.on HB5.out)
    clear hb5 HAC
    cases q9 with
    | false =>
      have HE : Hid (addRt l (nm, rf, rc) = l) := Lib.hid (by unfold addRt; rw [HQ9.out]; rfl)
      go_wp2_with fail
      refine (sCopyRt _ l _ HH5.out HF.out).mono ?_
      rintro e w6 ⟨U6, rfl, hi6, hb6⟩
      have HB6 := Lib.hid (HB5.out.trans (hb6.mono HB5.out.size))
      have HI6 := Lib.hid (show kLRt.In w.heap.size w6.heap.size w6 U6 l from Kd.In.mono hi6 HB5.out.size (Nat.le_refl _))
      clear hi6 hb6
      go_wp2
      go_ret2
      rw [HQ9.out]
      exact ⟨_, rfl, by rw [HE.out]; exact HI6.out, HB6.out⟩
    | true =>
      have HE : Hid ((Lu.set k (((nth Lu k).1, (nth Lu k).2.1, rc) : Rtm)).map kRt.strip = addRt l (nm, rf, rc)) := Lib.hid (by rw [HSC.out]; unfold addRt; rw [HQ9.out]; rfl)
      go_wp2
      go_ret2
      rw [HQ9.out]
      exact ⟨_, rfl, HE.out ▸ (show kLRt.In w.heap.size _ _ (.slice (some ⟨gR, 0, none⟩) nu cu) ((Lu.set k (((nth Lu k).1, (nth Lu k).2.1, rc) : Rtm)).map kRt.strip) from (HOC5.out.mono (Nat.le_succ _) (Nat.le_refl _)).in), HB5.out⟩
set_option maxHeartbeats 16000000 in
theorem implAddRoute (V U : Value) (l : List Rtt) (r : Rtt) (w : World) (h : kLRt.At w V l) (g : kRt.At w U r) (hf : bulkK wtRt l + wtRt r ≤ 1090000) (hw : ∀ x ∈ l, (Lit.int .i64 x.2.1).wf = true) (hwr : (Lit.int .i64 r.2.1).wf = true) :
    Calls Try.prog 23 #[V, U] w (GivesAdd l r w) := by
  obtain ⟨x, n, c, rfl, h⟩ := kLRt_shapeA h
  obtain ⟨x0, n0, c0, rfl, g⟩ := kRt_shapeA g
  have gN := kRt_parts g
  have HF := Lib.hid (show FitRt l by unfold FitRt; omega)
  have HFC := Lib.hid (show FitRt (chgRt l r) by unfold FitRt; have := chg_fit l r; omega)
  have hpn : bulk r.1 ≤ 1200000 := by have h5 : wtRt r = bulk r.1 := rfl; omega
  have HW := Lib.hid hw; have HWC := Lib.hid (chg_wf hw hwr); have HOK := Lib.hid (show ∀ x ∈ l, okKR x.1 x.2.1 from fun x hx => ⟨Nat.le_trans (HF.out.each x hx) (by decide), hw x hx⟩); have HOR := Lib.hid (show okKR r.1 r.2.1 from ⟨Nat.le_trans hpn (by decide), hwr⟩)
  obtain ⟨nm, rf, rc⟩ := r
  simp only at g gN hpn HFC HWC HOR ⊢
  have HH0 := Lib.hid h
  have hal := (Below.refl w.heap.size w).alloc (Nat.le_refl _) (.cells #[.slice x0 n0 c0, .int .i64 rf, .int .i64 rc] 53)
  have HX := Lib.hid (Ret.Blk.new w #[.slice x0 n0 c0, .int .i64 rf, .int .i64 rc] 53)
  have HH := Lib.hid (h.on hal); have HG := Lib.hid (g.on hal); have HGN := Lib.hid (gN.on hal); have HB := Lib.hid hal; have HPN := Lib.hid hpn
  have hs0 : (w.alloc (.cells #[.slice x0 n0 c0, .int .i64 rf, .int .i64 rc] 53)).heap.size = w.heap.size + 1 := by simp
  obtain ⟨z, hz⟩ : ∃ z, ixL (isRt nm rf) l = z := ⟨_, rfl⟩
  obtain ⟨q9, hq9⟩ : ∃ q, validRts (chgRt l (nm, rf, rc)) = q := ⟨_, rfl⟩
  have HZ := Lib.hid hz; have HQ9 := Lib.hid hq9
  unfold GivesAdd
  clear h g gN hal hf hz hq9 hpn hw hwr
  go_enter Try.func23, Try.ntmps23
  go_wp2_with fail
  refine (iCopyRt _ l _ HH.out HF.out).mono ?_
  rintro e w1 ⟨U, rfl, hi, hb1⟩
  obtain ⟨⟨xu, nu, cu, Lu⟩, rfl, hs, hi⟩ := hi.split
  replace hs : Lu.map kRt.strip = l := hs
  rw [show kLRt.val (⟨xu, nu, cu, Lu⟩ : Rw Rtm) = .slice xu nu cu from rfl]
  rw [hs0] at hi
  have HO := Lib.hid hi; have HS := Lib.hid hs
  replace HX := Lib.hid (HX.out.on hb1); replace HH := Lib.hid (HH.out.on hb1); replace HG := Lib.hid (HG.out.on hb1); replace HGN := Lib.hid (HGN.out.on hb1); replace HB := Lib.hid (HB.out.trans (hb1.mono HB.out.size))
  clear hi hs hb1 hs0
  have q0 := HX.out.cell 0; have q1 := HX.out.cell 1; have q2 := HX.out.cell 2
  obtain ⟨i9, hi9, hix⟩ : ∃ i9, (∀ (W : World) (b : Nat), FirstAt W b l → (Instr.lookup 88 (.map (some b)) (.agg #[.string (txt nm), .int .i64 rf]) true).run Try.prog W = .ok (.tuple #[.int .i64 i9, .bool (decide (0 ≤ z))]) W) ∧ (0 ≤ z → i9 = z) := by
    refine ⟨if 0 ≤ z then z else 0, fun W b hW => ?_, fun h0 => if_pos h0⟩
    obtain ⟨v9, ps9, hr, hv⟩ := World.ownsMap.look_ok (R := heldV) hW lawKeyR Try.underlying88 (zeroIntR W) (zd := .held (.int .i64 0)) (zp := []) rfl (keyR HOR.out)
    rw [rtD_at injKR HOK.out HOR.out _ _ (Nat.le_refl _), List.take_length, HZ.out] at hv
    rw [rtD_has injKR HOK.out HOR.out _ (Nat.le_refl _), List.take_length, any_ixL, HZ.out] at hr
    rw [hr]
    split at hv
    · rename_i h0; rw [heldV_inj hv, if_pos h0]
    · rename_i h0; rw [heldV_inj hv, if_neg h0]
  have HI9 := Lib.hid hi9; have HIX := Lib.hid hix
  clear hi9 hix
  go_wp2_with fail
  refine rad (l := l) HH HF HW HG HPN HI9 (Lib.hid q0) (Lib.hid q1) (Lib.hid q2) ?_
  intro u11 u12 u13 u14 u15 u16 u17 u18 w2 hb2
  clear q0 q1 q2
  replace HO := Lib.hid (HO.out.upto hb2); replace HB := Lib.hid (HB.out.trans (hb2.mono HB.out.size)); replace HX := Lib.hid (HX.out.on hb2); replace HH := Lib.hid (HH.out.on hb2); replace HG := Lib.hid (HG.out.on hb2); replace HGN := Lib.hid (HGN.out.on hb2)
  clear hb2
  have q0 : w2.cell? ⟨w.heap.size, 0, none⟩ = some (.slice x0 n0 c0) := HX.out.cell 0
  have q1 : w2.cell? ⟨w.heap.size, 1, none⟩ = some (.int .i64 rf) := HX.out.cell 1
  have q2 : w2.cell? ⟨w.heap.size, 2, none⟩ = some (.int .i64 rc) := HX.out.cell 2
  rcases chg_cases l (nm, rf, rc) with ⟨e1, e2⟩ | ⟨k, hk, e1, e2⟩
  · obtain rfl : z = -1 := by rw [← HZ.out]; exact e1
    have HCH := Lib.hid e2
    clear e1 e2
    go_wp2_with fail
    clear q0 q1 q2
    refine (iCloneRt _ (nm, rf, rc) _ HG.out HPN.out).mono ?_
    rintro e w5 ⟨U, rfl, hi5, hb5⟩
    obtain ⟨mm, za, na, ea, rfl, hs5, hd5, ho5⟩ := kRt_split hi5
    simp only at hd5
    have hal := (Below.refl w5.heap.size w5).alloc (Nat.le_refl _) (.cells #[.slice za na ea, .int .i64 rf, .int .i64 rc] 53)
    have HSO := Lib.hid (one_k (k := kRt) szRt_cells (e := 53) (W := w5) (m := mm) hd5)
    have hb6 := hb5.trans (hal.mono hb5.size)
    have HMM := Lib.hid (ho5.on hal); have HS5 := Lib.hid hs5
    have HLU := Lib.hid (show Lu.length ≤ 1100000 by have h5 := HF.out.len; rw [← HS.out, List.length_map] at h5; exact h5)
    have HBC0 := Lib.hid (show w.heap.size + 1 ≤ w2.heap.size by have h5 := HX.out.lt; omega)
    have HOL2 := Lib.hid (HO.out.on hb6); have HB3 := Lib.hid (HB.out.trans (hb6.mono HB.out.size))
    have HBC1 := Lib.hid (Nat.le_trans HBC0.out hb6.size)
    clear hi5 hd5 ho5 hb5 hb6 hal hs5
    go_wp2_with (at_builtin; refine wpList_appK kindRt (B := w.heap.size + 1) (l := Lu) (m := [mm]) rfl _ _ rfl Try.underlying42 rfl rfl HOL2.out.1.1 HSO.out (by have := HLU.out; simp; omega) (by have := HLU.out; unfold maxLen; simp; omega) HBC1.out ?_)
    intro v4 w4 ho4 hg4
    obtain ⟨x4, n4, c4, rfl, -, -, ho4⟩ := ho4.shapeN
    have HO4 := Lib.hid (Kd.push_later noRow_kRt (r := ⟨xu, nu, cu, Lu⟩) HOL2.out HMM.out HBC0.out ho4 hg4)
    have HBC := Lib.hid (HB3.out.grown hg4 HB3.out.size (fun g e => by have h5 := (HOL2.out.1.1.lt g e).1; omega))
    have HSC : Hid ((Lu ++ [mm]).map kRt.strip = chgRt l (nm, rf, rc)) := Lib.hid (by rw [List.map_append, HS.out, HCH.out]; show _ ++ [kRt.strip mm] = _; rw [HS5.out])
    have HOC := HO4
    clear ho4 hg4
    have HAC := Lib.hid (show kLRt.At w4 (.slice x4 n4 c4) (chgRt l (nm, rf, rc)) from ⟨⟨x4, n4, c4, (Lu ++ [mm])⟩, rfl, HSC.out, HOC.out.holds⟩)
    go_wp2_with fail
    refine (implValidRoutes _ (chgRt l (nm, rf, rc)) _ q9 HQ9.out HAC.out HFC.out HWC.out).mono ?_
    rintro e w5 ⟨rfl, hb5⟩
    have HOC5 := Lib.hid (HOC.out.upto hb5); have HB5 := Lib.hid (HBC.out.trans (hb5.mono HBC.out.size)); have HH5 := Lib.hid (HH0.out.on HB5.out)
    clear hb5 HAC
    cases q9 with
    | false =>
      have HE : Hid (addRt l (nm, rf, rc) = l) := Lib.hid (by unfold addRt; rw [HQ9.out]; rfl)
      go_wp2_with fail
      refine (iCopyRt _ l _ HH5.out HF.out).mono ?_
      rintro e w6 ⟨U6, rfl, hi6, hb6⟩
      have HB6 := Lib.hid (HB5.out.trans (hb6.mono HB5.out.size))
      have HI6 := Lib.hid (show kLRt.In w.heap.size w6.heap.size w6 U6 l from Kd.In.mono hi6 HB5.out.size (Nat.le_refl _))
      clear hi6 hb6
      go_wp2
      go_ret2
      rw [HQ9.out]
      exact ⟨_, rfl, by rw [HE.out]; exact HI6.out, HB6.out⟩
    | true =>
      have HE : Hid ((Lu ++ [mm]).map kRt.strip = addRt l (nm, rf, rc)) := Lib.hid (by rw [HSC.out]; unfold addRt; rw [HQ9.out]; rfl)
      go_wp2
      go_ret2
      rw [HQ9.out]
      exact ⟨_, rfl, HE.out ▸ (show kLRt.In w.heap.size _ _ (.slice x4 n4 c4) ((Lu ++ [mm]).map kRt.strip) from (HOC5.out.mono (Nat.le_succ _) (Nat.le_refl _)).in), HB5.out⟩
  · obtain rfl : z = (k : Int) := by rw [← HZ.out]; exact e1
    obtain rfl : i9 = (k : Int) := HIX.out (by omega)
    have tk : decide ((0 : Int) ≤ (k : Int)) = true := decide_eq_true (by omega)
    have hkL : k < Lu.length := by rw [← HS.out, List.length_map] at hk; exact hk
    obtain ⟨gR, rfl, hnl, hnc, hg1, hg2⟩ := row_formR HO.out hkL
    have HSC : Hid ((Lu.set k (((nth Lu k).1, (nth Lu k).2.1, rc) : Rtm)).map kRt.strip = chgRt l (nm, rf, rc)) := Lib.hid (by rw [cost_strip hkL, HS.out, e2])
    have hkn : k < nu := by omega
    have hkc : k ≤ cu := by omega
    have hl9 := HF.out.len
    have hn9 : nu ≤ 1100000 := by rw [hnl]; rw [← HS.out, List.length_map] at hl9; exact hl9
    have c2 : w2.cell? ⟨gR, k * 3 + 2, none⟩ = (kRt.cells (nth Lu k))[2]? := (ownK_cell szRt_cells HO.out.1.1 hnl hkL (i := 2) (by decide)).1
    have f2 : w2.frozen? ⟨gR, k * 3 + 2, none⟩ = false := (ownK_cell szRt_cells HO.out.1.1 hnl hkL (i := 2) (by decide)).2
    obtain ⟨z2, hz2⟩ : ∃ z, w2.cell? ⟨gR, k * 3 + 2, none⟩ = some z := ⟨_, c2.trans (List.getElem?_eq_getElem (by rw [kRt.len]; decide))⟩
    have HOC := Lib.hid (put_cost (v := rc) HO.out hnl hkL)
    have HBC := Lib.hid (HB.out.setCell (p := ⟨gR, k * 3 + 2, none⟩) (by show w.heap.size ≤ gR; omega) (.int .i64 rc))
    clear e1 e2 hg1 hg2 hnl hkL hk c2 hl9
    have HAC := Lib.hid (show kLRt.At (w2.setCell ⟨gR, k * 3 + 2, none⟩ (.int .i64 rc)) (.slice (some ⟨gR, 0, none⟩) nu cu) (chgRt l (nm, rf, rc)) from ⟨⟨some ⟨gR, 0, none⟩, nu, cu, (Lu.set k (((nth Lu k).1, (nth Lu k).2.1, rc) : Rtm))⟩, rfl, HSC.out, HOC.out.holds⟩)
    go_wp2_with fail
    refine (implValidRoutes _ (chgRt l (nm, rf, rc)) _ q9 HQ9.out HAC.out HFC.out HWC.out).mono ?_
    rintro e w5 ⟨rfl, hb5⟩
    have HOC5 := Lib.hid (HOC.out.upto hb5); have HB5 := Lib.hid (HBC.out.trans (hb5.mono HBC.out.size)); have HH5 := Lib.hid (HH0.out.on HB5.out)
    clear hb5 HAC
    cases q9 with
    | false =>
      have HE : Hid (addRt l (nm, rf, rc) = l) := Lib.hid (by unfold addRt; rw [HQ9.out]; rfl)
      go_wp2_with fail
      refine (iCopyRt _ l _ HH5.out HF.out).mono ?_
      rintro e w6 ⟨U6, rfl, hi6, hb6⟩
      have HB6 := Lib.hid (HB5.out.trans (hb6.mono HB5.out.size))
      have HI6 := Lib.hid (show kLRt.In w.heap.size w6.heap.size w6 U6 l from Kd.In.mono hi6 HB5.out.size (Nat.le_refl _))
      clear hi6 hb6
      go_wp2
      go_ret2
      rw [HQ9.out]
      exact ⟨_, rfl, by rw [HE.out]; exact HI6.out, HB6.out⟩
    | true =>
      have HE : Hid ((Lu.set k (((nth Lu k).1, (nth Lu k).2.1, rc) : Rtm)).map kRt.strip = addRt l (nm, rf, rc)) := Lib.hid (by rw [HSC.out]; unfold addRt; rw [HQ9.out]; rfl)
      go_wp2
      go_ret2
      rw [HQ9.out]
      exact ⟨_, rfl, HE.out ▸ (show kLRt.In w.heap.size _ _ (.slice (some ⟨gR, 0, none⟩) nu cu) ((Lu.set k (((nth Lu k).1, (nth Lu k).2.1, rc) : Rtm)).map kRt.strip) from (HOC5.out.mono (Nat.le_succ _) (Nat.le_refl _)).in), HB5.out⟩
end Go.Proofs.Ytdaahcaafdleaaa.Row
/- RemoveFace, model and program. No conditions but that lengths fit. -/
namespace Go.Proofs.Ytdaahcaafdleaaa.Row
open Go.ChangeShapes Go.WideShapes Go.ChangeAt Go.RowKit Go.Instr
set_option linter.unusedVariables false
set_option maxRecDepth 100000
theorem zvRt (w : World) : (zeroValue 53).run Try.prog w = .ok (.agg #[.slice none 0 0, .int .i64 0, .int .i64 0]) w := by kernel_rfl
theorem el_keepRt {B C : Nat} {w w' : World} {r : Rw Rtm} {y : Rtm} (h : kLRt.Own B C w r) (hg : w.grownBy w' r.v.ownBlock) (hy : y ∈ r.els) : kRt.holds w' y := by
  have h2 : (r.v.ownBlock.toList ++ r.els.flatMap kRt.blocks).Nodup := h.2.1
  have h3 := List.nodup_append.1 h2
  exact kRt.own_holds (kRt.own_keep (h.1.2 y hy) (fun g hgy => hg.block g (kRt.own_lt (h.1.2 y hy) g hgy).2 (fun er => h3.2.2 g (by rw [← er]; simp) g (List.mem_flatMap.2 ⟨y, hy, hgy⟩) rfl)))
set_option maxHeartbeats 2000000 in
theorem indexR1 (b0 : Addr) (p : Rtt → Bool) (ok : Rtt → Prop) (v : Value) (l : List Rtt) (w : World) (z : Int) (hz : ixL p l = z) (h : kLRt.At w v l) (hl : l.length ≤ 9000000) (hp : ∀ x ∈ l, ok x) (hc : ClosK Try.prog kRt 63 #[.pointer (some b0)] p ok w) :
    Calls Try.prog 86 #[v, .func (.func 63) #[] #[.pointer (some b0)]] w fun e w' => e = .returned (.int .i64 z) ∧ Below w.heap.size w w' := by
  obtain ⟨x, n, cx, L, rfl, hn, ht, hh, hel⟩ := kLRt_at h
  have hlen : l.length = n := by rw [← ht, List.length_map]; exact hn.symm
  rw [hlen] at hl
  have hcap : n ≤ cx := by obtain ⟨x', n', cap', hv, hn', hc', -⟩ := hh.shapeN; cases hv; exact hc'
  have HN := Lib.hid hn; have HT := Lib.hid ht; have HH := Lib.hid hh; have HEL := Lib.hid hel; have HLEN := Lib.hid hlen; have HP := Lib.hid hp; have HC := Lib.hid hc; have HZ := Lib.hid hz
  clear hn h hh hc hp ht hel hlen hz
  go_enter Try.func86, Try.ntmps86
  go_wp2
  go_loopw [8] (fun iv wr => ∃ i : Nat, i ≤ n ∧ iv = .int .i64 i ∧ Hid (noL p l i) ∧ Hid (Below w.heap.size w wr)) (fun iv _ => n - (intOf iv).toNat)
  case atStart => exact ⟨0, Nat.zero_le _, rfl, Lib.hid (noL_zero _ _), Lib.hid (Below.refl _ _)⟩
  case round =>
    obtain ⟨k, hk, rfl, ha, hb⟩ := hrel
    by_cases hlt : k < n
    · have hlen := HN.out
      obtain ⟨b, off, y0, m0, d0, rfl, -, hc0, hc1, hc2, hA⟩ := kLRt_elem (HH.out.on hb.out) (fun y hy => kRt.holds_on (HEL.out y hy) hb.out) (j := k) (by omega)
      have hpt : nth l k = kRt.strip (nth L k) := by rw [← HT.out, nth_map _ (by omega)]
      have hps := HP.out (nth l k) (nth_mem (by have := HLEN.out; omega))
      rw [hpt] at hps
      obtain ⟨q, hq⟩ : ∃ q, p (kRt.strip (nth L k)) = q := ⟨_, rfl⟩
      have HCL := HC.out _ _ wr hb.out hA hps
      rw [hq] at HCL
      rw [← hpt] at hq
      replace HCL := Lib.hid HCL
      have HQ := Lib.hid hq
      clear hlen hpt hps hA hq
      go_wp2_with fail
      refine HCL.out.mono ?_
      rintro e w2 ⟨rfl, hb2⟩
      have HB2 := Lib.hid (hb.out.trans (hb2.mono hb.out.size))
      clear hb2 hc0 hc1 hc2 HCL
      cases q with
      | true =>
        have HV := Lib.hid (show z = (k : Int) from HZ.out.symm.trans (ixL_at (by have := HLEN.out; omega) ha.out HQ.out))
        go_wp2
        go_ret
        exact ⟨ret_int HV.out.symm, HB2.out⟩
      | false =>
        have HA := Lib.hid (noL_succ ha.out HQ.out)
        go_wp2
        go_roundw
        case rel => exact ⟨k + 1, by omega, by go_num, HA, HB2⟩
        case measure => simp [intOf]; omega
    · obtain rfl : k = n := by omega
      have HV := Lib.hid (show z = -1 from HZ.out.symm.trans (ixL_none (by rw [HLEN.out]; exact ha.out)))
      clear hlt
      go_wp2
      go_ret
      exact ⟨ret_int HV.out.symm, hb.out⟩
set_option maxHeartbeats 8000000 in
theorem delFRt (b0 : Addr) (p : Rtt → Bool) (ok : Rtt → Prop) (B : Nat) (r : Rw Rtm) (w : World) (h : kLRt.Own B w.heap.size w r) (hl : r.els.length ≤ 1100000) (hp : ∀ x ∈ r.els.map kRt.strip, ok x) (hc : ClosR Try.prog kRt 63 #[.pointer (some b0)] p ok w r.v.ownBlock) :
    Calls Try.prog 62 #[r.v, .func (.func 63) #[] #[.pointer (some b0)]] w fun e w' => ∃ r' : Rw Rtm, e = .returned r'.v ∧ kLRt.Own B w'.heap.size w' r' ∧ r'.els.map kRt.strip = (r.els.map kRt.strip).filter (fun x => !p x) ∧ r'.els.length ≤ r.els.length ∧ w.grownBy w' r.v.ownBlock := by
  obtain ⟨ad, n, cap, L⟩ := r
  dsimp only at hl hp ⊢
  have HI := Lib.hid (indexR1 b0 p ok (Rw.v ⟨ad, n, cap, L⟩) (L.map kRt.strip) w _ rfl ⟨⟨ad, n, cap, L⟩, rfl, rfl, h.holds⟩ (by rw [List.length_map]; omega) hp hc.plain)
  have HFULL := Lib.hid h
  rcases h.1.1.form with ⟨hv, hL⟩ | ⟨g, cap', hv, g1, g2, g3, g4⟩
  · cases hv
    dsimp only at hL
    subst hL
    clear h hc
    show Calls Try.prog 62 #[.slice none 0 0, .func (.func 63) #[] #[.pointer (some b0)]] w _
    go_enter Try.func62, Try.ntmps62
    go_wp2_with fail
    refine HI.out.mono ?_
    rintro e w1 ⟨rfl, hb⟩
    have HB := Lib.hid hb
    have hx : ixL p (([] : List Rtm).map kRt.strip) = -1 := by simp [ixL]
    rw [hx]
    clear hb hx
    go_wp2_with fail
    go_ret
    exact ⟨⟨none, 0, 0, []⟩, rfl, HFULL.out.upto HB.out, by simp, Nat.le_refl _, Sl.grown_of_below HB.out _⟩
  · replace hv : Value.slice ad n cap = .slice (some ⟨g, 0, none⟩) L.length cap' := hv
    cases hv
    dsimp only at g3 g4
    obtain ⟨n, hn⟩ : ∃ n, n = L.length := ⟨_, rfl⟩
    show Calls Try.prog 62 #[.slice (some ⟨g, 0, none⟩) L.length cap, .func (.func 63) #[] #[.pointer (some b0)]] w _
    replace HI := Lib.hid (show Calls Try.prog _ #[.slice (some ⟨g, 0, none⟩) L.length cap, .func (.func 63) #[] #[.pointer (some b0)]] w _ from HI.out)
    rw [← hn] at h g3 hl HI hc HFULL ⊢
    have HN := Lib.hid hn
    have HC := Lib.hid (show ClosR Try.prog kRt 63 #[.pointer (some b0)] p ok w (some g) from hc)
    have HP := Lib.hid hp
    clear hn h hc hp
    go_enter Try.func62, Try.ntmps62
    go_wp2_with fail
    refine HI.out.mono ?_
    rintro e w1 ⟨rfl, hb⟩
    have HG1 := Lib.hid (Sl.grown_of_below hb (some g))
    have HO1 := Lib.hid (HFULL.out.1.1.on hb)
    clear hb HI
    rcases ixL_cases p (L.map kRt.strip) with ⟨h1, h3⟩ | ⟨i0, hi, h1, h4, h5⟩
    · rw [h1]
      have HV : Hid ((L.map kRt.strip).filter (fun x => !p x) = L.map kRt.strip) := Lib.hid (by
        rw [List.filter_eq_self]
        intro x hx
        obtain ⟨j, hj, rfl⟩ := List.getElem_of_mem hx
        have := h3 j hj
        rw [nth_eq hj] at this
        simp only [this]; rfl)
      clear h1 h3
      go_wp2_with fail
      go_ret
      exact ⟨⟨some ⟨g, 0, none⟩, n, cap, L⟩, rfl, Kd.sub noRow_kRt HFULL.out (List.Sublist.refl _) HG1.out (fun g' e => e) HO1.out, HV.out.symm, (by show L.length ≤ n; rw [HN.out]; exact Nat.le_refl _), HG1.out⟩
    · rw [h1]
      rw [List.length_map] at hi
      have HM : Hid (MidK (fun m => !p (kRt.strip m)) L L i0 (i0 + 1)) := Lib.hid (MidK.start hi (fun j hj => by have := h5 j hj; rw [nth_map _ (by omega)] at this; rw [this]; rfl) (by rw [nth_map _ hi] at h4; rw [h4]; rfl))
      have hi0 : i0 + 1 ≤ n := by have := HN.out; omega
      have hne : ((i0 : Int) == -1) = false := by simp <;> omega
      clear h1 h4 h5 hi
      go_wp2_with fail
      go_loopw [5, 6] (fun iv jv wr => ∃ i j : Nat, j ≤ n ∧ i < j ∧ iv = .int .i64 i ∧ jv = .int .i64 j ∧ ∃ L' : List Rtm, Hid (MidK (fun m => !p (kRt.strip m)) L L' i j) ∧ Hid (OwnK 53 kRt.cells 3 B wr (.slice (some ⟨g, 0, none⟩) n cap) L') ∧ Hid (w.grownBy wr (some g))) (fun _ jv _ => n - (intOf jv).toNat)
      case atStart => exact ⟨i0, i0 + 1, hi0, by omega, rfl, by go_num, L, HM, HO1, HG1⟩
      case round =>
        clear HO1 HM HG1
        obtain ⟨i, j, hj, hij, rfl, rfl, L', hM, ho, hg⟩ := hrel
        by_cases hlt : j < n
        · have hlen := HN.out
          have hjl : j < L.length := by omega
          have hln : n = L'.length := by rw [hM.out.len]; exact hlen
          have hnj : nth L' j = nth L j := hM.out.rest j (Nat.le_refl _) hjl
          have hho := el_keepRt HFULL.out hg.out (nth_mem hjl)
          obtain ⟨y0, m0, d0, e9, hA⟩ := kRt_shapeA (Kd.at_of (k := kRt) hho)
          have hce : kRt.cells (nth L j) = [.slice y0 m0 d0, .int .i64 (kRt.strip (nth L j)).2.1, .int .i64 (kRt.strip (nth L j)).2.2] := by injection e9 with e; exact congrArg Array.toList e
          have hcs : ∀ i', i' < 3 → wr.cell? ⟨g, j * 3 + i', none⟩ = ([.slice y0 m0 d0, .int .i64 (kRt.strip (nth L j)).2.1, .int .i64 (kRt.strip (nth L j)).2.2] : List Value)[i']? := fun i' hi' => by
            have := (ownK_cell szRt_cells ho.out hln (j := j) (i := i') (by omega) hi').1
            rw [hnj, hce] at this
            exact this
          have hc0 : wr.cell? ⟨g, j * 3, none⟩ = some (.slice y0 m0 d0) := hcs 0 (by decide)
          have hc1 : wr.cell? ⟨g, j * 3 + 1, none⟩ = some (.int .i64 (kRt.strip (nth L j)).2.1) := hcs 1 (by decide)
          have hc2 : wr.cell? ⟨g, j * 3 + 2, none⟩ = some (.int .i64 (kRt.strip (nth L j)).2.2) := hcs 2 (by decide)
          have hal := (Below.refl wr.heap.size wr).alloc (Nat.le_refl _) (.cells #[.slice y0 m0 d0, .int .i64 (kRt.strip (nth L j)).2.1, .int .i64 (kRt.strip (nth L j)).2.2] 53)
          have HGA := Lib.hid (Go.World.grownBy.trans hg.out (Sl.grown_of_below hal (some g)))
          have HCL := Lib.hid (HC.out (kRt.strip (nth L j)) _ _ HGA.out (hA.on hal) (HP.out _ (List.mem_map.2 ⟨_, nth_mem hjl, rfl⟩)))
          have HOA := Lib.hid (ho.out.on hal)
          have hXE := Ret.Blk.new wr #[.slice y0 m0 d0, .int .i64 (kRt.strip (nth L j)).2.1, .int .i64 (kRt.strip (nth L j)).2.2] 53
          have HXE := Lib.hid hXE
          have HIL := Lib.hid (show i < L'.length by omega)
          have HLN := Lib.hid hln
          have HJL := Lib.hid hjl
          have HCE := Lib.hid hce
          have hin : i < n := by omega
          clear hcs hnj hlen hal hjl hln e9 hA hho hce hXE
          obtain ⟨q, hq⟩ : ∃ q, p (kRt.strip (nth L j)) = q := ⟨_, rfl⟩
          rw [hq] at HCL
          have HQ := Lib.hid hq; clear hq
          go_wp2_with fail
          refine HCL.out.mono ?_
          rintro e w2 ⟨rfl, hb2⟩
          have hx2 := HXE.out.on hb2
          have f0 : w2.cell? ⟨wr.heap.size, 0, none⟩ = some (.slice y0 m0 d0) := hx2.cell 0
          have f1 : w2.cell? ⟨wr.heap.size, 1, none⟩ = some (.int .i64 (kRt.strip (nth L j)).2.1) := hx2.cell 1
          have f2 : w2.cell? ⟨wr.heap.size, 2, none⟩ = some (.int .i64 (kRt.strip (nth L j)).2.2) := hx2.cell 2
          have HO2 := Lib.hid (HOA.out.on hb2)
          have HG2 := Lib.hid (Go.World.grownBy.trans HGA.out (Sl.grown_of_below hb2 (some g)))
          clear hc0 hc1 hc2 hb2 hx2 HCL HXE
          cases q with
          | true =>
            have HMS := Lib.hid (hM.out.skip HJL.out (by rw [HQ.out]; rfl))
            clear f0 f1 f2
            go_wp2_with fail
            go_roundw
            case rel => exact ⟨i, j + 1, by omega, by omega, rfl, by go_num, L', HMS, HO2, HG2⟩
            case measure => simp [intOf]; omega
          | false =>
            have HMS := Lib.hid (hM.out.keep HJL.out (by rw [HQ.out]; rfl))
            have hcc : ∀ i', i' < 3 → ∃ z, w2.cell? ⟨g, i * 3 + i', none⟩ = some z := fun i' hi' => ⟨_, (ownK_cell szRt_cells HO2.out HLN.out (j := i) (i := i') HIL.out hi').1.trans (List.getElem?_eq_getElem (by rw [kRt.len]; exact hi'))⟩
            have hff : ∀ i', i' < 3 → w2.frozen? ⟨g, i * 3 + i', none⟩ = false := fun i' hi' => (ownK_cell szRt_cells HO2.out HLN.out (j := i) (i := i') HIL.out hi').2
            obtain ⟨z0, r0⟩ := hcc 0 (by decide); obtain ⟨z1, r1⟩ := hcc 1 (by decide); obtain ⟨z2, r2⟩ := hcc 2 (by decide)
            have t0 := hff 0 (by decide); have t1 := hff 1 (by decide); have t2 := hff 2 (by decide)
            rw [Nat.add_zero] at r0 t0
            have s1 := ownK_put szRt_cells HO2.out HLN.out HIL.out (nth L j)
            have s2 := setCells_grown g (kRt.cells (nth L j)) (i * 3) w2
            rw [HCE.out] at s1 s2
            have HS1 := Lib.hid (show OwnK 53 kRt.cells 3 B (((w2.setCell ⟨g, i * 3, none⟩ (.slice y0 m0 d0)).setCell ⟨g, i * 3 + 1, none⟩ (.int .i64 (kRt.strip (nth L j)).2.1)).setCell ⟨g, i * 3 + 2, none⟩ (.int .i64 (kRt.strip (nth L j)).2.2)) _ _ from s1)
            have HS2 := Lib.hid (Go.World.grownBy.trans HG2.out (show w2.grownBy (((w2.setCell ⟨g, i * 3, none⟩ (.slice y0 m0 d0)).setCell ⟨g, i * 3 + 1, none⟩ (.int .i64 (kRt.strip (nth L j)).2.1)).setCell ⟨g, i * 3 + 2, none⟩ (.int .i64 (kRt.strip (nth L j)).2.2)) (some g) from s2))
            clear hcc hff s1 s2
            go_wp2_with fail
            go_roundw
            case rel => exact ⟨i + 1, j + 1, by omega, by omega, by go_num, by go_num, _, HMS, HS1, HS2⟩
            case measure => simp [intOf]; omega
        · obtain rfl : j = n := by omega
          have hln : j = L'.length := by rw [hM.out.len]; exact HN.out
          have HKK := Lib.hid (show i + (j - i) = L'.length by omega)
          have HLN := Lib.hid hln
          have hpos : 0 < j - i := by omega
          have hi1 : i ≤ cap := by omega
          clear hlt hln
          go_wp2_with (refine wpList_clearK kindRt rfl zvRt rfl _ rfl Try.underlying42 (i := i) (k := j - i) rfl ho.out HKK.out hpos ?_)
          intro w3 ho3 hg3
          have HO3 := Lib.hid ho3
          have HG3 := Lib.hid (Go.World.grownBy.trans hg.out hg3)
          clear ho3 hg3
          go_wp2_with fail
          go_ret
          have hlen3 : (L'.take i ++ List.replicate (j - i) default).length = j := by have := HLN.out; simp; omega
          have hfin := HO3.out.take szRt_cells (i := i) (by omega)
          have htk : (L'.take i ++ List.replicate (j - i) default).take i = L'.take i := by
            have hl1 : (L'.take i).length = i := by have := HLN.out; rw [List.length_take]; omega
            conv => lhs; arg 1; rw [← hl1]
            rw [List.take_left]
          have hall : L.take j = L := List.take_of_length_le (by rw [← HN.out]; exact Nat.le_refl _)
          rw [htk, hM.out.head, hall] at hfin
          refine ⟨⟨some ⟨g, 0, none⟩, i, cap, L.filter (fun m => !p (kRt.strip m))⟩, rfl, Kd.sub noRow_kRt HFULL.out List.filter_sublist HG3.out (fun g' e => e) hfin, ?_, (by show (L.filter _).length ≤ j; rw [HN.out]; exact List.length_filter_le _ _), HG3.out⟩
          show (L.filter (fun m => !p (kRt.strip m))).map kRt.strip = (L.map kRt.strip).filter (fun x => !p x)
          rw [List.filter_map]
          rfl
set_option maxHeartbeats 2000000 in
theorem closFc (b : Nat) (f : Int) (w : World) (row : Option Nat) (hr : some b ≠ row) (hc : Ret.Blk w b #[.int .i64 f] 3) : ClosR Try.prog kRt 63 #[.pointer (some ⟨b, 0, none⟩)] (fcRt f) (fun _ => True) w row := by
  intro x V W hW hx hxl
  obtain ⟨x0, n0, c0, rfl, hx⟩ := kRt_shapeA hx
  obtain ⟨nm, rf, rc⟩ := x
  have hcW := hc.grown hW hr
  have hB := (Below.refl W.heap.size W).alloc (Nat.le_refl _) (.cells #[.slice x0 n0 c0, .int .i64 rf, .int .i64 rc] 53)
  have hcA := hcW.on hB
  have hX := Ret.Blk.new W #[.slice x0 n0 c0, .int .i64 rf, .int .i64 rc] 53
  have q0 : (W.alloc (.cells #[.slice x0 n0 c0, .int .i64 rf, .int .i64 rc] 53)).cell? ⟨b, 0, none⟩ = some (.int .i64 f) := hcA.cell 0
  have q1 : (W.alloc (.cells #[.slice x0 n0 c0, .int .i64 rf, .int .i64 rc] 53)).cell? ⟨W.heap.size, 1, none⟩ = some (.int .i64 rf) := hX.cell 1
  have HB := Lib.hid hB
  have HE : Hid ((rf == f) = fcRt f (nm, rf, rc)) := Lib.hid (by unfold fcRt; simp only; by_cases e : rf = f <;> simp [e])
  clear hcW hB hcA hX hx hc hW hxl hr
  simp only
  go_enter Try.func63, Try.ntmps63
  go_wp2
  go_ret
  exact ⟨ret_bool HE.out, HB.out⟩
set_option maxHeartbeats 4000000 in
theorem implRemoveFace (V : Value) (l : List Rtt) (f : Int) (w : World) (h : kLRt.At w V l) (hf : FitRt l) :
    Calls Try.prog 29 #[V, .int .i64 f] w fun e w' => ∃ U, e = .returned U ∧ kLRt.In w.heap.size w'.heap.size w' U (rmRt l f) ∧ Below w.heap.size w w' := by
  have hal := (Below.refl w.heap.size w).alloc (Nat.le_refl _) (.cells #[.int .i64 f] 3)
  have HX := Lib.hid (Ret.Blk.new w #[.int .i64 f] 3)
  have HH := Lib.hid (h.on hal); have HB := Lib.hid hal; have HF := Lib.hid hf
  have hs0 : (w.alloc (.cells #[.int .i64 f] 3)).heap.size = w.heap.size + 1 := by simp
  have hmf : ∀ (fn : Fn) (first cap : Array Value) (w : World), (Instr.makeFunc fn first cap).run Try.prog w = .ok (.func fn first cap) w := fun _ _ _ _ => rfl
  obtain ⟨x, n, c, rfl, h⟩ := kLRt_shapeA h
  clear h hal hf
  go_enter Try.func29, Try.ntmps29
  go_wp2_with fail
  refine (iCopyRt _ l _ HH.out HF.out).mono ?_
  rintro e w1 ⟨U, rfl, hi, hb1⟩
  obtain ⟨⟨xu, nu, cu, Lu⟩, rfl, hs, hi⟩ := hi.split
  replace hs : Lu.map kRt.strip = l := hs
  rw [show kLRt.val (⟨xu, nu, cu, Lu⟩ : Rw Rtm) = .slice xu nu cu from rfl]
  rw [hs0] at hi
  have HS := Lib.hid hs
  have HB1 := Lib.hid (HB.out.trans (hb1.mono HB.out.size))
  have HLU := Lib.hid (show Lu.length ≤ 1100000 by have h5 := HF.out.len; rw [← hs, List.length_map] at h5; exact h5)
  have HRB := Lib.hid (fun g (hg : (Value.slice xu nu cu).ownBlock = some g) => (hi.1.1.lt g hg).1)
  have HD := Lib.hid (delFRt ⟨w.heap.size, 0, none⟩ (fcRt f) (fun _ => True) (w.heap.size + 1) ⟨xu, nu, cu, Lu⟩ w1 hi HLU.out (fun _ _ => trivial) (closFc w.heap.size f w1 _ (fun e => by have h5 := HRB.out _ e.symm; omega) (HX.out.on hb1)))
  rw [show (Rw.v ⟨xu, nu, cu, Lu⟩ : Value) = .slice xu nu cu from rfl] at HD
  clear hi hs hb1 hs0
  go_wp2_with fail
  refine HD.out.mono ?_
  rintro e w2 ⟨⟨x3, n3, c3, L3⟩, rfl, ho3, hs3, -, hg3⟩
  simp only at hs3
  have HO := Lib.hid ho3
  have HE := Lib.hid (show L3.map kRt.strip = rmRt l f by rw [hs3, HS.out]; rfl)
  have HB2 := Lib.hid (HB1.out.grown hg3 HB1.out.size (fun g hg => by have h5 := HRB.out g hg; omega))
  rw [show (Rw.v ⟨x3, n3, c3, L3⟩ : Value) = .slice x3 n3 c3 from rfl]
  clear ho3 hs3 hg3
  go_wp2
  go_ret
  exact ⟨_, rfl, HE.out ▸ (show kLRt.In w.heap.size _ _ (.slice x3 n3 c3) (L3.map kRt.strip) from (HO.out.mono (Nat.le_succ _) (Nat.le_refl _)).in), HB2.out⟩
set_option maxRecDepth 100000 in
set_option maxHeartbeats 4000000 in
theorem rtx {Q : Exit → Act → World → Prop} {v1 v2 v3 v4 v8 v9 v10 v11 v12 v13 v14 v15 v16 v17 v18 v19 v20 v21 v22 v23 v24 v25 v26 v27 v28 v29 v30 v31 v32 v33 v34 v35 v36 v37 v38 v39 v40 v41 v42 v43 : Value} {w : World} {Lu : List Rtm} {B nu cu : Nat} {xu : Option Addr} (HBW : Hid (B ≤ w.heap.size)) (HLM : Hid (Lu.length ≤ 1100000)) {p b off n c k n0 c0 E1 C1 : Nat} {x0 : Option Addr} {rf rc : Int} {nm : List ByteArray} {m1 : Rw ByteArray} (hk : k < n) (hkc : k ≤ c) (hn : n ≤ 9000000) (HOL : Hid (kLRt.Own B C1 w ⟨xu, nu, cu, Lu⟩)) (HC0 : Hid (B ≤ C1)) (HPR : Hid (some p ≠ (Value.slice xu nu cu).ownBlock)) (HBR : Hid (some b ≠ (Value.slice xu nu cu).ownBlock)) (ON : Hid (kN.Own C1 E1 w m1)) (HS1 : Hid (kN.strip m1 = nm)) (HD1 : Hid (kN.cells m1 = [.slice x0 n0 c0])) (K0 : Hid (w.cell? ⟨p, 0, none⟩ = some (.slice x0 n0 c0))) (K1 : Hid (w.cell? ⟨b, off + k * 3 + 1, none⟩ = some (.int .i64 rf))) (K2 : Hid (w.cell? ⟨b, off + k * 3 + 2, none⟩ = some (.int .i64 rc)))
  (hQ : ∀ (u28 u29 u30 u31 u32 u33 u34 u35 u36 u37 u38 u39 u40 u41 u42 : Value) (x4 : Option Addr) (n4 c4 : Nat) (mm : Rtm)  (wx : World), Hid (kRt.strip mm = (nm, rf, rc)) → Hid (kLRt.Own B wx.heap.size wx ⟨x4, n4, c4, Lu ++ [mm]⟩) → Below B w wx → Q .normal ⟨#[.slice (some ⟨b, off, none⟩) n c, v1, v2, v3, v4, .slice x4 n4 c4, .int .i64 k, .pointer (some ⟨p, 0, none⟩), v8, v9, v10, v11, v12, v13, v14, v15, v16, v17, v18, v19, v20, v21, v22, v23, v24, v25, v26, v27, u28, u29, u30, u31, u32, u33, u34, u35, u36, u37, u38, u39, u40, u41, u42, v43], []⟩ wx) :
  (Code.region 7 #[⟨some 28, .move (.tmp 5), 42, "l14_route.go:52", #[], none⟩,
   ⟨some 29, .load 27 (.tmp 7), 27, "l14_route.go:52", #[], none⟩,
   ⟨some 30, .move (.tmp 0), 42, "l14_route.go:52", #[], none⟩,
   ⟨some 31, .move (.tmp 6), 3, "l14_route.go:52", #[], none⟩,
   ⟨some 32, .indexAddr 42 (.tmp 30) (.tmp 31), 0, "l14_route.go:52", #[⟨2, .data⟩, ⟨3, .data⟩], none⟩,
   ⟨some 33, .fieldAddr 53 (.tmp 32) 1, 0, "l14_route.go:52", #[⟨4, .data⟩], none⟩,
   ⟨some 34, .load 3 (.tmp 33), 3, "l14_route.go:52", #[⟨5, .data⟩], none⟩,
   ⟨some 35, .move (.tmp 0), 42, "l14_route.go:52", #[], none⟩,
   ⟨some 36, .move (.tmp 6), 3, "l14_route.go:52", #[], none⟩,
   ⟨some 37, .indexAddr 42 (.tmp 35) (.tmp 36), 0, "l14_route.go:52", #[⟨7, .data⟩, ⟨8, .data⟩], none⟩,
   ⟨some 38, .fieldAddr 53 (.tmp 37) 2, 0, "l14_route.go:52", #[⟨9, .data⟩], none⟩,
   ⟨some 39, .load 3 (.tmp 38), 3, "l14_route.go:52", #[⟨10, .data⟩], none⟩,
   ⟨some 40, .build 53 #[(0, .tmp 29), (1, .tmp 34), (2, .tmp 39)], 53, "l14_route.go:52", #[⟨1, .data⟩, ⟨6, .data⟩, ⟨11, .data⟩], none⟩,
   ⟨some 41, .buildSlice 42 1 #[(0, .tmp 40)], 42, "l14_route.go:52", #[⟨12, .data⟩], none⟩,
   ⟨some 42, .call ⟨.builtin .append, #[.tmp 28, .tmp 41], #[42, 42]⟩, 42, "l14_route.go:52", #[⟨0, .data⟩, ⟨13, .data⟩], none⟩,
   ⟨some 5, .assign (.tmp 42), 42, "l14_route.go:52", #[⟨14, .data⟩, ⟨14, .chain⟩, ⟨0, .phase⟩, ⟨1, .phase⟩, ⟨2, .phase⟩, ⟨3, .phase⟩, ⟨4, .phase⟩, ⟨5, .phase⟩, ⟨6, .phase⟩, ⟨7, .phase⟩, ⟨8, .phase⟩, ⟨9, .phase⟩, ⟨10, .phase⟩, ⟨11, .phase⟩, ⟨12, .phase⟩, ⟨13, .phase⟩, ⟨14, .phase⟩], none⟩] true).wp Try.prog Q ⟨#[.slice (some ⟨b, off, none⟩) n c, v1, v2, v3, v4, .slice xu nu cu, .int .i64 k, .pointer (some ⟨p, 0, none⟩), v8, v9, v10, v11, v12, v13, v14, v15, v16, v17, v18, v19, v20, v21, v22, v23, v24, v25, v26, v27, v28, v29, v30, v31, v32, v33, v34, v35, v36, v37, v38, v39, v40, v41, v42, v43], []⟩ w := by
 have HQ := Lib.hid hQ; clear hQ
 have hdr : Below w.heap.size w w.drew := (Below.refl _ _).drew
 have BB := Lib.hid hdr
 have BX := Lib.hid (BB.out.mono HBW.out)
 refine wp_region_noPanic ?_
 refine wp_region_held_drew (S := (fun w' => w'.cell? ⟨p, 0, none⟩ = some (.slice x0 n0 c0) ∧ w'.cell? ⟨b, off + k * 3 + 1, none⟩ = some (.int .i64 rf) ∧ w'.cell? ⟨b, off + k * 3 + 2, none⟩ = some (.int .i64 rc))) (by kernel_rfl) ?_ (fun hHeld => ?_)
 ·
  exact ⟨kc K0.out BB.out, kc K1.out BB.out, kc K2.out BB.out⟩
 clear hdr
 generalize w.drew = wd at *
 refine wpAnyH_take (i := 0) (oi := ⟨some 28, .move (.tmp 5), 42, "l14_route.go:52", #[], none⟩) (v := ?_) rfl (by kernel_rfl) (by kernel_rfl) (by kernel_rfl) (fun _ _ _ h => h) (Or.inl ⟨by rfl, ?_⟩) (by assumption) ?_
 rotate_left
 ·
  intro w' hSw; (try dsimp only at hSw); first | (go_simp; done) | (go_simp; with_reducible rfl)
 (try simp only [Act.put, Row.pB0, Row.pB1, Row.pB2])
 refine wpAnyH_take (i := 1) (oi := ⟨some 29, .load 27 (.tmp 7), 27, "l14_route.go:52", #[], none⟩) (v := ?_) rfl (by kernel_rfl) (by kernel_rfl) (by kernel_rfl) (fun _ _ _ h => h) (Or.inl ⟨by rfl, ?_⟩) (by assumption) ?_
 rotate_left
 ·
  intro w' hSw; (try dsimp only at hSw); first | (go_simp; done) | (go_simp; with_reducible rfl)
 (try simp only [Act.put, Row.pB0, Row.pB1, Row.pB2])
 refine wpAnyH_take (i := 2) (oi := ⟨some 30, .move (.tmp 0), 42, "l14_route.go:52", #[], none⟩) (v := ?_) rfl (by kernel_rfl) (by kernel_rfl) (by kernel_rfl) (fun _ _ _ h => h) (Or.inl ⟨by rfl, ?_⟩) (by assumption) ?_
 rotate_left
 ·
  intro w' hSw; (try dsimp only at hSw); first | (go_simp; done) | (go_simp; with_reducible rfl)
 (try simp only [Act.put, Row.pB0, Row.pB1, Row.pB2])
 refine wpAnyH_take (i := 3) (oi := ⟨some 31, .move (.tmp 6), 3, "l14_route.go:52", #[], none⟩) (v := ?_) rfl (by kernel_rfl) (by kernel_rfl) (by kernel_rfl) (fun _ _ _ h => h) (Or.inl ⟨by rfl, ?_⟩) (by assumption) ?_
 rotate_left
 ·
  intro w' hSw; (try dsimp only at hSw); first | (go_simp; done) | (go_simp; with_reducible rfl)
 (try simp only [Act.put, Row.pB0, Row.pB1, Row.pB2])
 refine wpAnyH_take (i := 4) (oi := ⟨some 32, .indexAddr 42 (.tmp 30) (.tmp 31), 0, "l14_route.go:52", #[⟨2, .data⟩, ⟨3, .data⟩], none⟩) (v := ?_) rfl (by kernel_rfl) (by kernel_rfl) (by kernel_rfl) (fun _ _ _ h => h) (Or.inl ⟨by rfl, ?_⟩) (by assumption) ?_
 rotate_left
 ·
  intro w' hSw; (try dsimp only at hSw); first | (go_simp; done) | (go_simp; with_reducible rfl)
 (try simp only [Act.put, Row.pB0, Row.pB1, Row.pB2])
 refine wpAnyH_take (i := 5) (oi := ⟨some 33, .fieldAddr 53 (.tmp 32) 1, 0, "l14_route.go:52", #[⟨4, .data⟩], none⟩) (v := ?_) rfl (by kernel_rfl) (by kernel_rfl) (by kernel_rfl) (fun _ _ _ h => h) (Or.inl ⟨by rfl, ?_⟩) (by assumption) ?_
 rotate_left
 ·
  intro w' hSw; (try dsimp only at hSw); first | (go_simp; done) | (go_simp; with_reducible rfl)
 (try simp only [Act.put, Row.pB0, Row.pB1, Row.pB2])
 refine wpAnyH_take (i := 6) (oi := ⟨some 34, .load 3 (.tmp 33), 3, "l14_route.go:52", #[⟨5, .data⟩], none⟩) (v := ?_) rfl (by kernel_rfl) (by kernel_rfl) (by kernel_rfl) (fun _ _ _ h => h) (Or.inl ⟨by rfl, ?_⟩) (by assumption) ?_
 rotate_left
 ·
  intro w' hSw; (try dsimp only at hSw); first | (go_simp; done) | (go_simp; with_reducible rfl)
 (try simp only [Act.put, Row.pB0, Row.pB1, Row.pB2])
 refine wpAnyH_take (i := 7) (oi := ⟨some 35, .move (.tmp 0), 42, "l14_route.go:52", #[], none⟩) (v := ?_) rfl (by kernel_rfl) (by kernel_rfl) (by kernel_rfl) (fun _ _ _ h => h) (Or.inl ⟨by rfl, ?_⟩) (by assumption) ?_
 rotate_left
 ·
  intro w' hSw; (try dsimp only at hSw); first | (go_simp; done) | (go_simp; with_reducible rfl)
 (try simp only [Act.put, Row.pB0, Row.pB1, Row.pB2])
 refine wpAnyH_take (i := 8) (oi := ⟨some 36, .move (.tmp 6), 3, "l14_route.go:52", #[], none⟩) (v := ?_) rfl (by kernel_rfl) (by kernel_rfl) (by kernel_rfl) (fun _ _ _ h => h) (Or.inl ⟨by rfl, ?_⟩) (by assumption) ?_
 rotate_left
 ·
  intro w' hSw; (try dsimp only at hSw); first | (go_simp; done) | (go_simp; with_reducible rfl)
 (try simp only [Act.put, Row.pB0, Row.pB1, Row.pB2])
 refine wpAnyH_take (i := 9) (oi := ⟨some 37, .indexAddr 42 (.tmp 35) (.tmp 36), 0, "l14_route.go:52", #[⟨7, .data⟩, ⟨8, .data⟩], none⟩) (v := ?_) rfl (by kernel_rfl) (by kernel_rfl) (by kernel_rfl) (fun _ _ _ h => h) (Or.inl ⟨by rfl, ?_⟩) (by assumption) ?_
 rotate_left
 ·
  intro w' hSw; (try dsimp only at hSw); first | (go_simp; done) | (go_simp; with_reducible rfl)
 (try simp only [Act.put, Row.pB0, Row.pB1, Row.pB2])
 refine wpAnyH_take (i := 10) (oi := ⟨some 38, .fieldAddr 53 (.tmp 37) 2, 0, "l14_route.go:52", #[⟨9, .data⟩], none⟩) (v := ?_) rfl (by kernel_rfl) (by kernel_rfl) (by kernel_rfl) (fun _ _ _ h => h) (Or.inl ⟨by rfl, ?_⟩) (by assumption) ?_
 rotate_left
 ·
  intro w' hSw; (try dsimp only at hSw); first | (go_simp; done) | (go_simp; with_reducible rfl)
 (try simp only [Act.put, Row.pB0, Row.pB1, Row.pB2])
 refine wpAnyH_take (i := 11) (oi := ⟨some 39, .load 3 (.tmp 38), 3, "l14_route.go:52", #[⟨10, .data⟩], none⟩) (v := ?_) rfl (by kernel_rfl) (by kernel_rfl) (by kernel_rfl) (fun _ _ _ h => h) (Or.inl ⟨by rfl, ?_⟩) (by assumption) ?_
 rotate_left
 ·
  intro w' hSw; (try dsimp only at hSw); first | (go_simp; done) | (go_simp; with_reducible rfl)
 (try simp only [Act.put, Row.pB0, Row.pB1, Row.pB2])
 refine wpAnyH_take (i := 12) (oi := ⟨some 40, .build 53 #[(0, .tmp 29), (1, .tmp 34), (2, .tmp 39)], 53, "l14_route.go:52", #[⟨1, .data⟩, ⟨6, .data⟩, ⟨11, .data⟩], none⟩) (v := ?_) rfl (by kernel_rfl) (by kernel_rfl) (by kernel_rfl) (fun _ _ _ h => h) (Or.inl ⟨by rfl, ?_⟩) (by assumption) ?_
 rotate_left
 ·
  intro w' hSw; (try dsimp only at hSw); first | (go_simp; done) | (go_simp; with_reducible rfl)
 (try simp only [Act.put, Row.pB0, Row.pB1, Row.pB2])
 refine wpAnyH_ready (rs := [13]) (by kernel_rfl) (by simp) ?_
 refine AllReadyH.cons (o := ⟨some 41, .buildSlice 42 1 #[(0, .tmp 40)], 42, "l14_route.go:52", #[⟨12, .data⟩], none⟩) rfl (fun K hK => ?_) AllReadyH.nil
 go_simp
 have hb : Below wd.heap.size wd (wd.alloc (.cells #[.slice x0 n0 c0, .int .i64 (rf), .int .i64 (rc)] 53)) := (Below.refl _ _).alloc (Nat.le_refl _) _
 have HSO := Lib.hid (one_k (k := kRt) szRt_cells (e := 53) (W := wd) (m := ((m1, rf, rc) : Rtm)) (cs := [.slice x0 n0 c0, .int .i64 (rf), .int .i64 (rc)]) (by show kN.cells m1 ++ (kInt.cells (rf) ++ kInt.cells (rc)) = _; rw [HD1.out]; rfl))
 have HMM := Lib.hid ((rt_join (u := rf) (v := rc) (ON.out.on BB.out) wd.heap.size (ON.out.on BB.out).top).on hb)
 replace BB := Lib.hid (BB.out.trans (hb.mono BB.out.size))
 replace BX := Lib.hid (BX.out.trans (hb.mono (Nat.le_trans HBW.out BX.out.size)))
 clear hb
 generalize wd.alloc (.cells #[.slice x0 n0 c0, .int .i64 (rf), .int .i64 (rc)] 53) = wn1 at *
 clear hHeld
 refine hK.out _ _ ?_ (fun hHeld => ?_)
 ·
  (try dsimp only); exact ⟨kc K0.out BB.out, kc K1.out BB.out, kc K2.out BB.out⟩
 clear hK K
 (try simp only [Act.put, Row.pB0, Row.pB1, Row.pB2])
 refine wpAnyH_ready (rs := [14]) (by kernel_rfl) (by simp) ?_
 refine AllReadyH.cons (o := ⟨some 42, .call ⟨.builtin .append, #[.tmp 28, .tmp 41], #[42, 42]⟩, 42, "l14_route.go:52", #[⟨0, .data⟩, ⟨13, .data⟩], none⟩) rfl (fun K hK => ?_) AllReadyH.nil
 refine step_appK kindRt (B := B) (v := .slice xu nu cu) (l := Lu) (m := [((m1, rf, rc) : Rtm)]) rfl _ _ (by rfl) Try.underlying42 (by rfl) (by rfl) ?_ ?_ ?_ ?_ ?_ ?_
 ·
  exact (HOL.out.on BB.out).1.1
 ·
  exact HSO.out
 ·
  have h5 := HLM.out; simp; omega
 ·
  have h5 := HLM.out; unfold maxLen; simp; omega
 ·
  exact Nat.le_trans HBW.out BB.out.size
 intro v4 wn2 ho4 hg4
 obtain ⟨x4, n4, c4, rfl, -, -, ho4⟩ := ho4.shapeN
 have HO4 := Lib.hid (Kd.push_later noRow_kRt (r := ⟨xu, nu, cu, Lu⟩) (HOL.out.on BB.out) HMM.out HC0.out ho4 hg4)
 replace BX := Lib.hid (BX.out.grown hg4 (Nat.le_trans HBW.out BX.out.size) (fun g e => ((HOL.out.on BB.out).1.1.lt g e).1))
 have k0_ := hg4.cell (kc K0.out BB.out) HPR.out
 have k1_ := hg4.cell (kc K1.out BB.out) HBR.out
 have k2_ := hg4.cell (kc K2.out BB.out) HBR.out
 clear ho4 hg4
 clear hHeld
 refine hK.out _ _ ?_ (fun hHeld => ?_)
 ·
  (try dsimp only); exact ⟨k0_, k1_, k2_⟩
 clear hK K k0_ k1_ k2_
 (try simp only [Act.put, Row.pB0, Row.pB1, Row.pB2])
 refine wpAnyH_take (i := 15) (oi := ⟨some 5, .assign (.tmp 42), 42, "l14_route.go:52", #[⟨14, .data⟩, ⟨14, .chain⟩, ⟨0, .phase⟩, ⟨1, .phase⟩, ⟨2, .phase⟩, ⟨3, .phase⟩, ⟨4, .phase⟩, ⟨5, .phase⟩, ⟨6, .phase⟩, ⟨7, .phase⟩, ⟨8, .phase⟩, ⟨9, .phase⟩, ⟨10, .phase⟩, ⟨11, .phase⟩, ⟨12, .phase⟩, ⟨13, .phase⟩, ⟨14, .phase⟩], none⟩) (v := ?_) rfl (by kernel_rfl) (by kernel_rfl) (by kernel_rfl) (fun _ _ _ h => h) (Or.inl ⟨by rfl, ?_⟩) (by assumption) ?_
 rotate_left
 ·
  intro w' hSw; (try dsimp only at hSw); first | (go_simp; done) | (go_simp; with_reducible rfl)
 (try simp only [Act.put, Row.pB0, Row.pB1, Row.pB2])
 refine wpAnyH_done (by kernel_rfl) ?_ _
 exact NoPanic.normal (HQ.out _ _ _ _ _ _ _ _ _ _ _ _ _ _ _ x4 n4 c4 (m1, rf, rc) _ (Lib.hid (by show (kN.strip m1, rf, rc) = _; rw [HS1.out])) HO4 BX.out)
set_option maxHeartbeats 8000000 in
theorem specRemoveFace (V : Value) (l : List Rtt) (f : Int) (w : World) (h : kLRt.At w V l) (hf : FitRt l) :
    Calls Try.prog 28 #[V, .int .i64 f] w fun e w' => ∃ U, e = .returned U ∧ kLRt.In w.heap.size w'.heap.size w' U (rmRt l f) ∧ Below w.heap.size w w' := by
  have hl := hf.len
  have hp := hf.each
  obtain ⟨x, n, cx, L, rfl, hn, ht, hh, hel⟩ := kLRt_at h
  have hlen : l.length = n := by rw [← ht, List.length_map]; exact hn.symm
  rw [hlen] at hl
  have hcap : n ≤ cx := by obtain ⟨x', n', cap', hv, hn', hc', -⟩ := hh.shapeN; cases hv; exact hc'
  have HN := Lib.hid hn; have HT := Lib.hid ht; have HH := Lib.hid hh; have HEL := Lib.hid hel; have HLEN := Lib.hid hlen; have HP := Lib.hid hp
  clear hn ht hh hel hlen hp h
  have hown := ownK_empty kRt.cells 3 53 w
  have HB := Lib.hid ((Below.refl w.heap.size w).alloc (Nat.le_refl _) (.cells #[] 53))
  have HO := Lib.hid (show kLRt.Own w.heap.size (w.alloc (.cells #[] 53)).heap.size _ ⟨some ⟨w.heap.size, 0, none⟩, 0, 0, []⟩ from Kd.own_row hown rfl)
  clear hown hf
  go_enter Try.func28, Try.ntmps28
  go_wp2
  go_loopw [5, 6] (fun uv iv wr => ∃ k : Nat, k ≤ n ∧ iv = .int .i64 k ∧ ∃ xu nu cu Lu, uv = .slice xu nu cu ∧ Hid (Lu.length ≤ k) ∧ Hid (Lu.map kRt.strip = (l.take k).filter (fun x => !fcRt f x)) ∧ Hid (kLRt.Own w.heap.size wr.heap.size wr ⟨xu, nu, cu, Lu⟩) ∧ Hid (Below w.heap.size w wr)) (fun _ iv _ => n - (intOf iv).toNat)
  case atStart => exact ⟨0, Nat.zero_le _, rfl, some ⟨w.heap.size, 0, none⟩, 0, 0, [], rfl, Lib.hid (Nat.le_refl _), Lib.hid (by simp), HO, HB⟩
  case round =>
    clear HO HB
    obtain ⟨k, hk, rfl, xu, nu, cu, Lu, rfl, hM, hst, ho, hb⟩ := hrel
    by_cases hlt : k < n
    · have hlen := HN.out
      obtain ⟨b, off, y0, m0, d0, rfl, -, hc0, hc1, hc2, hA⟩ := kLRt_elem (HH.out.on hb.out) (fun y hy => kRt.holds_on (HEL.out y hy) hb.out) (j := k) (by omega)
      have hpt : nth l k = kRt.strip (nth L k) := by rw [← HT.out, nth_map _ (by omega)]
      have hps := HP.out (nth l k) (nth_mem (by have := HLEN.out; omega))
      rw [← hpt] at hA hc1 hc2
      have hNM := kRt_parts hA
      obtain ⟨nm, rf, rc, hx⟩ : ∃ nm rf rc, nth l k = (nm, rf, rc) := ⟨_, _, _, rfl⟩
      rw [hx] at hNM hps hc1 hc2 hA
      have HA := Lib.hid hA; have HNM := Lib.hid hNM; have HPN := Lib.hid hps; have HXE := Lib.hid hx
      simp only at hc1 hc2
      have H0 := Lib.hid hc0; have H1 := Lib.hid hc1; have H2 := Lib.hid hc2
      clear hlen hpt hps hA hNM hx
      by_cases hfc : rf = f
      · have tf : (rf != f) = false := by simp [hfc]
        have HST := Lib.hid (show Lu.map kRt.strip = (l.take (k + 1)).filter (fun x => !fcRt f x) by rw [hst.out, filter_sk (by have := HLEN.out; omega) (by rw [HXE.out]; unfold fcRt; simp [hfc])])
        clear hfc
        go_wp2
        go_roundw
        case rel => exact ⟨k + 1, by omega, by go_num, xu, nu, cu, Lu, rfl, Lib.hid (by have := hM.out; omega), HST, ho, hb⟩
        case measure => simp [intOf]; omega
      · have tf : (rf != f) = true := by simp [hfc]
        have HFX := Lib.hid (filter_nx (p := fun x => !fcRt f x) (l := l) (k := k) (by have := HLEN.out; omega) (by rw [HXE.out]; unfold fcRt; simp [hfc]))
        clear hfc
        go_wp2_with fail
        refine (sCpyN HNM.out (Nat.le_trans HPN.out (by decide))).mono ?_
        rintro e w5 ⟨U, rfl, hi5, hb5⟩
        obtain ⟨m5, za, na, ea, rfl, hs5, hd5, ho5⟩ := kN_splitP hi5
        have hal := (Below.refl w5.heap.size w5).alloc (Nat.le_refl _) (.cells #[.slice za na ea] 27)
        have hbl := hb5.trans (hal.mono hb5.size)
        obtain ⟨b9, off9, y9, m9, d9, e9, -, hw9, -⟩ := kLRt_elem HH.out (fun y hy => HEL.out y hy) (j := k) (by have := HN.out; omega)
        cases e9
        have hbw0 : b < w.heap.size := Ret.cell_lt hw9
        have HXB := Lib.hid (Ret.Blk.new w5 #[.slice za na ea] 27)
        have HPL := Lib.hid (fun e => by have h5 := (ho.out.1.1.lt _ (Eq.symm e)).2; have h6 := hb5.size; omega : some w5.heap.size ≠ (Value.slice xu nu cu).ownBlock)
        have HBR := Lib.hid (fun e => by have h5 := (ho.out.1.1.lt _ (Eq.symm e)).1; omega : some b ≠ (Value.slice xu nu cu).ownBlock)
        have HOL := Lib.hid (ho.out.on hbl); have hb2 := Lib.hid (hb.out.trans (hbl.mono hb.out.size)); have HON := Lib.hid (ho5.on hal); have HS5 := Lib.hid hs5; have HD5 := Lib.hid hd5
        have HBW := Lib.hid (show w.heap.size ≤ (w5.alloc (.cells #[.slice za na ea] 27)).heap.size from hb2.out.size)
        have HC0 := Lib.hid hb.out.size
        have HLM := Lib.hid (show Lu.length ≤ 1100000 by have := hM.out; omega)
        have C1 := Lib.hid (kc H1.out hbl); have C2 := Lib.hid (kc H2.out hbl)
        clear hal hbl hi5 hb5 hs5 hd5 ho5 hbw0 hw9 hc0 hc1 hc2
        go_wp2_with fail
        refine rtx (B := w.heap.size) (Lu := Lu) HBW HLM hlt (by omega) (by omega) HOL HC0 HPL HBR HON HS5 HD5 (Lib.hid (HXB.out.cell 0)) C1 C2 ?_
        intro u28 u29 u30 u31 u32 u33 u34 u35 u36 u37 u38 u39 u40 u41 u42 x4 n4 c4 mm wx hs4 ho4 hbx
        have HB4 := Lib.hid (hb2.out.trans hbx)
        have HO4 := ho4
        have HST := Lib.hid (show (Lu ++ [mm]).map kRt.strip = (l.take (k + 1)).filter (fun x => !fcRt f x) by
          rw [List.map_append, hst.out, HFX.out, HXE.out]
          show _ ++ [kRt.strip mm] = _
          rw [hs4.out])
        clear hbx hs4 ho4
        go_wp2
        go_roundw
        case rel => exact ⟨k + 1, by omega, by go_num, x4, n4, c4, Lu ++ [mm], rfl, Lib.hid (by have := hM.out; simp; omega), HST, HO4, HB4⟩
        case measure => simp [intOf]; omega
    · obtain rfl : k = n := by omega
      clear hlt
      have HE := Lib.hid (show Lu.map kRt.strip = rmRt l f by rw [hst.out, List.take_of_length_le (by rw [HLEN.out]; exact Nat.le_refl _)]; rfl)
      go_wp2
      go_ret
      exact ⟨_, rfl, HE.out ▸ (show kLRt.In _ _ _ (.slice xu nu cu) (Lu.map kRt.strip) from ho.out.in), hb.out⟩
end Go.Proofs.Ytdaahcaafdleaaa.Row
/- MatchingPrefix, model and program. No conditions but that lengths fit. -/
namespace Go.Proofs.Ytdaahcaafdleaaa.Row
open Go.ChangeShapes Go.WideShapes Go.ChangeAt Go.RowKit Go.Instr
set_option linter.unusedVariables false
set_option maxRecDepth 100000
def curM (l : List Rtt) (m : List ByteArray) (k : Nat) : List ByteArray := if mpI l m k < 0 then [] else (nth l (mpI l m k).toNat).1
theorem curM_all (l : List Rtt) (m : List ByteArray) : curM l m l.length = mpN l m := rfl
theorem mpI_yes {l : List Rtt} {m : List ByteArray} {k : Nat} (h : hpB m (nth l k).1 = true) (h2 : mpI l m k < 0 ∨ (curM l m k).length < (nth l k).1.length) : mpI l m (k + 1) = k := by
  have h9 : mpI l m k < 0 ∨ (nth l (mpI l m k).toNat).1.length < (nth l k).1.length := by
    by_cases h0 : mpI l m k < 0
    · exact Or.inl h0
    · have h3 := h2.resolve_left h0
      unfold curM at h3; rw [if_neg h0] at h3
      exact Or.inr h3
  exact if_pos ⟨h, h9⟩
theorem mpI_no1 {l : List Rtt} {m : List ByteArray} {k : Nat} (h : hpB m (nth l k).1 = false) : mpI l m (k + 1) = mpI l m k := by
  show (if _ then _ else _) = _
  rw [if_neg (by rw [h]; simp)]
theorem mpI_no2 {l : List Rtt} {m : List ByteArray} {k : Nat} (h0 : 0 ≤ mpI l m k) (h2 : ¬ (curM l m k).length < (nth l k).1.length) : mpI l m (k + 1) = mpI l m k := by
  show (if _ then _ else _) = _
  rw [if_neg]
  rintro ⟨-, h1 | h1⟩
  · omega
  · unfold curM at h2; rw [if_neg (by omega)] at h2; exact h2 h1
theorem curM_new {l : List Rtt} {m : List ByteArray} {k : Nat} (h : mpI l m (k + 1) = k) : curM l m (k + 1) = (nth l k).1 := by
  unfold curM; rw [h, if_neg (by omega)]; simp
theorem curM_old {l : List Rtt} {m : List ByteArray} {k : Nat} (h : mpI l m (k + 1) = mpI l m k) : curM l m (k + 1) = curM l m k := by
  unfold curM; rw [h]
theorem curM_pos {l : List Rtt} {m : List ByteArray} {k : Nat} {j : Nat} (h : mpI l m k = (j : Int)) : curM l m k = (nth l j).1 := by
  unfold curM; rw [h, if_neg (by omega)]; simp
theorem kN_nil14 (w : World) : kN.At w (.agg #[.slice none 0 0]) [] := kN_of (Holds.nil _ _)
def GivesMp (l : List Rtt) (m : List ByteArray) (w : World) (e : Ending) (w' : World) : Prop := ∃ U, e = .returned (.tuple #[U, .bool (mpB l m)]) ∧ kN.In w.heap.size w'.heap.size w' U (mpN l m) ∧ Below w.heap.size w w'
set_option maxRecDepth 100000 in
set_option maxHeartbeats 4000000 in
theorem rmp0 {Q : Exit → Act → World → Prop} {v1 v2 v4 v5 v6 v8 v9 v10 v11 v12 v13 v14 v15 v16 v17 v18 v19 v20 v21 v22 v23 v24 v25 v26 v27 v28 v29 v30 v31 v32 v33 v34 v35 v36 v37 v38 v39 v40 v41 v42 v43 v44 v45 v46 v47 v48 v49 v50 v51 : Value} {w : World} {b off n c g k na ca : Nat} {xa : Option Addr} {a m : List ByteArray} {xn : Option Addr} {nn cn : Nat} (hk : k < n) (hkc : k ≤ c) (hn : n ≤ 9000000) (HZ : Hid (hpB m a = false)) (H_a : Hid (kN.At w (.agg #[.slice xa na ca]) a)) (H_m : Hid (kN.At w (.agg #[.slice xn nn cn]) m)) (HAB : Hid (bulk a ≤ 1200000)) (HMB : Hid (bulk m ≤ 1200000)) (K0 : Hid (w.cell? ⟨g, 0, none⟩ = some (.slice xn nn cn))) (K1 : Hid (w.cell? ⟨b, off + k * 3, none⟩ = some (.slice xa na ca)))
  (hQ : ∀ (u14 u15 u16 u17 u18 u19 u20 u21 u22 u23 u24 u25 u26 u27 u28 u29 u30 u31 u32 u33 u34 u35 u36 u37 u38 u39 u40 : Value)  (wx : World), Below w.heap.size w wx → Q .normal ⟨#[.slice (some ⟨b, off, none⟩) n c, v1, v2, .pointer (some ⟨g, 0, none⟩), v4, v5, v6, .int .i64 k, v8, v9, v10, v11, v12, v13, u14, u15, u16, u17, u18, u19, u20, u21, u22, u23, u24, u25, u26, u27, u28, u29, u30, u31, u32, u33, u34, u35, u36, u37, u38, u39, u40, .bool false, v42, v43, v44, v45, v46, v47, v48, v49, v50, v51], []⟩ wx) :
  (Code.region 5 #[⟨some 14, .load 27 (.tmp 3), 27, "l14_route.go:61", #[], none⟩,
   ⟨some 15, .move (.tmp 0), 42, "l14_route.go:61", #[], none⟩,
   ⟨some 16, .move (.tmp 7), 3, "l14_route.go:61", #[], none⟩,
   ⟨some 17, .indexAddr 42 (.tmp 15) (.tmp 16), 0, "l14_route.go:61", #[⟨1, .data⟩, ⟨2, .data⟩], none⟩,
   ⟨some 18, .fieldAddr 53 (.tmp 17) 0, 0, "l14_route.go:61", #[⟨3, .data⟩], none⟩,
   ⟨some 19, .load 27 (.tmp 18), 27, "l14_route.go:61", #[⟨4, .data⟩], none⟩,
   ⟨some 20, .call ⟨.value (.func 65), #[.tmp 14, .tmp 19], #[27, 27]⟩, 4, "l14_route.go:61", #[⟨0, .data⟩, ⟨5, .data⟩], none⟩,
   ⟨some 21, .move (.tmp 20), 4, "l14_route.go:61", #[⟨6, .data⟩, ⟨6, .chain⟩], none⟩,
   ⟨some 22, .move (.tmp 6), 3, "l14_route.go:61", #[⟨7, .guard⟩], some (7, true)⟩,
   ⟨some 23, .binOp BinOp.lss 3 (.tmp 22) (.const (Value.int IntKind.i64 0)) 3, 4, "l14_route.go:61", #[⟨8, .data⟩, ⟨7, .guard⟩], some (7, true)⟩,
   ⟨some 24, .move (.tmp 23), 4, "l14_route.go:61", #[⟨9, .data⟩, ⟨7, .chain⟩, ⟨7, .guard⟩], some (7, true)⟩,
   ⟨some 25, .move (.tmp 0), 42, "l14_route.go:61", #[⟨10, .guard⟩], some (10, false)⟩,
   ⟨some 26, .move (.tmp 7), 3, "l14_route.go:61", #[⟨10, .guard⟩], some (10, false)⟩,
   ⟨some 27, .indexAddr 42 (.tmp 25) (.tmp 26), 0, "l14_route.go:61", #[⟨11, .data⟩, ⟨12, .data⟩, ⟨10, .guard⟩], some (10, false)⟩,
   ⟨some 28, .fieldAddr 53 (.tmp 27) 0, 0, "l14_route.go:61", #[⟨13, .data⟩, ⟨10, .guard⟩], some (10, false)⟩,
   ⟨some 29, .fieldAddr 27 (.tmp 28) 0, 0, "l14_route.go:61", #[⟨14, .data⟩, ⟨10, .guard⟩], some (10, false)⟩,
   ⟨some 30, .load 25 (.tmp 29), 25, "l14_route.go:61", #[⟨15, .data⟩, ⟨10, .guard⟩], some (10, false)⟩,
   ⟨some 31, .call ⟨.builtin .len, #[.tmp 30], #[25]⟩, 3, "l14_route.go:61", #[⟨16, .data⟩, ⟨10, .guard⟩], some (10, false)⟩,
   ⟨some 32, .move (.tmp 0), 42, "l14_route.go:61", #[⟨10, .guard⟩], some (10, false)⟩,
   ⟨some 33, .move (.tmp 6), 3, "l14_route.go:61", #[⟨10, .guard⟩], some (10, false)⟩,
   ⟨some 34, .indexAddr 42 (.tmp 32) (.tmp 33), 0, "l14_route.go:61", #[⟨18, .data⟩, ⟨19, .data⟩, ⟨10, .guard⟩], some (10, false)⟩,
   ⟨some 35, .fieldAddr 53 (.tmp 34) 0, 0, "l14_route.go:61", #[⟨20, .data⟩, ⟨10, .guard⟩], some (10, false)⟩,
   ⟨some 36, .fieldAddr 27 (.tmp 35) 0, 0, "l14_route.go:61", #[⟨21, .data⟩, ⟨10, .guard⟩], some (10, false)⟩,
   ⟨some 37, .load 25 (.tmp 36), 25, "l14_route.go:61", #[⟨22, .data⟩, ⟨10, .guard⟩], some (10, false)⟩,
   ⟨some 38, .call ⟨.builtin .len, #[.tmp 37], #[25]⟩, 3, "l14_route.go:61", #[⟨23, .data⟩, ⟨10, .guard⟩], some (10, false)⟩,
   ⟨some 39, .binOp BinOp.gtr 3 (.tmp 31) (.tmp 38) 3, 4, "l14_route.go:61", #[⟨17, .data⟩, ⟨24, .data⟩, ⟨10, .guard⟩], some (10, false)⟩,
   ⟨some 40, .pick (.tmp 24) (.const (Value.bool true)) (.tmp 39), 4, "l14_route.go:61", #[⟨10, .data⟩, ⟨25, .data⟩, ⟨7, .guard⟩], some (7, true)⟩,
   ⟨some 41, .pick (.tmp 21) (.tmp 40) (.const (Value.bool false)), 4, "l14_route.go:61", #[⟨7, .data⟩, ⟨26, .data⟩], none⟩] true).wp Try.prog Q ⟨#[.slice (some ⟨b, off, none⟩) n c, v1, v2, .pointer (some ⟨g, 0, none⟩), v4, v5, v6, .int .i64 k, v8, v9, v10, v11, v12, v13, v14, v15, v16, v17, v18, v19, v20, v21, v22, v23, v24, v25, v26, v27, v28, v29, v30, v31, v32, v33, v34, v35, v36, v37, v38, v39, v40, v41, v42, v43, v44, v45, v46, v47, v48, v49, v50, v51], []⟩ w := by
 have HQ := Lib.hid hQ; clear hQ
 have hdr : Below w.heap.size w w.drew := (Below.refl _ _).drew
 have BB := Lib.hid hdr
 refine wp_region_noPanic ?_
 refine wp_region_held_drew (S := (fun w' => w'.cell? ⟨g, 0, none⟩ = some (.slice xn nn cn) ∧ w'.cell? ⟨b, off + k * 3, none⟩ = some (.slice xa na ca))) (by kernel_rfl) ?_ (fun hHeld => ?_)
 ·
  exact ⟨kc K0.out BB.out, kc K1.out BB.out⟩
 clear hdr
 generalize w.drew = wd at *
 refine wpAnyH_take (i := 0) (oi := ⟨some 14, .load 27 (.tmp 3), 27, "l14_route.go:61", #[], none⟩) (v := ?_) rfl (by kernel_rfl) (by kernel_rfl) (by kernel_rfl) (fun _ _ _ h => h) (Or.inl ⟨by rfl, ?_⟩) (by assumption) ?_
 rotate_left
 ·
  intro w' hSw; (try dsimp only at hSw); first | (go_simp; done) | (go_simp; with_reducible rfl)
 (try simp only [Act.put, Row.pB0, Row.pB1, Row.pB2])
 refine wpAnyH_take (i := 1) (oi := ⟨some 15, .move (.tmp 0), 42, "l14_route.go:61", #[], none⟩) (v := ?_) rfl (by kernel_rfl) (by kernel_rfl) (by kernel_rfl) (fun _ _ _ h => h) (Or.inl ⟨by rfl, ?_⟩) (by assumption) ?_
 rotate_left
 ·
  intro w' hSw; (try dsimp only at hSw); first | (go_simp; done) | (go_simp; with_reducible rfl)
 (try simp only [Act.put, Row.pB0, Row.pB1, Row.pB2])
 refine wpAnyH_take (i := 2) (oi := ⟨some 16, .move (.tmp 7), 3, "l14_route.go:61", #[], none⟩) (v := ?_) rfl (by kernel_rfl) (by kernel_rfl) (by kernel_rfl) (fun _ _ _ h => h) (Or.inl ⟨by rfl, ?_⟩) (by assumption) ?_
 rotate_left
 ·
  intro w' hSw; (try dsimp only at hSw); first | (go_simp; done) | (go_simp; with_reducible rfl)
 (try simp only [Act.put, Row.pB0, Row.pB1, Row.pB2])
 refine wpAnyH_take (i := 3) (oi := ⟨some 17, .indexAddr 42 (.tmp 15) (.tmp 16), 0, "l14_route.go:61", #[⟨1, .data⟩, ⟨2, .data⟩], none⟩) (v := ?_) rfl (by kernel_rfl) (by kernel_rfl) (by kernel_rfl) (fun _ _ _ h => h) (Or.inl ⟨by rfl, ?_⟩) (by assumption) ?_
 rotate_left
 ·
  intro w' hSw; (try dsimp only at hSw); first | (go_simp; done) | (go_simp; with_reducible rfl)
 (try simp only [Act.put, Row.pB0, Row.pB1, Row.pB2])
 refine wpAnyH_take (i := 4) (oi := ⟨some 18, .fieldAddr 53 (.tmp 17) 0, 0, "l14_route.go:61", #[⟨3, .data⟩], none⟩) (v := ?_) rfl (by kernel_rfl) (by kernel_rfl) (by kernel_rfl) (fun _ _ _ h => h) (Or.inl ⟨by rfl, ?_⟩) (by assumption) ?_
 rotate_left
 ·
  intro w' hSw; (try dsimp only at hSw); first | (go_simp; done) | (go_simp; with_reducible rfl)
 (try simp only [Act.put, Row.pB0, Row.pB1, Row.pB2])
 refine wpAnyH_take (i := 5) (oi := ⟨some 19, .load 27 (.tmp 18), 27, "l14_route.go:61", #[⟨4, .data⟩], none⟩) (v := ?_) rfl (by kernel_rfl) (by kernel_rfl) (by kernel_rfl) (fun _ _ _ h => h) (Or.inl ⟨by rfl, ?_⟩) (by assumption) ?_
 rotate_left
 ·
  intro w' hSw; (try dsimp only at hSw); first | (go_simp; done) | (go_simp; with_reducible rfl)
 (try simp only [Act.put, Row.pB0, Row.pB1, Row.pB2])
 refine wpAnyH_ready (rs := [6]) (by kernel_rfl) (by simp) ?_
 refine AllReadyH.cons (o := ⟨some 20, .call ⟨.value (.func 65), #[.tmp 14, .tmp 19], #[27, 27]⟩, 4, "l14_route.go:61", #[⟨0, .data⟩, ⟨5, .data⟩], none⟩) rfl (fun K hK => ?_) AllReadyH.nil
 go_simp
 refine (sHpN false HZ.out (H_m.out.on BB.out) (H_a.out.on BB.out) (Nat.le_trans HMB.out (by decide)) (Nat.le_trans HAB.out (by decide))).mono ?_
 rintro e wn1 ⟨rfl, hb⟩
 replace BB := Lib.hid (BB.out.trans (hb.mono BB.out.size))
 clear hb
 (try go_wp2_with fail)
 clear hHeld
 refine hK.out _ _ ?_ (fun hHeld => ?_)
 ·
  (try dsimp only); exact ⟨kc K0.out BB.out, kc K1.out BB.out⟩
 clear hK K
 (try simp only [Act.put, Row.pB0, Row.pB1, Row.pB2])
 refine wpAnyH_take (i := 7) (oi := ⟨some 21, .move (.tmp 20), 4, "l14_route.go:61", #[⟨6, .data⟩, ⟨6, .chain⟩], none⟩) (v := ?_) rfl (by kernel_rfl) (by kernel_rfl) (by kernel_rfl) (fun _ _ _ h => h) (Or.inl ⟨by rfl, ?_⟩) (by assumption) ?_
 rotate_left
 ·
  intro w' hSw; (try dsimp only at hSw); first | (go_simp; done) | (go_simp; with_reducible rfl)
 (try simp only [Act.put, Row.pB0, Row.pB1, Row.pB2])
 refine wpAnyH_take (i := 8) (oi := ⟨some 22, .move (.tmp 6), 3, "l14_route.go:61", #[⟨7, .guard⟩], some (7, true)⟩) (v := undef) rfl (by kernel_rfl) (by kernel_rfl) (by kernel_rfl) (fun _ _ _ h => h) (Or.inr ⟨by rfl, rfl⟩) (by assumption) ?_
 (try simp only [Act.put, Row.pB0, Row.pB1, Row.pB2])
 refine wpAnyH_take (i := 9) (oi := ⟨some 23, .binOp BinOp.lss 3 (.tmp 22) (.const (Value.int IntKind.i64 0)) 3, 4, "l14_route.go:61", #[⟨8, .data⟩, ⟨7, .guard⟩], some (7, true)⟩) (v := undef) rfl (by kernel_rfl) (by kernel_rfl) (by kernel_rfl) (fun _ _ _ h => h) (Or.inr ⟨by rfl, rfl⟩) (by assumption) ?_
 (try simp only [Act.put, Row.pB0, Row.pB1, Row.pB2])
 refine wpAnyH_take (i := 10) (oi := ⟨some 24, .move (.tmp 23), 4, "l14_route.go:61", #[⟨9, .data⟩, ⟨7, .chain⟩, ⟨7, .guard⟩], some (7, true)⟩) (v := undef) rfl (by kernel_rfl) (by kernel_rfl) (by kernel_rfl) (fun _ _ _ h => h) (Or.inr ⟨by rfl, rfl⟩) (by assumption) ?_
 (try simp only [Act.put, Row.pB0, Row.pB1, Row.pB2])
 refine wpAnyH_take (i := 11) (oi := ⟨some 25, .move (.tmp 0), 42, "l14_route.go:61", #[⟨10, .guard⟩], some (10, false)⟩) (v := undef) rfl (by kernel_rfl) (by kernel_rfl) (by kernel_rfl) (fun _ _ _ h => h) (Or.inr ⟨by rfl, rfl⟩) (by assumption) ?_
 (try simp only [Act.put, Row.pB0, Row.pB1, Row.pB2])
 refine wpAnyH_take (i := 12) (oi := ⟨some 26, .move (.tmp 7), 3, "l14_route.go:61", #[⟨10, .guard⟩], some (10, false)⟩) (v := undef) rfl (by kernel_rfl) (by kernel_rfl) (by kernel_rfl) (fun _ _ _ h => h) (Or.inr ⟨by rfl, rfl⟩) (by assumption) ?_
 (try simp only [Act.put, Row.pB0, Row.pB1, Row.pB2])
 refine wpAnyH_take (i := 13) (oi := ⟨some 27, .indexAddr 42 (.tmp 25) (.tmp 26), 0, "l14_route.go:61", #[⟨11, .data⟩, ⟨12, .data⟩, ⟨10, .guard⟩], some (10, false)⟩) (v := undef) rfl (by kernel_rfl) (by kernel_rfl) (by kernel_rfl) (fun _ _ _ h => h) (Or.inr ⟨by rfl, rfl⟩) (by assumption) ?_
 (try simp only [Act.put, Row.pB0, Row.pB1, Row.pB2])
 refine wpAnyH_take (i := 14) (oi := ⟨some 28, .fieldAddr 53 (.tmp 27) 0, 0, "l14_route.go:61", #[⟨13, .data⟩, ⟨10, .guard⟩], some (10, false)⟩) (v := undef) rfl (by kernel_rfl) (by kernel_rfl) (by kernel_rfl) (fun _ _ _ h => h) (Or.inr ⟨by rfl, rfl⟩) (by assumption) ?_
 (try simp only [Act.put, Row.pB0, Row.pB1, Row.pB2])
 refine wpAnyH_take (i := 15) (oi := ⟨some 29, .fieldAddr 27 (.tmp 28) 0, 0, "l14_route.go:61", #[⟨14, .data⟩, ⟨10, .guard⟩], some (10, false)⟩) (v := undef) rfl (by kernel_rfl) (by kernel_rfl) (by kernel_rfl) (fun _ _ _ h => h) (Or.inr ⟨by rfl, rfl⟩) (by assumption) ?_
 (try simp only [Act.put, Row.pB0, Row.pB1, Row.pB2])
 refine wpAnyH_take (i := 16) (oi := ⟨some 30, .load 25 (.tmp 29), 25, "l14_route.go:61", #[⟨15, .data⟩, ⟨10, .guard⟩], some (10, false)⟩) (v := undef) rfl (by kernel_rfl) (by kernel_rfl) (by kernel_rfl) (fun _ _ _ h => h) (Or.inr ⟨by rfl, rfl⟩) (by assumption) ?_
 (try simp only [Act.put, Row.pB0, Row.pB1, Row.pB2])
 refine wpAnyH_take (i := 17) (oi := ⟨some 31, .call ⟨.builtin .len, #[.tmp 30], #[25]⟩, 3, "l14_route.go:61", #[⟨16, .data⟩, ⟨10, .guard⟩], some (10, false)⟩) (v := undef) rfl (by kernel_rfl) (by kernel_rfl) (by kernel_rfl) (fun _ _ _ h => h) (Or.inr ⟨by rfl, rfl⟩) (by assumption) ?_
 (try simp only [Act.put, Row.pB0, Row.pB1, Row.pB2])
 refine wpAnyH_take (i := 18) (oi := ⟨some 32, .move (.tmp 0), 42, "l14_route.go:61", #[⟨10, .guard⟩], some (10, false)⟩) (v := undef) rfl (by kernel_rfl) (by kernel_rfl) (by kernel_rfl) (fun _ _ _ h => h) (Or.inr ⟨by rfl, rfl⟩) (by assumption) ?_
 (try simp only [Act.put, Row.pB0, Row.pB1, Row.pB2])
 refine wpAnyH_take (i := 19) (oi := ⟨some 33, .move (.tmp 6), 3, "l14_route.go:61", #[⟨10, .guard⟩], some (10, false)⟩) (v := undef) rfl (by kernel_rfl) (by kernel_rfl) (by kernel_rfl) (fun _ _ _ h => h) (Or.inr ⟨by rfl, rfl⟩) (by assumption) ?_
 (try simp only [Act.put, Row.pB0, Row.pB1, Row.pB2])
 refine wpAnyH_take (i := 20) (oi := ⟨some 34, .indexAddr 42 (.tmp 32) (.tmp 33), 0, "l14_route.go:61", #[⟨18, .data⟩, ⟨19, .data⟩, ⟨10, .guard⟩], some (10, false)⟩) (v := undef) rfl (by kernel_rfl) (by kernel_rfl) (by kernel_rfl) (fun _ _ _ h => h) (Or.inr ⟨by rfl, rfl⟩) (by assumption) ?_
 (try simp only [Act.put, Row.pB0, Row.pB1, Row.pB2])
 refine wpAnyH_take (i := 21) (oi := ⟨some 35, .fieldAddr 53 (.tmp 34) 0, 0, "l14_route.go:61", #[⟨20, .data⟩, ⟨10, .guard⟩], some (10, false)⟩) (v := undef) rfl (by kernel_rfl) (by kernel_rfl) (by kernel_rfl) (fun _ _ _ h => h) (Or.inr ⟨by rfl, rfl⟩) (by assumption) ?_
 (try simp only [Act.put, Row.pB0, Row.pB1, Row.pB2])
 refine wpAnyH_take (i := 22) (oi := ⟨some 36, .fieldAddr 27 (.tmp 35) 0, 0, "l14_route.go:61", #[⟨21, .data⟩, ⟨10, .guard⟩], some (10, false)⟩) (v := undef) rfl (by kernel_rfl) (by kernel_rfl) (by kernel_rfl) (fun _ _ _ h => h) (Or.inr ⟨by rfl, rfl⟩) (by assumption) ?_
 (try simp only [Act.put, Row.pB0, Row.pB1, Row.pB2])
 refine wpAnyH_take (i := 23) (oi := ⟨some 37, .load 25 (.tmp 36), 25, "l14_route.go:61", #[⟨22, .data⟩, ⟨10, .guard⟩], some (10, false)⟩) (v := undef) rfl (by kernel_rfl) (by kernel_rfl) (by kernel_rfl) (fun _ _ _ h => h) (Or.inr ⟨by rfl, rfl⟩) (by assumption) ?_
 (try simp only [Act.put, Row.pB0, Row.pB1, Row.pB2])
 refine wpAnyH_take (i := 24) (oi := ⟨some 38, .call ⟨.builtin .len, #[.tmp 37], #[25]⟩, 3, "l14_route.go:61", #[⟨23, .data⟩, ⟨10, .guard⟩], some (10, false)⟩) (v := undef) rfl (by kernel_rfl) (by kernel_rfl) (by kernel_rfl) (fun _ _ _ h => h) (Or.inr ⟨by rfl, rfl⟩) (by assumption) ?_
 (try simp only [Act.put, Row.pB0, Row.pB1, Row.pB2])
 refine wpAnyH_take (i := 25) (oi := ⟨some 39, .binOp BinOp.gtr 3 (.tmp 31) (.tmp 38) 3, 4, "l14_route.go:61", #[⟨17, .data⟩, ⟨24, .data⟩, ⟨10, .guard⟩], some (10, false)⟩) (v := undef) rfl (by kernel_rfl) (by kernel_rfl) (by kernel_rfl) (fun _ _ _ h => h) (Or.inr ⟨by rfl, rfl⟩) (by assumption) ?_
 (try simp only [Act.put, Row.pB0, Row.pB1, Row.pB2])
 refine wpAnyH_take (i := 26) (oi := ⟨some 40, .pick (.tmp 24) (.const (Value.bool true)) (.tmp 39), 4, "l14_route.go:61", #[⟨10, .data⟩, ⟨25, .data⟩, ⟨7, .guard⟩], some (7, true)⟩) (v := undef) rfl (by kernel_rfl) (by kernel_rfl) (by kernel_rfl) (fun _ _ _ h => h) (Or.inr ⟨by rfl, rfl⟩) (by assumption) ?_
 (try simp only [Act.put, Row.pB0, Row.pB1, Row.pB2])
 refine wpAnyH_take (i := 27) (oi := ⟨some 41, .pick (.tmp 21) (.tmp 40) (.const (Value.bool false)), 4, "l14_route.go:61", #[⟨7, .data⟩, ⟨26, .data⟩], none⟩) (v := ?_) rfl (by kernel_rfl) (by kernel_rfl) (by kernel_rfl) (fun _ _ _ h => h) (Or.inl ⟨by rfl, ?_⟩) (by assumption) ?_
 rotate_left
 ·
  intro w' hSw; (try dsimp only at hSw); first | (go_simp; done) | (go_simp; with_reducible rfl)
 (try simp only [Act.put, Row.pB0, Row.pB1, Row.pB2])
 refine wpAnyH_done (by kernel_rfl) ?_ _
 exact NoPanic.normal (HQ.out _ _ _ _ _ _ _ _ _ _ _ _ _ _ _ _ _ _ _ _ _ _ _ _ _ _ _  _  BB.out)
set_option maxRecDepth 100000 in
set_option maxHeartbeats 4000000 in
theorem rmp1 {Q : Exit → Act → World → Prop} {v1 v2 v4 v5 v8 v9 v10 v11 v12 v13 v14 v15 v16 v17 v18 v19 v20 v21 v22 v23 v24 v25 v26 v27 v28 v29 v30 v31 v32 v33 v34 v35 v36 v37 v38 v39 v40 v41 v42 v43 v44 v45 v46 v47 v48 v49 v50 v51 : Value} {w : World} {b off n c g k na ca : Nat} {xa : Option Addr} {a m : List ByteArray} {xn : Option Addr} {nn cn : Nat} (hk : k < n) (hkc : k ≤ c) (hn : n ≤ 9000000) (HZ : Hid (hpB m a = true)) (H_a : Hid (kN.At w (.agg #[.slice xa na ca]) a)) (H_m : Hid (kN.At w (.agg #[.slice xn nn cn]) m)) (HAB : Hid (bulk a ≤ 1200000)) (HMB : Hid (bulk m ≤ 1200000)) (K0 : Hid (w.cell? ⟨g, 0, none⟩ = some (.slice xn nn cn))) (K1 : Hid (w.cell? ⟨b, off + k * 3, none⟩ = some (.slice xa na ca)))
  (hQ : ∀ (u14 u15 u16 u17 u18 u19 u20 u21 u22 u23 u24 u25 u26 u27 u28 u29 u30 u31 u32 u33 u34 u35 u36 u37 u38 u39 u40 : Value)  (wx : World), Below w.heap.size w wx → Q .normal ⟨#[.slice (some ⟨b, off, none⟩) n c, v1, v2, .pointer (some ⟨g, 0, none⟩), v4, v5, .int .i64 (-1), .int .i64 k, v8, v9, v10, v11, v12, v13, u14, u15, u16, u17, u18, u19, u20, u21, u22, u23, u24, u25, u26, u27, u28, u29, u30, u31, u32, u33, u34, u35, u36, u37, u38, u39, u40, .bool true, v42, v43, v44, v45, v46, v47, v48, v49, v50, v51], []⟩ wx) :
  (Code.region 5 #[⟨some 14, .load 27 (.tmp 3), 27, "l14_route.go:61", #[], none⟩,
   ⟨some 15, .move (.tmp 0), 42, "l14_route.go:61", #[], none⟩,
   ⟨some 16, .move (.tmp 7), 3, "l14_route.go:61", #[], none⟩,
   ⟨some 17, .indexAddr 42 (.tmp 15) (.tmp 16), 0, "l14_route.go:61", #[⟨1, .data⟩, ⟨2, .data⟩], none⟩,
   ⟨some 18, .fieldAddr 53 (.tmp 17) 0, 0, "l14_route.go:61", #[⟨3, .data⟩], none⟩,
   ⟨some 19, .load 27 (.tmp 18), 27, "l14_route.go:61", #[⟨4, .data⟩], none⟩,
   ⟨some 20, .call ⟨.value (.func 65), #[.tmp 14, .tmp 19], #[27, 27]⟩, 4, "l14_route.go:61", #[⟨0, .data⟩, ⟨5, .data⟩], none⟩,
   ⟨some 21, .move (.tmp 20), 4, "l14_route.go:61", #[⟨6, .data⟩, ⟨6, .chain⟩], none⟩,
   ⟨some 22, .move (.tmp 6), 3, "l14_route.go:61", #[⟨7, .guard⟩], some (7, true)⟩,
   ⟨some 23, .binOp BinOp.lss 3 (.tmp 22) (.const (Value.int IntKind.i64 0)) 3, 4, "l14_route.go:61", #[⟨8, .data⟩, ⟨7, .guard⟩], some (7, true)⟩,
   ⟨some 24, .move (.tmp 23), 4, "l14_route.go:61", #[⟨9, .data⟩, ⟨7, .chain⟩, ⟨7, .guard⟩], some (7, true)⟩,
   ⟨some 25, .move (.tmp 0), 42, "l14_route.go:61", #[⟨10, .guard⟩], some (10, false)⟩,
   ⟨some 26, .move (.tmp 7), 3, "l14_route.go:61", #[⟨10, .guard⟩], some (10, false)⟩,
   ⟨some 27, .indexAddr 42 (.tmp 25) (.tmp 26), 0, "l14_route.go:61", #[⟨11, .data⟩, ⟨12, .data⟩, ⟨10, .guard⟩], some (10, false)⟩,
   ⟨some 28, .fieldAddr 53 (.tmp 27) 0, 0, "l14_route.go:61", #[⟨13, .data⟩, ⟨10, .guard⟩], some (10, false)⟩,
   ⟨some 29, .fieldAddr 27 (.tmp 28) 0, 0, "l14_route.go:61", #[⟨14, .data⟩, ⟨10, .guard⟩], some (10, false)⟩,
   ⟨some 30, .load 25 (.tmp 29), 25, "l14_route.go:61", #[⟨15, .data⟩, ⟨10, .guard⟩], some (10, false)⟩,
   ⟨some 31, .call ⟨.builtin .len, #[.tmp 30], #[25]⟩, 3, "l14_route.go:61", #[⟨16, .data⟩, ⟨10, .guard⟩], some (10, false)⟩,
   ⟨some 32, .move (.tmp 0), 42, "l14_route.go:61", #[⟨10, .guard⟩], some (10, false)⟩,
   ⟨some 33, .move (.tmp 6), 3, "l14_route.go:61", #[⟨10, .guard⟩], some (10, false)⟩,
   ⟨some 34, .indexAddr 42 (.tmp 32) (.tmp 33), 0, "l14_route.go:61", #[⟨18, .data⟩, ⟨19, .data⟩, ⟨10, .guard⟩], some (10, false)⟩,
   ⟨some 35, .fieldAddr 53 (.tmp 34) 0, 0, "l14_route.go:61", #[⟨20, .data⟩, ⟨10, .guard⟩], some (10, false)⟩,
   ⟨some 36, .fieldAddr 27 (.tmp 35) 0, 0, "l14_route.go:61", #[⟨21, .data⟩, ⟨10, .guard⟩], some (10, false)⟩,
   ⟨some 37, .load 25 (.tmp 36), 25, "l14_route.go:61", #[⟨22, .data⟩, ⟨10, .guard⟩], some (10, false)⟩,
   ⟨some 38, .call ⟨.builtin .len, #[.tmp 37], #[25]⟩, 3, "l14_route.go:61", #[⟨23, .data⟩, ⟨10, .guard⟩], some (10, false)⟩,
   ⟨some 39, .binOp BinOp.gtr 3 (.tmp 31) (.tmp 38) 3, 4, "l14_route.go:61", #[⟨17, .data⟩, ⟨24, .data⟩, ⟨10, .guard⟩], some (10, false)⟩,
   ⟨some 40, .pick (.tmp 24) (.const (Value.bool true)) (.tmp 39), 4, "l14_route.go:61", #[⟨10, .data⟩, ⟨25, .data⟩, ⟨7, .guard⟩], some (7, true)⟩,
   ⟨some 41, .pick (.tmp 21) (.tmp 40) (.const (Value.bool false)), 4, "l14_route.go:61", #[⟨7, .data⟩, ⟨26, .data⟩], none⟩] true).wp Try.prog Q ⟨#[.slice (some ⟨b, off, none⟩) n c, v1, v2, .pointer (some ⟨g, 0, none⟩), v4, v5, .int .i64 (-1), .int .i64 k, v8, v9, v10, v11, v12, v13, v14, v15, v16, v17, v18, v19, v20, v21, v22, v23, v24, v25, v26, v27, v28, v29, v30, v31, v32, v33, v34, v35, v36, v37, v38, v39, v40, v41, v42, v43, v44, v45, v46, v47, v48, v49, v50, v51], []⟩ w := by
 have HQ := Lib.hid hQ; clear hQ
 have hdr : Below w.heap.size w w.drew := (Below.refl _ _).drew
 have BB := Lib.hid hdr
 refine wp_region_noPanic ?_
 refine wp_region_held_drew (S := (fun w' => w'.cell? ⟨g, 0, none⟩ = some (.slice xn nn cn) ∧ w'.cell? ⟨b, off + k * 3, none⟩ = some (.slice xa na ca))) (by kernel_rfl) ?_ (fun hHeld => ?_)
 ·
  exact ⟨kc K0.out BB.out, kc K1.out BB.out⟩
 clear hdr
 generalize w.drew = wd at *
 refine wpAnyH_take (i := 0) (oi := ⟨some 14, .load 27 (.tmp 3), 27, "l14_route.go:61", #[], none⟩) (v := ?_) rfl (by kernel_rfl) (by kernel_rfl) (by kernel_rfl) (fun _ _ _ h => h) (Or.inl ⟨by rfl, ?_⟩) (by assumption) ?_
 rotate_left
 ·
  intro w' hSw; (try dsimp only at hSw); first | (go_simp; done) | (go_simp; with_reducible rfl)
 (try simp only [Act.put, Row.pB0, Row.pB1, Row.pB2])
 refine wpAnyH_take (i := 1) (oi := ⟨some 15, .move (.tmp 0), 42, "l14_route.go:61", #[], none⟩) (v := ?_) rfl (by kernel_rfl) (by kernel_rfl) (by kernel_rfl) (fun _ _ _ h => h) (Or.inl ⟨by rfl, ?_⟩) (by assumption) ?_
 rotate_left
 ·
  intro w' hSw; (try dsimp only at hSw); first | (go_simp; done) | (go_simp; with_reducible rfl)
 (try simp only [Act.put, Row.pB0, Row.pB1, Row.pB2])
 refine wpAnyH_take (i := 2) (oi := ⟨some 16, .move (.tmp 7), 3, "l14_route.go:61", #[], none⟩) (v := ?_) rfl (by kernel_rfl) (by kernel_rfl) (by kernel_rfl) (fun _ _ _ h => h) (Or.inl ⟨by rfl, ?_⟩) (by assumption) ?_
 rotate_left
 ·
  intro w' hSw; (try dsimp only at hSw); first | (go_simp; done) | (go_simp; with_reducible rfl)
 (try simp only [Act.put, Row.pB0, Row.pB1, Row.pB2])
 refine wpAnyH_take (i := 3) (oi := ⟨some 17, .indexAddr 42 (.tmp 15) (.tmp 16), 0, "l14_route.go:61", #[⟨1, .data⟩, ⟨2, .data⟩], none⟩) (v := ?_) rfl (by kernel_rfl) (by kernel_rfl) (by kernel_rfl) (fun _ _ _ h => h) (Or.inl ⟨by rfl, ?_⟩) (by assumption) ?_
 rotate_left
 ·
  intro w' hSw; (try dsimp only at hSw); first | (go_simp; done) | (go_simp; with_reducible rfl)
 (try simp only [Act.put, Row.pB0, Row.pB1, Row.pB2])
 refine wpAnyH_take (i := 4) (oi := ⟨some 18, .fieldAddr 53 (.tmp 17) 0, 0, "l14_route.go:61", #[⟨3, .data⟩], none⟩) (v := ?_) rfl (by kernel_rfl) (by kernel_rfl) (by kernel_rfl) (fun _ _ _ h => h) (Or.inl ⟨by rfl, ?_⟩) (by assumption) ?_
 rotate_left
 ·
  intro w' hSw; (try dsimp only at hSw); first | (go_simp; done) | (go_simp; with_reducible rfl)
 (try simp only [Act.put, Row.pB0, Row.pB1, Row.pB2])
 refine wpAnyH_take (i := 5) (oi := ⟨some 19, .load 27 (.tmp 18), 27, "l14_route.go:61", #[⟨4, .data⟩], none⟩) (v := ?_) rfl (by kernel_rfl) (by kernel_rfl) (by kernel_rfl) (fun _ _ _ h => h) (Or.inl ⟨by rfl, ?_⟩) (by assumption) ?_
 rotate_left
 ·
  intro w' hSw; (try dsimp only at hSw); first | (go_simp; done) | (go_simp; with_reducible rfl)
 (try simp only [Act.put, Row.pB0, Row.pB1, Row.pB2])
 refine wpAnyH_ready (rs := [6]) (by kernel_rfl) (by simp) ?_
 refine AllReadyH.cons (o := ⟨some 20, .call ⟨.value (.func 65), #[.tmp 14, .tmp 19], #[27, 27]⟩, 4, "l14_route.go:61", #[⟨0, .data⟩, ⟨5, .data⟩], none⟩) rfl (fun K hK => ?_) AllReadyH.nil
 go_simp
 refine (sHpN true HZ.out (H_m.out.on BB.out) (H_a.out.on BB.out) (Nat.le_trans HMB.out (by decide)) (Nat.le_trans HAB.out (by decide))).mono ?_
 rintro e wn1 ⟨rfl, hb⟩
 replace BB := Lib.hid (BB.out.trans (hb.mono BB.out.size))
 clear hb
 (try go_wp2_with fail)
 clear hHeld
 refine hK.out _ _ ?_ (fun hHeld => ?_)
 ·
  (try dsimp only); exact ⟨kc K0.out BB.out, kc K1.out BB.out⟩
 clear hK K
 (try simp only [Act.put, Row.pB0, Row.pB1, Row.pB2])
 refine wpAnyH_take (i := 7) (oi := ⟨some 21, .move (.tmp 20), 4, "l14_route.go:61", #[⟨6, .data⟩, ⟨6, .chain⟩], none⟩) (v := ?_) rfl (by kernel_rfl) (by kernel_rfl) (by kernel_rfl) (fun _ _ _ h => h) (Or.inl ⟨by rfl, ?_⟩) (by assumption) ?_
 rotate_left
 ·
  intro w' hSw; (try dsimp only at hSw); first | (go_simp; done) | (go_simp; with_reducible rfl)
 (try simp only [Act.put, Row.pB0, Row.pB1, Row.pB2])
 refine wpAnyH_take (i := 8) (oi := ⟨some 22, .move (.tmp 6), 3, "l14_route.go:61", #[⟨7, .guard⟩], some (7, true)⟩) (v := ?_) rfl (by kernel_rfl) (by kernel_rfl) (by kernel_rfl) (fun _ _ _ h => h) (Or.inl ⟨by rfl, ?_⟩) (by assumption) ?_
 rotate_left
 ·
  intro w' hSw; (try dsimp only at hSw); first | (go_simp; done) | (go_simp; with_reducible rfl)
 (try simp only [Act.put, Row.pB0, Row.pB1, Row.pB2])
 refine wpAnyH_take (i := 9) (oi := ⟨some 23, .binOp BinOp.lss 3 (.tmp 22) (.const (Value.int IntKind.i64 0)) 3, 4, "l14_route.go:61", #[⟨8, .data⟩, ⟨7, .guard⟩], some (7, true)⟩) (v := ?_) rfl (by kernel_rfl) (by kernel_rfl) (by kernel_rfl) (fun _ _ _ h => h) (Or.inl ⟨by rfl, ?_⟩) (by assumption) ?_
 rotate_left
 ·
  intro w' hSw; (try dsimp only at hSw); first | (go_simp; done) | (go_simp; with_reducible rfl)
 (try simp only [Act.put, Row.pB0, Row.pB1, Row.pB2])
 refine wpAnyH_take (i := 10) (oi := ⟨some 24, .move (.tmp 23), 4, "l14_route.go:61", #[⟨9, .data⟩, ⟨7, .chain⟩, ⟨7, .guard⟩], some (7, true)⟩) (v := ?_) rfl (by kernel_rfl) (by kernel_rfl) (by kernel_rfl) (fun _ _ _ h => h) (Or.inl ⟨by rfl, ?_⟩) (by assumption) ?_
 rotate_left
 ·
  intro w' hSw; (try dsimp only at hSw); first | (go_simp; done) | (go_simp; with_reducible rfl)
 (try simp only [Act.put, Row.pB0, Row.pB1, Row.pB2])
 refine wpAnyH_take (i := 11) (oi := ⟨some 25, .move (.tmp 0), 42, "l14_route.go:61", #[⟨10, .guard⟩], some (10, false)⟩) (v := undef) rfl (by kernel_rfl) (by kernel_rfl) (by kernel_rfl) (fun _ _ _ h => h) (Or.inr ⟨by rfl, rfl⟩) (by assumption) ?_
 (try simp only [Act.put, Row.pB0, Row.pB1, Row.pB2])
 refine wpAnyH_take (i := 12) (oi := ⟨some 26, .move (.tmp 7), 3, "l14_route.go:61", #[⟨10, .guard⟩], some (10, false)⟩) (v := undef) rfl (by kernel_rfl) (by kernel_rfl) (by kernel_rfl) (fun _ _ _ h => h) (Or.inr ⟨by rfl, rfl⟩) (by assumption) ?_
 (try simp only [Act.put, Row.pB0, Row.pB1, Row.pB2])
 refine wpAnyH_take (i := 13) (oi := ⟨some 27, .indexAddr 42 (.tmp 25) (.tmp 26), 0, "l14_route.go:61", #[⟨11, .data⟩, ⟨12, .data⟩, ⟨10, .guard⟩], some (10, false)⟩) (v := undef) rfl (by kernel_rfl) (by kernel_rfl) (by kernel_rfl) (fun _ _ _ h => h) (Or.inr ⟨by rfl, rfl⟩) (by assumption) ?_
 (try simp only [Act.put, Row.pB0, Row.pB1, Row.pB2])
 refine wpAnyH_take (i := 14) (oi := ⟨some 28, .fieldAddr 53 (.tmp 27) 0, 0, "l14_route.go:61", #[⟨13, .data⟩, ⟨10, .guard⟩], some (10, false)⟩) (v := undef) rfl (by kernel_rfl) (by kernel_rfl) (by kernel_rfl) (fun _ _ _ h => h) (Or.inr ⟨by rfl, rfl⟩) (by assumption) ?_
 (try simp only [Act.put, Row.pB0, Row.pB1, Row.pB2])
 refine wpAnyH_take (i := 15) (oi := ⟨some 29, .fieldAddr 27 (.tmp 28) 0, 0, "l14_route.go:61", #[⟨14, .data⟩, ⟨10, .guard⟩], some (10, false)⟩) (v := undef) rfl (by kernel_rfl) (by kernel_rfl) (by kernel_rfl) (fun _ _ _ h => h) (Or.inr ⟨by rfl, rfl⟩) (by assumption) ?_
 (try simp only [Act.put, Row.pB0, Row.pB1, Row.pB2])
 refine wpAnyH_take (i := 16) (oi := ⟨some 30, .load 25 (.tmp 29), 25, "l14_route.go:61", #[⟨15, .data⟩, ⟨10, .guard⟩], some (10, false)⟩) (v := undef) rfl (by kernel_rfl) (by kernel_rfl) (by kernel_rfl) (fun _ _ _ h => h) (Or.inr ⟨by rfl, rfl⟩) (by assumption) ?_
 (try simp only [Act.put, Row.pB0, Row.pB1, Row.pB2])
 refine wpAnyH_take (i := 17) (oi := ⟨some 31, .call ⟨.builtin .len, #[.tmp 30], #[25]⟩, 3, "l14_route.go:61", #[⟨16, .data⟩, ⟨10, .guard⟩], some (10, false)⟩) (v := undef) rfl (by kernel_rfl) (by kernel_rfl) (by kernel_rfl) (fun _ _ _ h => h) (Or.inr ⟨by rfl, rfl⟩) (by assumption) ?_
 (try simp only [Act.put, Row.pB0, Row.pB1, Row.pB2])
 refine wpAnyH_take (i := 18) (oi := ⟨some 32, .move (.tmp 0), 42, "l14_route.go:61", #[⟨10, .guard⟩], some (10, false)⟩) (v := undef) rfl (by kernel_rfl) (by kernel_rfl) (by kernel_rfl) (fun _ _ _ h => h) (Or.inr ⟨by rfl, rfl⟩) (by assumption) ?_
 (try simp only [Act.put, Row.pB0, Row.pB1, Row.pB2])
 refine wpAnyH_take (i := 19) (oi := ⟨some 33, .move (.tmp 6), 3, "l14_route.go:61", #[⟨10, .guard⟩], some (10, false)⟩) (v := undef) rfl (by kernel_rfl) (by kernel_rfl) (by kernel_rfl) (fun _ _ _ h => h) (Or.inr ⟨by rfl, rfl⟩) (by assumption) ?_
 (try simp only [Act.put, Row.pB0, Row.pB1, Row.pB2])
 refine wpAnyH_take (i := 20) (oi := ⟨some 34, .indexAddr 42 (.tmp 32) (.tmp 33), 0, "l14_route.go:61", #[⟨18, .data⟩, ⟨19, .data⟩, ⟨10, .guard⟩], some (10, false)⟩) (v := undef) rfl (by kernel_rfl) (by kernel_rfl) (by kernel_rfl) (fun _ _ _ h => h) (Or.inr ⟨by rfl, rfl⟩) (by assumption) ?_
 (try simp only [Act.put, Row.pB0, Row.pB1, Row.pB2])
 refine wpAnyH_take (i := 21) (oi := ⟨some 35, .fieldAddr 53 (.tmp 34) 0, 0, "l14_route.go:61", #[⟨20, .data⟩, ⟨10, .guard⟩], some (10, false)⟩) (v := undef) rfl (by kernel_rfl) (by kernel_rfl) (by kernel_rfl) (fun _ _ _ h => h) (Or.inr ⟨by rfl, rfl⟩) (by assumption) ?_
 (try simp only [Act.put, Row.pB0, Row.pB1, Row.pB2])
 refine wpAnyH_take (i := 22) (oi := ⟨some 36, .fieldAddr 27 (.tmp 35) 0, 0, "l14_route.go:61", #[⟨21, .data⟩, ⟨10, .guard⟩], some (10, false)⟩) (v := undef) rfl (by kernel_rfl) (by kernel_rfl) (by kernel_rfl) (fun _ _ _ h => h) (Or.inr ⟨by rfl, rfl⟩) (by assumption) ?_
 (try simp only [Act.put, Row.pB0, Row.pB1, Row.pB2])
 refine wpAnyH_take (i := 23) (oi := ⟨some 37, .load 25 (.tmp 36), 25, "l14_route.go:61", #[⟨22, .data⟩, ⟨10, .guard⟩], some (10, false)⟩) (v := undef) rfl (by kernel_rfl) (by kernel_rfl) (by kernel_rfl) (fun _ _ _ h => h) (Or.inr ⟨by rfl, rfl⟩) (by assumption) ?_
 (try simp only [Act.put, Row.pB0, Row.pB1, Row.pB2])
 refine wpAnyH_take (i := 24) (oi := ⟨some 38, .call ⟨.builtin .len, #[.tmp 37], #[25]⟩, 3, "l14_route.go:61", #[⟨23, .data⟩, ⟨10, .guard⟩], some (10, false)⟩) (v := undef) rfl (by kernel_rfl) (by kernel_rfl) (by kernel_rfl) (fun _ _ _ h => h) (Or.inr ⟨by rfl, rfl⟩) (by assumption) ?_
 (try simp only [Act.put, Row.pB0, Row.pB1, Row.pB2])
 refine wpAnyH_take (i := 25) (oi := ⟨some 39, .binOp BinOp.gtr 3 (.tmp 31) (.tmp 38) 3, 4, "l14_route.go:61", #[⟨17, .data⟩, ⟨24, .data⟩, ⟨10, .guard⟩], some (10, false)⟩) (v := undef) rfl (by kernel_rfl) (by kernel_rfl) (by kernel_rfl) (fun _ _ _ h => h) (Or.inr ⟨by rfl, rfl⟩) (by assumption) ?_
 (try simp only [Act.put, Row.pB0, Row.pB1, Row.pB2])
 refine wpAnyH_take (i := 26) (oi := ⟨some 40, .pick (.tmp 24) (.const (Value.bool true)) (.tmp 39), 4, "l14_route.go:61", #[⟨10, .data⟩, ⟨25, .data⟩, ⟨7, .guard⟩], some (7, true)⟩) (v := ?_) rfl (by kernel_rfl) (by kernel_rfl) (by kernel_rfl) (fun _ _ _ h => h) (Or.inl ⟨by rfl, ?_⟩) (by assumption) ?_
 rotate_left
 ·
  intro w' hSw; (try dsimp only at hSw); first | (go_simp; done) | (go_simp; with_reducible rfl)
 (try simp only [Act.put, Row.pB0, Row.pB1, Row.pB2])
 refine wpAnyH_take (i := 27) (oi := ⟨some 41, .pick (.tmp 21) (.tmp 40) (.const (Value.bool false)), 4, "l14_route.go:61", #[⟨7, .data⟩, ⟨26, .data⟩], none⟩) (v := ?_) rfl (by kernel_rfl) (by kernel_rfl) (by kernel_rfl) (fun _ _ _ h => h) (Or.inl ⟨by rfl, ?_⟩) (by assumption) ?_
 rotate_left
 ·
  intro w' hSw; (try dsimp only at hSw); first | (go_simp; done) | (go_simp; with_reducible rfl)
 (try simp only [Act.put, Row.pB0, Row.pB1, Row.pB2])
 refine wpAnyH_done (by kernel_rfl) ?_ _
 exact NoPanic.normal (HQ.out _ _ _ _ _ _ _ _ _ _ _ _ _ _ _ _ _ _ _ _ _ _ _ _ _ _ _  _  BB.out)
set_option maxRecDepth 100000 in
set_option maxHeartbeats 4000000 in
theorem rmp2 {Q : Exit → Act → World → Prop} {v1 v2 v4 v5 v8 v9 v10 v11 v12 v13 v14 v15 v16 v17 v18 v19 v20 v21 v22 v23 v24 v25 v26 v27 v28 v29 v30 v31 v32 v33 v34 v35 v36 v37 v38 v39 v40 v41 v42 v43 v44 v45 v46 v47 v48 v49 v50 v51 : Value} {w : World} {b off n c g k na ca : Nat} {xa : Option Addr} {a m : List ByteArray} {xn : Option Addr} {nn cn : Nat} {j nj cj : Nat} {xj : Option Addr} (hk : k < n) (hj : j < n) (hjc : j ≤ c) (tj : decide ((j : Int) < 0) = false) (hkc : k ≤ c) (hn : n ≤ 9000000) (HZ : Hid (hpB m a = true)) (H_a : Hid (kN.At w (.agg #[.slice xa na ca]) a)) (H_m : Hid (kN.At w (.agg #[.slice xn nn cn]) m)) (HAB : Hid (bulk a ≤ 1200000)) (HMB : Hid (bulk m ≤ 1200000)) (K0 : Hid (w.cell? ⟨g, 0, none⟩ = some (.slice xn nn cn))) (K1 : Hid (w.cell? ⟨b, off + k * 3, none⟩ = some (.slice xa na ca))) (K2 : Hid (w.cell? ⟨b, off + j * 3, none⟩ = some (.slice xj nj cj)))
  (hQ : ∀ (u14 u15 u16 u17 u18 u19 u20 u21 u22 u23 u24 u25 u26 u27 u28 u29 u30 u31 u32 u33 u34 u35 u36 u37 u38 u39 u40 : Value)  (wx : World), Below w.heap.size w wx → Q .normal ⟨#[.slice (some ⟨b, off, none⟩) n c, v1, v2, .pointer (some ⟨g, 0, none⟩), v4, v5, .int .i64 j, .int .i64 k, v8, v9, v10, v11, v12, v13, u14, u15, u16, u17, u18, u19, u20, u21, u22, u23, u24, u25, u26, u27, u28, u29, u30, u31, u32, u33, u34, u35, u36, u37, u38, u39, u40, .bool (decide (nj < na)), v42, v43, v44, v45, v46, v47, v48, v49, v50, v51], []⟩ wx) :
  (Code.region 5 #[⟨some 14, .load 27 (.tmp 3), 27, "l14_route.go:61", #[], none⟩,
   ⟨some 15, .move (.tmp 0), 42, "l14_route.go:61", #[], none⟩,
   ⟨some 16, .move (.tmp 7), 3, "l14_route.go:61", #[], none⟩,
   ⟨some 17, .indexAddr 42 (.tmp 15) (.tmp 16), 0, "l14_route.go:61", #[⟨1, .data⟩, ⟨2, .data⟩], none⟩,
   ⟨some 18, .fieldAddr 53 (.tmp 17) 0, 0, "l14_route.go:61", #[⟨3, .data⟩], none⟩,
   ⟨some 19, .load 27 (.tmp 18), 27, "l14_route.go:61", #[⟨4, .data⟩], none⟩,
   ⟨some 20, .call ⟨.value (.func 65), #[.tmp 14, .tmp 19], #[27, 27]⟩, 4, "l14_route.go:61", #[⟨0, .data⟩, ⟨5, .data⟩], none⟩,
   ⟨some 21, .move (.tmp 20), 4, "l14_route.go:61", #[⟨6, .data⟩, ⟨6, .chain⟩], none⟩,
   ⟨some 22, .move (.tmp 6), 3, "l14_route.go:61", #[⟨7, .guard⟩], some (7, true)⟩,
   ⟨some 23, .binOp BinOp.lss 3 (.tmp 22) (.const (Value.int IntKind.i64 0)) 3, 4, "l14_route.go:61", #[⟨8, .data⟩, ⟨7, .guard⟩], some (7, true)⟩,
   ⟨some 24, .move (.tmp 23), 4, "l14_route.go:61", #[⟨9, .data⟩, ⟨7, .chain⟩, ⟨7, .guard⟩], some (7, true)⟩,
   ⟨some 25, .move (.tmp 0), 42, "l14_route.go:61", #[⟨10, .guard⟩], some (10, false)⟩,
   ⟨some 26, .move (.tmp 7), 3, "l14_route.go:61", #[⟨10, .guard⟩], some (10, false)⟩,
   ⟨some 27, .indexAddr 42 (.tmp 25) (.tmp 26), 0, "l14_route.go:61", #[⟨11, .data⟩, ⟨12, .data⟩, ⟨10, .guard⟩], some (10, false)⟩,
   ⟨some 28, .fieldAddr 53 (.tmp 27) 0, 0, "l14_route.go:61", #[⟨13, .data⟩, ⟨10, .guard⟩], some (10, false)⟩,
   ⟨some 29, .fieldAddr 27 (.tmp 28) 0, 0, "l14_route.go:61", #[⟨14, .data⟩, ⟨10, .guard⟩], some (10, false)⟩,
   ⟨some 30, .load 25 (.tmp 29), 25, "l14_route.go:61", #[⟨15, .data⟩, ⟨10, .guard⟩], some (10, false)⟩,
   ⟨some 31, .call ⟨.builtin .len, #[.tmp 30], #[25]⟩, 3, "l14_route.go:61", #[⟨16, .data⟩, ⟨10, .guard⟩], some (10, false)⟩,
   ⟨some 32, .move (.tmp 0), 42, "l14_route.go:61", #[⟨10, .guard⟩], some (10, false)⟩,
   ⟨some 33, .move (.tmp 6), 3, "l14_route.go:61", #[⟨10, .guard⟩], some (10, false)⟩,
   ⟨some 34, .indexAddr 42 (.tmp 32) (.tmp 33), 0, "l14_route.go:61", #[⟨18, .data⟩, ⟨19, .data⟩, ⟨10, .guard⟩], some (10, false)⟩,
   ⟨some 35, .fieldAddr 53 (.tmp 34) 0, 0, "l14_route.go:61", #[⟨20, .data⟩, ⟨10, .guard⟩], some (10, false)⟩,
   ⟨some 36, .fieldAddr 27 (.tmp 35) 0, 0, "l14_route.go:61", #[⟨21, .data⟩, ⟨10, .guard⟩], some (10, false)⟩,
   ⟨some 37, .load 25 (.tmp 36), 25, "l14_route.go:61", #[⟨22, .data⟩, ⟨10, .guard⟩], some (10, false)⟩,
   ⟨some 38, .call ⟨.builtin .len, #[.tmp 37], #[25]⟩, 3, "l14_route.go:61", #[⟨23, .data⟩, ⟨10, .guard⟩], some (10, false)⟩,
   ⟨some 39, .binOp BinOp.gtr 3 (.tmp 31) (.tmp 38) 3, 4, "l14_route.go:61", #[⟨17, .data⟩, ⟨24, .data⟩, ⟨10, .guard⟩], some (10, false)⟩,
   ⟨some 40, .pick (.tmp 24) (.const (Value.bool true)) (.tmp 39), 4, "l14_route.go:61", #[⟨10, .data⟩, ⟨25, .data⟩, ⟨7, .guard⟩], some (7, true)⟩,
   ⟨some 41, .pick (.tmp 21) (.tmp 40) (.const (Value.bool false)), 4, "l14_route.go:61", #[⟨7, .data⟩, ⟨26, .data⟩], none⟩] true).wp Try.prog Q ⟨#[.slice (some ⟨b, off, none⟩) n c, v1, v2, .pointer (some ⟨g, 0, none⟩), v4, v5, .int .i64 j, .int .i64 k, v8, v9, v10, v11, v12, v13, v14, v15, v16, v17, v18, v19, v20, v21, v22, v23, v24, v25, v26, v27, v28, v29, v30, v31, v32, v33, v34, v35, v36, v37, v38, v39, v40, v41, v42, v43, v44, v45, v46, v47, v48, v49, v50, v51], []⟩ w := by
 have HQ := Lib.hid hQ; clear hQ
 have hdr : Below w.heap.size w w.drew := (Below.refl _ _).drew
 have BB := Lib.hid hdr
 refine wp_region_noPanic ?_
 refine wp_region_held_drew (S := (fun w' => w'.cell? ⟨g, 0, none⟩ = some (.slice xn nn cn) ∧ w'.cell? ⟨b, off + k * 3, none⟩ = some (.slice xa na ca) ∧ w'.cell? ⟨b, off + j * 3, none⟩ = some (.slice xj nj cj))) (by kernel_rfl) ?_ (fun hHeld => ?_)
 ·
  exact ⟨kc K0.out BB.out, kc K1.out BB.out, kc K2.out BB.out⟩
 clear hdr
 generalize w.drew = wd at *
 refine wpAnyH_take (i := 0) (oi := ⟨some 14, .load 27 (.tmp 3), 27, "l14_route.go:61", #[], none⟩) (v := ?_) rfl (by kernel_rfl) (by kernel_rfl) (by kernel_rfl) (fun _ _ _ h => h) (Or.inl ⟨by rfl, ?_⟩) (by assumption) ?_
 rotate_left
 ·
  intro w' hSw; (try dsimp only at hSw); first | (go_simp; done) | (go_simp; with_reducible rfl)
 (try simp only [Act.put, Row.pB0, Row.pB1, Row.pB2])
 refine wpAnyH_take (i := 1) (oi := ⟨some 15, .move (.tmp 0), 42, "l14_route.go:61", #[], none⟩) (v := ?_) rfl (by kernel_rfl) (by kernel_rfl) (by kernel_rfl) (fun _ _ _ h => h) (Or.inl ⟨by rfl, ?_⟩) (by assumption) ?_
 rotate_left
 ·
  intro w' hSw; (try dsimp only at hSw); first | (go_simp; done) | (go_simp; with_reducible rfl)
 (try simp only [Act.put, Row.pB0, Row.pB1, Row.pB2])
 refine wpAnyH_take (i := 2) (oi := ⟨some 16, .move (.tmp 7), 3, "l14_route.go:61", #[], none⟩) (v := ?_) rfl (by kernel_rfl) (by kernel_rfl) (by kernel_rfl) (fun _ _ _ h => h) (Or.inl ⟨by rfl, ?_⟩) (by assumption) ?_
 rotate_left
 ·
  intro w' hSw; (try dsimp only at hSw); first | (go_simp; done) | (go_simp; with_reducible rfl)
 (try simp only [Act.put, Row.pB0, Row.pB1, Row.pB2])
 refine wpAnyH_take (i := 3) (oi := ⟨some 17, .indexAddr 42 (.tmp 15) (.tmp 16), 0, "l14_route.go:61", #[⟨1, .data⟩, ⟨2, .data⟩], none⟩) (v := ?_) rfl (by kernel_rfl) (by kernel_rfl) (by kernel_rfl) (fun _ _ _ h => h) (Or.inl ⟨by rfl, ?_⟩) (by assumption) ?_
 rotate_left
 ·
  intro w' hSw; (try dsimp only at hSw); first | (go_simp; done) | (go_simp; with_reducible rfl)
 (try simp only [Act.put, Row.pB0, Row.pB1, Row.pB2])
 refine wpAnyH_take (i := 4) (oi := ⟨some 18, .fieldAddr 53 (.tmp 17) 0, 0, "l14_route.go:61", #[⟨3, .data⟩], none⟩) (v := ?_) rfl (by kernel_rfl) (by kernel_rfl) (by kernel_rfl) (fun _ _ _ h => h) (Or.inl ⟨by rfl, ?_⟩) (by assumption) ?_
 rotate_left
 ·
  intro w' hSw; (try dsimp only at hSw); first | (go_simp; done) | (go_simp; with_reducible rfl)
 (try simp only [Act.put, Row.pB0, Row.pB1, Row.pB2])
 refine wpAnyH_take (i := 5) (oi := ⟨some 19, .load 27 (.tmp 18), 27, "l14_route.go:61", #[⟨4, .data⟩], none⟩) (v := ?_) rfl (by kernel_rfl) (by kernel_rfl) (by kernel_rfl) (fun _ _ _ h => h) (Or.inl ⟨by rfl, ?_⟩) (by assumption) ?_
 rotate_left
 ·
  intro w' hSw; (try dsimp only at hSw); first | (go_simp; done) | (go_simp; with_reducible rfl)
 (try simp only [Act.put, Row.pB0, Row.pB1, Row.pB2])
 refine wpAnyH_ready (rs := [6]) (by kernel_rfl) (by simp) ?_
 refine AllReadyH.cons (o := ⟨some 20, .call ⟨.value (.func 65), #[.tmp 14, .tmp 19], #[27, 27]⟩, 4, "l14_route.go:61", #[⟨0, .data⟩, ⟨5, .data⟩], none⟩) rfl (fun K hK => ?_) AllReadyH.nil
 go_simp
 refine (sHpN true HZ.out (H_m.out.on BB.out) (H_a.out.on BB.out) (Nat.le_trans HMB.out (by decide)) (Nat.le_trans HAB.out (by decide))).mono ?_
 rintro e wn1 ⟨rfl, hb⟩
 replace BB := Lib.hid (BB.out.trans (hb.mono BB.out.size))
 clear hb
 (try go_wp2_with fail)
 clear hHeld
 refine hK.out _ _ ?_ (fun hHeld => ?_)
 ·
  (try dsimp only); exact ⟨kc K0.out BB.out, kc K1.out BB.out, kc K2.out BB.out⟩
 clear hK K
 (try simp only [Act.put, Row.pB0, Row.pB1, Row.pB2])
 refine wpAnyH_take (i := 7) (oi := ⟨some 21, .move (.tmp 20), 4, "l14_route.go:61", #[⟨6, .data⟩, ⟨6, .chain⟩], none⟩) (v := ?_) rfl (by kernel_rfl) (by kernel_rfl) (by kernel_rfl) (fun _ _ _ h => h) (Or.inl ⟨by rfl, ?_⟩) (by assumption) ?_
 rotate_left
 ·
  intro w' hSw; (try dsimp only at hSw); first | (go_simp; done) | (go_simp; with_reducible rfl)
 (try simp only [Act.put, Row.pB0, Row.pB1, Row.pB2])
 refine wpAnyH_take (i := 8) (oi := ⟨some 22, .move (.tmp 6), 3, "l14_route.go:61", #[⟨7, .guard⟩], some (7, true)⟩) (v := ?_) rfl (by kernel_rfl) (by kernel_rfl) (by kernel_rfl) (fun _ _ _ h => h) (Or.inl ⟨by rfl, ?_⟩) (by assumption) ?_
 rotate_left
 ·
  intro w' hSw; (try dsimp only at hSw); first | (go_simp; done) | (go_simp; with_reducible rfl)
 (try simp only [Act.put, Row.pB0, Row.pB1, Row.pB2])
 refine wpAnyH_take (i := 9) (oi := ⟨some 23, .binOp BinOp.lss 3 (.tmp 22) (.const (Value.int IntKind.i64 0)) 3, 4, "l14_route.go:61", #[⟨8, .data⟩, ⟨7, .guard⟩], some (7, true)⟩) (v := ?_) rfl (by kernel_rfl) (by kernel_rfl) (by kernel_rfl) (fun _ _ _ h => h) (Or.inl ⟨by rfl, ?_⟩) (by assumption) ?_
 rotate_left
 ·
  intro w' hSw; (try dsimp only at hSw); first | (go_simp; done) | (go_simp; with_reducible rfl)
 (try simp only [Act.put, Row.pB0, Row.pB1, Row.pB2])
 refine wpAnyH_take (i := 10) (oi := ⟨some 24, .move (.tmp 23), 4, "l14_route.go:61", #[⟨9, .data⟩, ⟨7, .chain⟩, ⟨7, .guard⟩], some (7, true)⟩) (v := ?_) rfl (by kernel_rfl) (by kernel_rfl) (by kernel_rfl) (fun _ _ _ h => h) (Or.inl ⟨by rfl, ?_⟩) (by assumption) ?_
 rotate_left
 ·
  intro w' hSw; (try dsimp only at hSw); first | (go_simp; done) | (go_simp; with_reducible rfl)
 (try simp only [Act.put, Row.pB0, Row.pB1, Row.pB2])
 refine wpAnyH_take (i := 11) (oi := ⟨some 25, .move (.tmp 0), 42, "l14_route.go:61", #[⟨10, .guard⟩], some (10, false)⟩) (v := ?_) rfl (by kernel_rfl) (by kernel_rfl) (by kernel_rfl) (fun _ _ _ h => h) (Or.inl ⟨by rfl, ?_⟩) (by assumption) ?_
 rotate_left
 ·
  intro w' hSw; (try dsimp only at hSw); first | (go_simp; done) | (go_simp; with_reducible rfl)
 (try simp only [Act.put, Row.pB0, Row.pB1, Row.pB2])
 refine wpAnyH_take (i := 12) (oi := ⟨some 26, .move (.tmp 7), 3, "l14_route.go:61", #[⟨10, .guard⟩], some (10, false)⟩) (v := ?_) rfl (by kernel_rfl) (by kernel_rfl) (by kernel_rfl) (fun _ _ _ h => h) (Or.inl ⟨by rfl, ?_⟩) (by assumption) ?_
 rotate_left
 ·
  intro w' hSw; (try dsimp only at hSw); first | (go_simp; done) | (go_simp; with_reducible rfl)
 (try simp only [Act.put, Row.pB0, Row.pB1, Row.pB2])
 refine wpAnyH_take (i := 13) (oi := ⟨some 27, .indexAddr 42 (.tmp 25) (.tmp 26), 0, "l14_route.go:61", #[⟨11, .data⟩, ⟨12, .data⟩, ⟨10, .guard⟩], some (10, false)⟩) (v := ?_) rfl (by kernel_rfl) (by kernel_rfl) (by kernel_rfl) (fun _ _ _ h => h) (Or.inl ⟨by rfl, ?_⟩) (by assumption) ?_
 rotate_left
 ·
  intro w' hSw; (try dsimp only at hSw); first | (go_simp; done) | (go_simp; with_reducible rfl)
 (try simp only [Act.put, Row.pB0, Row.pB1, Row.pB2])
 refine wpAnyH_take (i := 14) (oi := ⟨some 28, .fieldAddr 53 (.tmp 27) 0, 0, "l14_route.go:61", #[⟨13, .data⟩, ⟨10, .guard⟩], some (10, false)⟩) (v := ?_) rfl (by kernel_rfl) (by kernel_rfl) (by kernel_rfl) (fun _ _ _ h => h) (Or.inl ⟨by rfl, ?_⟩) (by assumption) ?_
 rotate_left
 ·
  intro w' hSw; (try dsimp only at hSw); first | (go_simp; done) | (go_simp; with_reducible rfl)
 (try simp only [Act.put, Row.pB0, Row.pB1, Row.pB2])
 refine wpAnyH_take (i := 15) (oi := ⟨some 29, .fieldAddr 27 (.tmp 28) 0, 0, "l14_route.go:61", #[⟨14, .data⟩, ⟨10, .guard⟩], some (10, false)⟩) (v := ?_) rfl (by kernel_rfl) (by kernel_rfl) (by kernel_rfl) (fun _ _ _ h => h) (Or.inl ⟨by rfl, ?_⟩) (by assumption) ?_
 rotate_left
 ·
  intro w' hSw; (try dsimp only at hSw); first | (go_simp; done) | (go_simp; with_reducible rfl)
 (try simp only [Act.put, Row.pB0, Row.pB1, Row.pB2])
 refine wpAnyH_take (i := 16) (oi := ⟨some 30, .load 25 (.tmp 29), 25, "l14_route.go:61", #[⟨15, .data⟩, ⟨10, .guard⟩], some (10, false)⟩) (v := ?_) rfl (by kernel_rfl) (by kernel_rfl) (by kernel_rfl) (fun _ _ _ h => h) (Or.inl ⟨by rfl, ?_⟩) (by assumption) ?_
 rotate_left
 ·
  intro w' hSw; (try dsimp only at hSw); first | (go_simp; done) | (go_simp; with_reducible rfl)
 (try simp only [Act.put, Row.pB0, Row.pB1, Row.pB2])
 refine wpAnyH_take (i := 17) (oi := ⟨some 31, .call ⟨.builtin .len, #[.tmp 30], #[25]⟩, 3, "l14_route.go:61", #[⟨16, .data⟩, ⟨10, .guard⟩], some (10, false)⟩) (v := ?_) rfl (by kernel_rfl) (by kernel_rfl) (by kernel_rfl) (fun _ _ _ h => h) (Or.inl ⟨by rfl, ?_⟩) (by assumption) ?_
 rotate_left
 ·
  intro w' hSw; (try dsimp only at hSw); first | (go_simp; done) | (go_simp; with_reducible rfl)
 (try simp only [Act.put, Row.pB0, Row.pB1, Row.pB2])
 refine wpAnyH_take (i := 18) (oi := ⟨some 32, .move (.tmp 0), 42, "l14_route.go:61", #[⟨10, .guard⟩], some (10, false)⟩) (v := ?_) rfl (by kernel_rfl) (by kernel_rfl) (by kernel_rfl) (fun _ _ _ h => h) (Or.inl ⟨by rfl, ?_⟩) (by assumption) ?_
 rotate_left
 ·
  intro w' hSw; (try dsimp only at hSw); first | (go_simp; done) | (go_simp; with_reducible rfl)
 (try simp only [Act.put, Row.pB0, Row.pB1, Row.pB2])
 refine wpAnyH_take (i := 19) (oi := ⟨some 33, .move (.tmp 6), 3, "l14_route.go:61", #[⟨10, .guard⟩], some (10, false)⟩) (v := ?_) rfl (by kernel_rfl) (by kernel_rfl) (by kernel_rfl) (fun _ _ _ h => h) (Or.inl ⟨by rfl, ?_⟩) (by assumption) ?_
 rotate_left
 ·
  intro w' hSw; (try dsimp only at hSw); first | (go_simp; done) | (go_simp; with_reducible rfl)
 (try simp only [Act.put, Row.pB0, Row.pB1, Row.pB2])
 refine wpAnyH_take (i := 20) (oi := ⟨some 34, .indexAddr 42 (.tmp 32) (.tmp 33), 0, "l14_route.go:61", #[⟨18, .data⟩, ⟨19, .data⟩, ⟨10, .guard⟩], some (10, false)⟩) (v := ?_) rfl (by kernel_rfl) (by kernel_rfl) (by kernel_rfl) (fun _ _ _ h => h) (Or.inl ⟨by rfl, ?_⟩) (by assumption) ?_
 rotate_left
 ·
  intro w' hSw; (try dsimp only at hSw); first | (go_simp; done) | (go_simp; with_reducible rfl)
 (try simp only [Act.put, Row.pB0, Row.pB1, Row.pB2])
 refine wpAnyH_take (i := 21) (oi := ⟨some 35, .fieldAddr 53 (.tmp 34) 0, 0, "l14_route.go:61", #[⟨20, .data⟩, ⟨10, .guard⟩], some (10, false)⟩) (v := ?_) rfl (by kernel_rfl) (by kernel_rfl) (by kernel_rfl) (fun _ _ _ h => h) (Or.inl ⟨by rfl, ?_⟩) (by assumption) ?_
 rotate_left
 ·
  intro w' hSw; (try dsimp only at hSw); first | (go_simp; done) | (go_simp; with_reducible rfl)
 (try simp only [Act.put, Row.pB0, Row.pB1, Row.pB2])
 refine wpAnyH_take (i := 22) (oi := ⟨some 36, .fieldAddr 27 (.tmp 35) 0, 0, "l14_route.go:61", #[⟨21, .data⟩, ⟨10, .guard⟩], some (10, false)⟩) (v := ?_) rfl (by kernel_rfl) (by kernel_rfl) (by kernel_rfl) (fun _ _ _ h => h) (Or.inl ⟨by rfl, ?_⟩) (by assumption) ?_
 rotate_left
 ·
  intro w' hSw; (try dsimp only at hSw); first | (go_simp; done) | (go_simp; with_reducible rfl)
 (try simp only [Act.put, Row.pB0, Row.pB1, Row.pB2])
 refine wpAnyH_take (i := 23) (oi := ⟨some 37, .load 25 (.tmp 36), 25, "l14_route.go:61", #[⟨22, .data⟩, ⟨10, .guard⟩], some (10, false)⟩) (v := ?_) rfl (by kernel_rfl) (by kernel_rfl) (by kernel_rfl) (fun _ _ _ h => h) (Or.inl ⟨by rfl, ?_⟩) (by assumption) ?_
 rotate_left
 ·
  intro w' hSw; (try dsimp only at hSw); first | (go_simp; done) | (go_simp; with_reducible rfl)
 (try simp only [Act.put, Row.pB0, Row.pB1, Row.pB2])
 refine wpAnyH_take (i := 24) (oi := ⟨some 38, .call ⟨.builtin .len, #[.tmp 37], #[25]⟩, 3, "l14_route.go:61", #[⟨23, .data⟩, ⟨10, .guard⟩], some (10, false)⟩) (v := ?_) rfl (by kernel_rfl) (by kernel_rfl) (by kernel_rfl) (fun _ _ _ h => h) (Or.inl ⟨by rfl, ?_⟩) (by assumption) ?_
 rotate_left
 ·
  intro w' hSw; (try dsimp only at hSw); first | (go_simp; done) | (go_simp; with_reducible rfl)
 (try simp only [Act.put, Row.pB0, Row.pB1, Row.pB2])
 refine wpAnyH_take (i := 25) (oi := ⟨some 39, .binOp BinOp.gtr 3 (.tmp 31) (.tmp 38) 3, 4, "l14_route.go:61", #[⟨17, .data⟩, ⟨24, .data⟩, ⟨10, .guard⟩], some (10, false)⟩) (v := ?_) rfl (by kernel_rfl) (by kernel_rfl) (by kernel_rfl) (fun _ _ _ h => h) (Or.inl ⟨by rfl, ?_⟩) (by assumption) ?_
 rotate_left
 ·
  intro w' hSw; (try dsimp only at hSw); first | (go_simp; done) | (go_simp; with_reducible rfl)
 (try simp only [Act.put, Row.pB0, Row.pB1, Row.pB2])
 refine wpAnyH_take (i := 26) (oi := ⟨some 40, .pick (.tmp 24) (.const (Value.bool true)) (.tmp 39), 4, "l14_route.go:61", #[⟨10, .data⟩, ⟨25, .data⟩, ⟨7, .guard⟩], some (7, true)⟩) (v := ?_) rfl (by kernel_rfl) (by kernel_rfl) (by kernel_rfl) (fun _ _ _ h => h) (Or.inl ⟨by rfl, ?_⟩) (by assumption) ?_
 rotate_left
 ·
  intro w' hSw; (try dsimp only at hSw); first | (go_simp; done) | (go_simp; with_reducible rfl)
 (try simp only [Act.put, Row.pB0, Row.pB1, Row.pB2])
 refine wpAnyH_take (i := 27) (oi := ⟨some 41, .pick (.tmp 21) (.tmp 40) (.const (Value.bool false)), 4, "l14_route.go:61", #[⟨7, .data⟩, ⟨26, .data⟩], none⟩) (v := ?_) rfl (by kernel_rfl) (by kernel_rfl) (by kernel_rfl) (fun _ _ _ h => h) (Or.inl ⟨by rfl, ?_⟩) (by assumption) ?_
 rotate_left
 ·
  intro w' hSw; (try dsimp only at hSw); first | (go_simp; done) | (go_simp; with_reducible rfl)
 (try simp only [Act.put, Row.pB0, Row.pB1, Row.pB2])
 refine wpAnyH_done (by kernel_rfl) ?_ _
 exact NoPanic.normal (HQ.out _ _ _ _ _ _ _ _ _ _ _ _ _ _ _ _ _ _ _ _ _ _ _ _ _ _ _  _  BB.out)
set_option maxHeartbeats 8000000 in
theorem specMatchingPrefix (V U : Value) (l : List Rtt) (m : List ByteArray) (w : World) (h : kLRt.At w V l) (g : kN.At w U m) (hf : FitRt l) (hm : bulk m ≤ 1200000) :
    Calls Try.prog 31 #[V, U] w (GivesMp l m w) := by
  have hl := hf.len
  have hp := hf.each
  obtain ⟨x, n, cx, L, rfl, hn, ht, hh, hel⟩ := kLRt_at h
  have hlen : l.length = n := by rw [← ht, List.length_map]; exact hn.symm
  rw [hlen] at hl
  have hcap : n ≤ cx := by obtain ⟨x', n', cap', hv, hn', hc', -⟩ := hh.shapeN; cases hv; exact hc'
  obtain ⟨xn, nn, cn, rfl, g⟩ := kN_shapeA g
  have HG0 := Lib.hid g
  have b1 := (Below.refl w.heap.size w).alloc (Nat.le_refl _) (.cells #[.slice xn nn cn] 27)
  have b2 := b1.alloc (by simp) (.cells #[.slice none 0 0] 27)
  have HX := Lib.hid ((Ret.Blk.new w #[.slice xn nn cn] 27).on ((Below.refl _ _).alloc (Nat.le_refl _) (.cells #[.slice none 0 0] 27)))
  have HY := Lib.hid (Ret.Blk.new' (w := (w.alloc (.cells #[.slice xn nn cn] 27))) (n := w.heap.size + 1) #[.slice none 0 0] 27 (by simp))
  have HB := Lib.hid b2; have HM := Lib.hid hm
  have HN := Lib.hid hn; have HT := Lib.hid ht; have HH := Lib.hid hh; have HEL := Lib.hid hel; have HLEN := Lib.hid hlen; have HP := Lib.hid hp
  unfold GivesMp
  clear b1 b2 g hm hf hn ht hh hel hlen hp h
  go_enter Try.func31, Try.ntmps31
  go_wp2
  go_loopw [6, 7] (fun zv iv wr => ∃ k : Nat, k ≤ n ∧ iv = .int .i64 k ∧ zv = .int .i64 (mpI l m k) ∧ Hid (Ret.Blk wr w.heap.size #[.slice xn nn cn] 27) ∧ Hid (Ret.Blk wr (w.heap.size + 1) #[.slice none 0 0] 27) ∧ Hid (Below w.heap.size w wr)) (fun _ iv _ => n - (intOf iv).toNat)
  case atStart => exact ⟨0, Nat.zero_le _, rfl, rfl, HX, HY, HB⟩
  case round =>
    clear HX HY HB
    obtain ⟨k, hk, rfl, rfl, hx, hy, hb⟩ := hrel
    obtain ⟨z, hz⟩ : ∃ z, mpI l m k = z := ⟨_, rfl⟩
    have hz1 := mpI_lt l m k
    rw [hz] at hz1 ⊢
    have HZ := Lib.hid hz
    clear hz
    by_cases hlt : k < n
    · have hlen := HN.out
      obtain ⟨b, off, y0, m0, d0, rfl, -, hc0, hc1, hc2, hA⟩ := kLRt_elem HH.out (fun y hy => HEL.out y hy) (j := k) (by omega)
      have hpt : nth l k = kRt.strip (nth L k) := by rw [← HT.out, nth_map _ (by omega)]
      have hps := HP.out (nth l k) (nth_mem (by have := HLEN.out; omega))
      rw [← hpt] at hA hc1 hc2
      have hNM := kRt_parts hA
      obtain ⟨nm, rf, rc, hx⟩ : ∃ nm rf rc, nth l k = (nm, rf, rc) := ⟨_, _, _, rfl⟩
      rw [hx] at hNM hps hc1 hc2 hA
      have HNW := Lib.hid hNM; have HL0 := Lib.hid (show nm.length = m0 from kN_lenR hNM)
      have W0 := Lib.hid hc0
      replace hc0 := kc hc0 hb.out
      replace hc1 := kc hc1 hb.out
      replace hc2 := kc hc2 hb.out
      have HA := Lib.hid (hA.on hb.out); have HNM := Lib.hid (hNM.on hb.out); have HPN := Lib.hid hps; have HXE := Lib.hid hx
      simp only at hc1 hc2
      have H0 := Lib.hid hc0; have H1 := Lib.hid hc1; have H2 := Lib.hid hc2
      clear hlen hpt hps hA hNM hx
      have HGR := Lib.hid (HG0.out.on hb.out)
      obtain ⟨q, hq⟩ : ∃ q, hpB m nm = q := ⟨_, rfl⟩
      have HQ := Lib.hid hq
      have HQN := Lib.hid (show hpB m (nth l k).1 = q by rw [HXE.out]; exact hq)
      clear hq hc0 hc1 hc2
      go_wp2_with fail
      cases q with
      | false =>
        refine rmp0 hlt (by omega) (by omega) HQ HNM HGR HPN HM (Lib.hid (hx.out.cell 0)) H0 ?_
        intro u14 u15 u16 u17 u18 u19 u20 u21 u22 u23 u24 u25 u26 u27 u28 u29 u30 u31 u32 u33 u34 u35 u36 u37 u38 u39 u40 wx hbx
        have hx2 := Lib.hid (hx.out.on hbx); have hy2 := Lib.hid (hy.out.on hbx); have hb2 := Lib.hid (hb.out.trans (hbx.mono hb.out.size))
        have HE := Lib.hid (show mpI l m (k + 1) = z from (mpI_no1 HQN.out).trans HZ.out)
        clear hbx hz1
        go_wp2
        go_roundw
        case rel => exact ⟨k + 1, by omega, by go_num, by rw [HE.out], hx2, hy2, hb2⟩
        case measure => simp [intOf]; omega
      | true =>
        by_cases h0 : z < 0
        · obtain rfl : z = -1 := by omega
          refine rmp1 hlt (by omega) (by omega) HQ HNM HGR HPN HM (Lib.hid (hx.out.cell 0)) H0 ?_
          intro u14 u15 u16 u17 u18 u19 u20 u21 u22 u23 u24 u25 u26 u27 u28 u29 u30 u31 u32 u33 u34 u35 u36 u37 u38 u39 u40 wx hbx
          have hx2 := Lib.hid (hx.out.on hbx); have hy2 := Lib.hid (hy.out.on hbx); have hb2 := Lib.hid (hb.out.trans (hbx.mono hb.out.size))
          have HE := Lib.hid (show mpI l m (k + 1) = k from mpI_yes HQN.out (Or.inl (by rw [HZ.out]; omega)))
          clear hbx hz1 h0
          go_wp2
          go_roundw
          case rel => exact ⟨k + 1, by omega, by go_num, by rw [HE.out], hx2, hy2, hb2⟩
          case measure => simp [intOf]; omega
        · obtain ⟨j, rfl⟩ : ∃ j : Nat, z = (j : Int) := ⟨z.toNat, by omega⟩
          have hj : j < n := by omega
          have tj : decide ((j : Int) < 0) = false := decide_eq_false h0
          obtain ⟨b9, off9, yj, mj, dj, e9, -, hj0, -, -, hAj⟩ := kLRt_elem HH.out (fun y hy => HEL.out y hy) (j := j) (by have := HN.out; omega)
          cases e9
          have hptj : nth l j = kRt.strip (nth L j) := by rw [← HT.out, nth_map _ (by have := HN.out; omega)]
          rw [← hptj] at hAj
          have HLJ := Lib.hid (show (curM l m k).length = mj by rw [curM_pos HZ.out]; exact kN_lenR (kRt_parts hAj))
          have J0 := Lib.hid (kc hj0 hb.out)
          clear hj0 hAj hptj h0
          obtain ⟨q2, hq2⟩ : ∃ q, decide (mj < m0) = q := ⟨_, rfl⟩
          have HQ2 := Lib.hid hq2
          refine rmp2 (j := j) hlt hj (by omega) tj (by omega) (by omega) HQ HNM HGR HPN HM (Lib.hid (hx.out.cell 0)) H0 J0 ?_
          intro u14 u15 u16 u17 u18 u19 u20 u21 u22 u23 u24 u25 u26 u27 u28 u29 u30 u31 u32 u33 u34 u35 u36 u37 u38 u39 u40 wx hbx
          have hx2 := Lib.hid (hx.out.on hbx); have hy2 := Lib.hid (hy.out.on hbx); have hb2 := Lib.hid (hb.out.trans (hbx.mono hb.out.size))
          rw [hq2]
          clear hbx hz1 hq2 tj
          cases q2 with
          | true =>
            have HE := Lib.hid (show mpI l m (k + 1) = k from mpI_yes HQN.out (Or.inr (by rw [HLJ.out, HXE.out]; have h5 := of_decide_eq_true HQ2.out; have h6 := HL0.out; simp only; omega)))
            go_wp2
            go_roundw
            case rel => exact ⟨k + 1, by omega, by go_num, by rw [HE.out], hx2, hy2, hb2⟩
            case measure => simp [intOf]; omega
          | false =>
            have HE := Lib.hid (show mpI l m (k + 1) = (j : Int) from (mpI_no2 (by rw [HZ.out]; omega) (by rw [HLJ.out, HXE.out]; have h5 := of_decide_eq_false HQ2.out; have h6 := HL0.out; simp only; omega)).trans HZ.out)
            go_wp2
            go_roundw
            case rel => exact ⟨k + 1, by omega, by go_num, by rw [HE.out], hx2, hy2, hb2⟩
            case measure => simp [intOf]; omega
    · obtain rfl : k = n := by omega
      clear hlt
      have HZL := Lib.hid (show mpI l m l.length = z by rw [HLEN.out]; exact HZ.out)
      have s0 : wr.cell? ⟨w.heap.size + 1, 0, none⟩ = some (.slice none 0 0) := hy.out.cell 0
      have t0 := hy.out.frozen 0
      by_cases h0 : z < 0
      · have HE1 := Lib.hid (show mpB l m = false by unfold mpB; rw [HZL.out]; exact decide_eq_false (by omega))
        have HE2 := Lib.hid (show mpN l m = [] by unfold mpN; rw [HZL.out, if_pos h0])
        have tz : decide (z < 0) = true := decide_eq_true h0
        have Z1 := Lib.hid (hy.out.set 0 (.slice none 0 0))
        have Z3 := Lib.hid (hb.out.setCell (p := ⟨w.heap.size + 1, 0, none⟩) (by simp) (.slice none 0 0))
        clear h0 hz1
        go_wp2_with fail
        refine bodyPost_ret (Ret.results_ct rfl _ _ (w.heap.size + 1) [.slice none 0 0] rfl aggN Z1.out.cells) rfl ?_
        refine ⟨_, by rw [HE1.out]; rfl, ?_, Z3.out⟩
        rw [HE2.out]
        exact kN_mk (Own.nil _ _ _ _) (fun g hg => by cases hg)
      · obtain ⟨j, rfl⟩ : ∃ j : Nat, z = (j : Int) := ⟨z.toNat, by omega⟩
        have HE1 := Lib.hid (show mpB l m = true by unfold mpB; rw [HZL.out]; exact decide_eq_true (by omega))
        have HE2 := Lib.hid (show mpN l m = (nth l j).1 by unfold mpN; rw [HZL.out, if_neg (by omega)]; simp)
        have tz : decide ((j : Int) < 0) = false := decide_eq_false h0
        have hj : j < k := by omega
        obtain ⟨b, off, yj, mj, dj, rfl, -, hj0, -, -, hAj⟩ := kLRt_elem HH.out (fun y hy => HEL.out y hy) (j := j) (by have := HN.out; omega)
        have hptj : nth l j = kRt.strip (nth L j) := by rw [← HT.out, nth_map _ (by have := HN.out; omega)]
        rw [← hptj] at hAj
        have hps := HP.out (nth l j) (nth_mem (by have := HLEN.out; omega))
        have HNJ := Lib.hid ((kRt_parts hAj).on hb.out); have HPJ := Lib.hid hps
        replace hj0 := kc hj0 hb.out
        clear hAj hptj h0 hz1 hps
        go_wp2_with fail
        clear hj0 s0 t0
        refine (sCpyN HNJ.out (Nat.le_trans HPJ.out (by decide))).mono ?_
        rintro e w5 ⟨U, rfl, hi5, hb5⟩
        obtain ⟨m5, za, na, ea, rfl, hs5, hd5, ho5⟩ := kN_splitP hi5
        have HY5 := Lib.hid (hy.out.on hb5); have HB5 := Lib.hid (hb.out.trans (hb5.mono hb.out.size)); have HO5 := Lib.hid (ho5.mono (B' := w.heap.size + 2) (by have := hy.out.lt; omega) (Nat.le_refl _)); have HS5 := Lib.hid hs5; have HD5 := Lib.hid hd5
        clear hi5 hs5 hd5 ho5 hb5
        have s0 : w5.cell? ⟨w.heap.size + 1, 0, none⟩ = some (.slice none 0 0) := HY5.out.cell 0
        have t0 := HY5.out.frozen 0
        have Z1 := Lib.hid (HY5.out.set 0 (.slice za na ea))
        have Z2 := Lib.hid (Kd.Own.set (g := w.heap.size + 1) (i := 0) (u := .slice za na ea) HO5.out (by omega))
        have Z3 := Lib.hid (HB5.out.setCell (p := ⟨w.heap.size + 1, 0, none⟩) (by simp) (.slice za na ea))
        go_wp2_with fail
        refine bodyPost_ret (Ret.results_ct rfl _ _ (w.heap.size + 1) [.slice za na ea] rfl aggN Z1.out.cells) rfl ?_
        refine ⟨_, by rw [HE1.out]; rfl, ?_, Z3.out⟩
        rw [HE2.out, ← HS5.out, show (Value.agg [Value.slice za na ea].toArray) = kN.val m5 by show _ = Value.agg (kN.cells m5).toArray; rw [HD5.out]]
        exact (Z2.out.mono (by omega) (by rw [World.size_setCell]; exact Nat.le_refl _)).in
set_option maxHeartbeats 8000000 in
theorem implMatchingPrefix (V U : Value) (l : List Rtt) (m : List ByteArray) (w : World) (h : kLRt.At w V l) (g : kN.At w U m) (hf : FitRt l) (hm : bulk m ≤ 1200000) :
    Calls Try.prog 33 #[V, U] w (GivesMp l m w) := by
  have hl := hf.len
  have hp := hf.each
  obtain ⟨x, n, cx, L, rfl, hn, ht, hh, hel⟩ := kLRt_at h
  have hlen : l.length = n := by rw [← ht, List.length_map]; exact hn.symm
  rw [hlen] at hl
  have hcap : n ≤ cx := by obtain ⟨x', n', cap', hv, hn', hc', -⟩ := hh.shapeN; cases hv; exact hc'
  obtain ⟨xn, nn, cn, rfl, g⟩ := kN_shapeA g
  have HG0 := Lib.hid g
  have b1 := (Below.refl w.heap.size w).alloc (Nat.le_refl _) (.cells #[.slice xn nn cn] 27)
  have b2 := b1.alloc (by simp) (.cells #[.slice none 0 0] 27)
  have b3 := b2.alloc (by simp; omega) (.cells #[.slice none 0 0] 27)
  have HX := Lib.hid (((Ret.Blk.new w #[.slice xn nn cn] 27).on ((Below.refl _ _).alloc (Nat.le_refl _) (.cells #[.slice none 0 0] 27))).on ((Below.refl _ _).alloc (Nat.le_refl _) (.cells #[.slice none 0 0] 27)))
  have HY := Lib.hid ((Ret.Blk.new' (w := (w.alloc (.cells #[.slice xn nn cn] 27))) (n := w.heap.size + 1) #[.slice none 0 0] 27 (by simp)).on ((Below.refl _ _).alloc (Nat.le_refl _) (.cells #[.slice none 0 0] 27)))
  have HV := Lib.hid (Ret.Blk.new' (w := ((w.alloc (.cells #[.slice xn nn cn] 27)).alloc (.cells #[.slice none 0 0] 27))) (n := w.heap.size + 1 + 1) #[.slice none 0 0] 27 (by simp))
  have HB := Lib.hid b3; have HM := Lib.hid hm
  have HN := Lib.hid hn; have HT := Lib.hid ht; have HH := Lib.hid hh; have HEL := Lib.hid hel; have HLEN := Lib.hid hlen; have HP := Lib.hid hp
  unfold GivesMp
  clear b1 b2 b3 g hm hf hn ht hh hel hlen hp h
  go_enter Try.func33, Try.ntmps33
  go_wp2
  go_loopw [7, 13] (fun zv iv wr => ∃ k : Nat, k ≤ n ∧ iv = .int .i64 k ∧ zv = .bool (decide (0 ≤ mpI l m k)) ∧ (∃ xl nl cl, Hid (Ret.Blk wr (w.heap.size + 1 + 1) #[.slice xl nl cl] 27) ∧ Hid (kN.At w (.agg #[.slice xl nl cl]) (curM l m k))) ∧ Hid (Ret.Blk wr w.heap.size #[.slice xn nn cn] 27) ∧ Hid (Ret.Blk wr (w.heap.size + 1) #[.slice none 0 0] 27) ∧ Hid (Below w.heap.size w wr)) (fun _ iv _ => n - (intOf iv).toNat)
  case atStart => exact ⟨0, Nat.zero_le _, rfl, rfl, ⟨none, 0, 0, HV, Lib.hid (kN_nil14 w)⟩, HX, HY, HB⟩
  case round =>
    clear HX HY HB HV
    obtain ⟨k, hk, rfl, rfl, ⟨xl, nl, cl, hv, hlg⟩, hx, hy, hb⟩ := hrel
    obtain ⟨z, hz⟩ : ∃ z, mpI l m k = z := ⟨_, rfl⟩
    have hz1 := mpI_lt l m k
    rw [hz] at hz1 ⊢
    have HZ := Lib.hid hz
    have HNL := Lib.hid (show (curM l m k).length = nl from kN_lenR hlg.out)
    obtain ⟨qf, hqf⟩ : ∃ q, decide (0 ≤ z) = q := ⟨_, rfl⟩
    have HQF := Lib.hid hqf
    rw [hqf]
    clear hz hqf
    by_cases hlt : k < n
    · have hlen := HN.out
      obtain ⟨b, off, y0, m0, d0, rfl, -, hc0, hc1, hc2, hA⟩ := kLRt_elem HH.out (fun y hy => HEL.out y hy) (j := k) (by omega)
      have hpt : nth l k = kRt.strip (nth L k) := by rw [← HT.out, nth_map _ (by omega)]
      have hps := HP.out (nth l k) (nth_mem (by have := HLEN.out; omega))
      rw [← hpt] at hA hc1 hc2
      have hNM := kRt_parts hA
      obtain ⟨nm, rf, rc, hx⟩ : ∃ nm rf rc, nth l k = (nm, rf, rc) := ⟨_, _, _, rfl⟩
      rw [hx] at hNM hps hc1 hc2 hA
      have HNW := Lib.hid hNM; have HL0 := Lib.hid (show nm.length = m0 from kN_lenR hNM)
      have W0 := Lib.hid hc0
      replace hc0 := kc hc0 hb.out
      replace hc1 := kc hc1 hb.out
      replace hc2 := kc hc2 hb.out
      have HA := Lib.hid (hA.on hb.out); have HNM := Lib.hid (hNM.on hb.out); have HPN := Lib.hid hps; have HXE := Lib.hid hx
      simp only at hc1 hc2
      have H0 := Lib.hid hc0; have H1 := Lib.hid hc1; have H2 := Lib.hid hc2
      clear hlen hpt hps hA hNM hx
      have hal := (Below.refl wr.heap.size wr).alloc (Nat.le_refl _) (.cells #[.slice y0 m0 d0, .int .i64 rf, .int .i64 rc] 53)
      have HR := Lib.hid (Ret.Blk.new wr #[.slice y0 m0 d0, .int .i64 rf, .int .i64 rc] 53)
      have HGR := Lib.hid ((HG0.out.on hb.out).on hal); have HNM2 := Lib.hid (HNM.out.on hal)
      replace hx := Lib.hid (hx.out.on hal); replace hy := Lib.hid (hy.out.on hal); replace hv := Lib.hid (hv.out.on hal); have hbw := Lib.hid hb.out.size; replace hb := Lib.hid (hb.out.trans (hal.mono hb.out.size))
      obtain ⟨q, hq⟩ : ∃ q, hpB m nm = q := ⟨_, rfl⟩
      have HQ := Lib.hid hq
      have HQN := Lib.hid (show hpB m (nth l k).1 = q by rw [HXE.out]; exact hq)
      clear hq hal
      have x0_ := hx.out.cell 0; have r0_ := HR.out.cell 0
      go_wp2_with fail
      clear hc0 hc1 hc2 x0_ r0_
      refine (iHpN q HQ.out HGR.out HNM2.out (Nat.le_trans HM.out (by decide)) (Nat.le_trans HPN.out (by decide))).mono ?_
      rintro e w1 ⟨rfl, hb1⟩
      have hx1 := Lib.hid (hx.out.on hb1); have hy1 := Lib.hid (hy.out.on hb1); have hv1 := Lib.hid (hv.out.on hb1); have HR1 := Lib.hid (HR.out.on hb1); have HB1 := Lib.hid (hb.out.trans (hb1.mono hb.out.size))
      clear hb1 hx hy hv HR hb
      cases q with
      | false =>
        have HE := Lib.hid (show mpI l m (k + 1) = z from (mpI_no1 HQN.out).trans HZ.out)
        have HC := Lib.hid (show curM l m (k + 1) = curM l m k from curM_old ((mpI_no1 HQN.out)))
        go_wp2
        go_roundw
        case rel => exact ⟨k + 1, by omega, by go_num, by rw [HE.out, HQF.out], ⟨xl, nl, cl, hv1, by rw [HC.out]; exact hlg⟩, hx1, hy1, HB1⟩
        case measure => simp [intOf]; omega
      | true =>
        have r0_ : w1.cell? ⟨wr.heap.size, 0, none⟩ = some (.slice y0 m0 d0) := HR1.out.cell 0
        have l0_ : w1.cell? ⟨w.heap.size + 1 + 1, 0, none⟩ = some (.slice xl nl cl) := hv1.out.cell 0
        have l1_ := hv1.out.frozen 0
        cases qf with
        | false =>
          have HE := Lib.hid (show mpI l m (k + 1) = k from mpI_yes HQN.out (Or.inl (by rw [HZ.out]; have h5 := of_decide_eq_false HQF.out; omega)))
          have HC := Lib.hid (show curM l m (k + 1) = nm from (curM_new HE.out).trans (by rw [HXE.out]))
          have Z1 := Lib.hid (hv1.out.set 0 (.slice y0 m0 d0)); have Z2 := Lib.hid (hx1.out.other (a := ⟨w.heap.size + 1 + 1, 0, none⟩) (by simp; omega) (.slice y0 m0 d0)); have Z3 := Lib.hid (hy1.out.other (a := ⟨w.heap.size + 1 + 1, 0, none⟩) (by simp) (.slice y0 m0 d0)); have Z4 := Lib.hid (HB1.out.setCell (p := ⟨w.heap.size + 1 + 1, 0, none⟩) (by simp; omega) (.slice y0 m0 d0))
          have hkz : decide (0 ≤ (k : Int)) = true := decide_eq_true (by omega)
          clear hz1
          go_wp2
          go_roundw
          case rel => exact ⟨k + 1, by omega, by go_num, by rw [HE.out, hkz], ⟨y0, m0, d0, Z1, by rw [HC.out]; exact HNW⟩, Z2, Z3, Z4⟩
          case measure => simp [intOf]; omega
        | true =>
          by_cases hln : nl < m0
          · have tl : decide (nl < m0) = true := decide_eq_true hln
            have HE := Lib.hid (show mpI l m (k + 1) = k from mpI_yes HQN.out (Or.inr (by rw [HNL.out, HXE.out]; have h6 := HL0.out; simp only; omega)))
            have HC := Lib.hid (show curM l m (k + 1) = nm from (curM_new HE.out).trans (by rw [HXE.out]))
            have Z1 := Lib.hid (hv1.out.set 0 (.slice y0 m0 d0)); have Z2 := Lib.hid (hx1.out.other (a := ⟨w.heap.size + 1 + 1, 0, none⟩) (by simp; omega) (.slice y0 m0 d0)); have Z3 := Lib.hid (hy1.out.other (a := ⟨w.heap.size + 1 + 1, 0, none⟩) (by simp) (.slice y0 m0 d0)); have Z4 := Lib.hid (HB1.out.setCell (p := ⟨w.heap.size + 1 + 1, 0, none⟩) (by simp; omega) (.slice y0 m0 d0))
            have hkz : decide (0 ≤ (k : Int)) = true := decide_eq_true (by omega)
            clear hz1 hln
            go_wp2
            go_roundw
            case rel => exact ⟨k + 1, by omega, by go_num, by rw [HE.out, hkz], ⟨y0, m0, d0, Z1, by rw [HC.out]; exact HNW⟩, Z2, Z3, Z4⟩
            case measure => simp [intOf]; omega
          · have tl : decide (nl < m0) = false := decide_eq_false hln
            have hno := mpI_no2 (l := l) (m := m) (k := k) (by rw [HZ.out]; exact of_decide_eq_true HQF.out) (by rw [HNL.out, HXE.out]; have h6 := HL0.out; simp only; omega)
            have HE := Lib.hid (show mpI l m (k + 1) = z from hno.trans HZ.out)
            have HC := Lib.hid (show curM l m (k + 1) = curM l m k from curM_old hno)
            clear hno hln hz1
            go_wp2
            go_roundw
            case rel => exact ⟨k + 1, by omega, by go_num, by rw [HE.out, HQF.out], ⟨xl, nl, cl, hv1, by rw [HC.out]; exact hlg⟩, hx1, hy1, HB1⟩
            case measure => simp [intOf]; omega
    · obtain rfl : k = n := by omega
      clear hlt
      have HE1 := Lib.hid (show mpB l m = qf by unfold mpB; rw [HLEN.out, HZ.out]; exact HQF.out)
      have HE2 := Lib.hid (show mpN l m = curM l m k by rw [← curM_all, HLEN.out])
      have HLG := Lib.hid (hlg.out.on hb.out)
      have HPL := Lib.hid (show bulk (curM l m k) ≤ 1200000 from by
        unfold curM
        split
        · simp [bulk, bulkTo]
        · exact HP.out _ (nth_mem (by rw [HZ.out]; have := HLEN.out; rename_i h9; rw [HZ.out] at h9; omega)))
      have l0_ := hv.out.cell 0
      go_wp2_with fail
      clear l0_
      refine (iCpyN HLG.out (Nat.le_trans HPL.out (by decide))).mono ?_
      rintro e w5 ⟨U, rfl, hi5, hb5⟩
      obtain ⟨m5, za, na, ea, rfl, hs5, hd5, ho5⟩ := kN_splitP hi5
      have HY5 := Lib.hid (hy.out.on hb5); have HB5 := Lib.hid (hb.out.trans (hb5.mono hb.out.size)); have HO5 := Lib.hid (ho5.mono (B' := w.heap.size + 2) (by have := hv.out.lt; omega) (Nat.le_refl _)); have HS5 := Lib.hid hs5; have HD5 := Lib.hid hd5
      clear hi5 hs5 hd5 ho5 hb5 hz1
      have s0 : w5.cell? ⟨w.heap.size + 1, 0, none⟩ = some (.slice none 0 0) := HY5.out.cell 0
      have t0 := HY5.out.frozen 0
      have Z1 := Lib.hid (HY5.out.set 0 (.slice za na ea))
      have Z2 := Lib.hid (Kd.Own.set (g := w.heap.size + 1) (i := 0) (u := .slice za na ea) HO5.out (by omega))
      have Z3 := Lib.hid (HB5.out.setCell (p := ⟨w.heap.size + 1, 0, none⟩) (by simp) (.slice za na ea))
      go_wp2_with fail
      refine bodyPost_ret (Ret.results_ct rfl _ _ (w.heap.size + 1) [.slice za na ea] rfl aggN Z1.out.cells) rfl ?_
      refine ⟨_, by rw [HE1.out]; rfl, ?_, Z3.out⟩
      rw [HE2.out, ← HS5.out, show (Value.agg [Value.slice za na ea].toArray) = kN.val m5 by show _ = Value.agg (kN.cells m5).toArray; rw [HD5.out]]
      exact (Z2.out.mono (by omega) (by rw [World.size_setCell]; exact Nat.le_refl _)).in
end Go.Proofs.Ytdaahcaafdleaaa.Row
/- A name laid in a variable that was made before it: all that was there is kept. No conditions. -/
namespace Go.Proofs.Ytdaahcaafdleaaa.Row
open Go.ChangeShapes Go.WideShapes Go.ChangeAt Go.RowKit Go.Instr
set_option linter.unusedVariables false
set_option maxRecDepth 100000
theorem own_setT14 {α M : Type} {k : Kd α M} {B E g i : Nat} {u : Value} {w : World} {m : M} {cs : Array Value} {t : TypeId} (hN : k.NoRow t) (h : k.Own B E w m) (hx : Ret.Blk w g cs t) : k.Own B E (w.setCell ⟨g, i, none⟩ u) m :=
  h.keep fun q hq => Go.RowKit.Below.heap_setCell w ⟨g, i, none⟩ u q (fun e => by
    have e1 : q = g := e
    subst e1
    exact hN B w m h.1 q hq cs hx)
theorem one_facts14 {B B' : Nat} {w wx : World} {g : Nat} {V : Value} {x : List ByteArray} {a0 a : Value} (hg : B ≤ g) (hB : B ≤ B') (hx : Ret.Blk wx g #[a0] 27) (hin : kN.In B' wx.heap.size wx V x) (hb : Below B w wx) :
    Below B w (wx.setCell ⟨g, 0, none⟩ a) ∧ kN.In B (wx.setCell ⟨g, 0, none⟩ a).heap.size (wx.setCell ⟨g, 0, none⟩ a) V x ∧ Ret.Blk (wx.setCell ⟨g, 0, none⟩ a) g #[a] 27 := by
  obtain ⟨m, rfl, rfl, ho⟩ := (hin.mono hB (Nat.le_refl _)).split
  refine ⟨hb.setCell (p := ⟨g, 0, none⟩) hg a, ?_, hx.set 0 a⟩
  rw [World.size_setCell]
  exact (own_setT14 (i := 0) (u := a) (noRow_kNr _ (by decide)) ho hx).in
end Go.Proofs.Ytdaahcaafdleaaa.Row
