/- For every code the law FnDigits returns true and the argument stays: the program's integer functions answer as the reference model's at the drawn numbers and texts, and parse what they format. Condition: the library's tables and errors start as the program's text lays them, which the card ties. -/
import Derived.Test.YtgphkacciojmfaaDoorCards
import Derived.Test.YtgphkacciojmfaaDoorTie
import Derived.WalkKit
import Derived.ProofKit
import Derived.OpenShut
import Derived.SizedLaws
import Derived.LaidMore
import Derived.Stop.Joined
import Derived.Stop.LaidErr
import Derived.Lib.LaidTab
import Derived.SevenTiedAt
import Derived.Test.YtgphkacciojmfaaDoorFrame
import Derived.Test.YtgphkacciojmfaaDoorText
import Derived.Test.YtgphkacciojmfaaDoorParse
import Derived.Test.YtgphkacciojmfaaDoorDraw
import Derived.Test.YtgphkacciojmfaaDoorDrawNum
namespace Go.Proofs.YtgphkacciojmfaaDoor.fnDigits
open Go.ChangeShapes Go.WideShapes Go.ChangeAt Go.RowKit
open Go.ChangeMaps (open_string shut_string)
set_option linter.unusedVariables false

theorem own : ownKnob Tryd.prog.godebug = none := by kernel_rfl
theorem laidOut : laidOutB Tryd.prog = true := by kernel_rfl

set_option maxRecDepth 100000 in
set_option maxHeartbeats 4000000 in
theorem walk (w : World) (y0 : Value) (l0 : List UInt8) (q0 : Frame.Bytes w y0 l0) (ht : Text.Tab w) (he : Text.Errs w) :
    Calls Tryd.prog 3 #[y0] w fun e w' => e = .returned (.bool true) ∧ Below w.heap.size w w' := by
  by_cases hlen : (l0.length : Int) ≤ 1048576
  · obtain ⟨x, cap, rfl, -⟩ := Draw.bytes_at q0
    have hl : decide ((1048576 : Int) < (l0.length : Int)) = false := by simpa using hlen
    have Q0 := Lib.hid q0; have HT := Lib.hid ht; have HE := Lib.hid he
    clear q0 ht he hlen
    obtain ⟨n0, hn0⟩ : ∃ n0, n0 = l0.length := ⟨_, rfl⟩
    rw [← hn0] at hl Q0 ⊢
    clear hn0
    go_enter Tryd.func3, Tryd.ntmps3
    go_wp2_with fail
    refine (Draw.big_no x n0 cap w hl).mono ?_
    rintro e w' ⟨rfl, rfl⟩
    go_wp2_with fail
    refine (Draw.drawFormatInt w _ l0 Q0.out).mono ?_
    rintro e w1 ⟨y, rfl, ⟨n, rfl, wn⟩, hb⟩
    have WN := Lib.hid wn; have B1 := Lib.hid hb; clear wn hb
    go_wp2_with fail
    refine (Draw.drawParseInt w1 _ l0 (Q0.out.on B1.out)).mono ?_
    rintro e w2 ⟨y, rfl, ⟨s, rfl, hs⟩, hb⟩
    have WS := Lib.hid hs; have B2 := Lib.hid (B1.out.trans (hb.mono B1.out.size)); clear hs hb
    go_wp2_with fail
    refine (Text.implFormat n w2 WN.out (HT.out.on B2.out)).mono ?_
    rintro e w3 ⟨rfl, hb⟩
    have B3 := Lib.hid (B2.out.trans (hb.mono B2.out.size)); clear hb
    go_wp2_with fail
    refine (Text.implParse _ w3 (by have := Draw.small_itoa WN.out; omega) (HT.out.on B3.out) (HE.out.on B3.out)).mono ?_
    rintro e w4 ⟨rfl, hb⟩
    have B4 := Lib.hid (B3.out.trans (hb.mono B3.out.size)); clear hb
    go_wp2_with fail
    refine (Text.implParse s w4 (by have := WS.out; omega) (HT.out.on B4.out) (HE.out.on B4.out)).mono ?_
    rintro e w5 ⟨rfl, hb⟩
    have B5 := Lib.hid (B4.out.trans (hb.mono B4.out.size)); clear hb
    go_wp2_with fail
    refine (Text.specParse s w5).mono ?_
    rintro e w6 ⟨rfl, hb⟩
    have B6 := Lib.hid (B5.out.trans (hb.mono B5.out.size)); clear hb
    go_wp2_with fail
    refine (Draw.drawCeilDiv w6 _ l0 (Q0.out.on B6.out)).mono ?_
    rintro e w7 ⟨a, b, rfl, wa, wb, hb⟩
    have B7 := Lib.hid (B6.out.trans (hb.mono B6.out.size)); clear hb wa wb
    go_wp2_with fail
    refine (Draw.drawMod w7 _ l0 (Q0.out.on B7.out)).mono ?_
    rintro e w8 ⟨p, q, rfl, wp, q1, q2, hb⟩
    have B8 := Lib.hid (B7.out.trans (hb.mono B7.out.size)); have WP := Lib.hid wp; clear hb wp
    go_wp2_with fail
    refine (Draw.drawMin w8 _ l0 (Q0.out.on B8.out)).mono ?_
    rintro e w9 ⟨c, d, rfl, wc, wd, hb⟩
    have B9 := Lib.hid (B8.out.trans (hb.mono B8.out.size)); clear hb wc wd
    go_wp2_with fail
    refine (Num.implMod p q w9).mono ?_
    rintro e w10 ⟨rfl, rfl⟩
    go_wp2_with fail
    refine (Text.implFormat n w9 WN.out (HT.out.on B9.out)).mono ?_
    rintro e w10 ⟨rfl, hb⟩
    have B10 := Lib.hid (B9.out.trans (hb.mono B9.out.size)); clear hb
    go_wp2_with fail
    refine (Text.specFormat n w10 WN.out).mono ?_
    rintro e w11 ⟨rfl, hb⟩
    have B11 := Lib.hid (B10.out.trans (hb.mono B10.out.size)); clear hb
    go_wp2_with fail
    refine (Num.implCeilDiv a b _).mono ?_
    rintro e w12 ⟨rfl, rfl⟩
    go_wp2_with fail
    refine (Num.specCeilDiv a b _).mono ?_
    rintro e w12 ⟨rfl, rfl⟩
    go_wp2_with fail
    refine (Num.specMod p q _).mono ?_
    rintro e w12 ⟨rfl, rfl⟩
    go_wp2_with fail
    refine (Num.implMin c d _).mono ?_
    rintro e w12 ⟨rfl, hb⟩
    have B12 := Lib.hid (B11.out.trans (hb.mono B11.out.size)); clear hb
    go_wp2_with fail
    refine (Num.specMin c d _).mono ?_
    rintro e w13 ⟨rfl, rfl⟩
    go_wp2_with fail
    refine (Num.implMax c d _).mono ?_
    rintro e w13 ⟨rfl, hb⟩
    have B13 := Lib.hid (B12.out.trans (hb.mono B12.out.size)); clear hb
    go_wp2_with fail
    refine (Num.specMax c d _).mono ?_
    rintro e w14 ⟨rfl, rfl⟩
    go_wp2_with fail
    refine (Num.implMin c d _).mono ?_
    rintro e w14 ⟨rfl, hb⟩
    have B14 := Lib.hid (B13.out.trans (hb.mono B13.out.size)); clear hb
    go_wp2_with fail
    refine (Num.implMax c d _).mono ?_
    rintro e w15 ⟨rfl, hb⟩
    have B15 := Lib.hid (B14.out.trans (hb.mono B14.out.size)); clear hb
    go_wp2_with fail
    refine (Num.implIn_true (Num.minI_le c d) (Num.le_maxI c d) _).mono ?_
    rintro e w16 ⟨rfl, rfl⟩
    by_cases hq : 1 ≤ q
    · have m0 := Num.modI_nonneg p hq
      have m1 := Num.modI_lt p hq
      have q3 : q ≤ 1000000000000 := by omega
      have hq0 : (q == 0) = false := by simp; omega
      have m2 : decide (Num.modI p q < 0) = false := by simp; omega
      have m3 : decide (q ≤ Num.modI p q) = false := by simp; omega
      have dq : decide (1 ≤ q) = true := by simpa using hq
      have dq2 : decide (q ≤ 1000000000000) = true := by simpa using q3
      by_cases hneg : p.tmod q < 0
      · have t1 : (p.tmod q != Num.modI p q) = true := by simp; omega
        have t2 : (p.tmod q != Num.modI p q - q) = false := by rw [Num.modI_neg hq q3 hneg]; simp
        clear hneg
        by_cases hn : 0 ≤ n ∧ n ≤ 1000000000000
        · have e1 := Draw.parse_in hn
          have e2 := Draw.parse_in2 hn
          obtain ⟨n1, n2⟩ := hn
          have d1 : decide (0 ≤ n) = true := by simpa using n1
          have d2 : decide (n ≤ 1000000000000) = true := by simpa using n2
          by_cases hS : (Text.parseV s.data.toList).2 = true
          · have hf := fun w' (hb : Below w.heap.size w w') => Draw.format_back s w' hS (HT.out.on hb)
            have SB := Lib.hid hf; clear hf
            go_wp2_with fail
            refine (SB.out _ B15.out).mono ?_
            rintro e w16 ⟨rfl, hb⟩
            have B16 := Lib.hid (B15.out.trans (hb.mono B15.out.size)); clear hb
            go_wp2_with fail
            go_ret
            exact ⟨rfl, B16.out⟩
          · have hS : (Text.parseV s.data.toList).2 = false := by simpa using hS
            go_wp2_with fail
            go_ret
            exact ⟨rfl, B15.out⟩
        · have e1 := Draw.parse_out hn
          by_cases n1 : 0 ≤ n
          · have d1 : decide (0 ≤ n) = true := by simpa using n1
            have d2 : decide (n ≤ 1000000000000) = false := by simp; omega
            clear hn
            by_cases hS : (Text.parseV s.data.toList).2 = true
            · have hf := fun w' (hb : Below w.heap.size w w') => Draw.format_back s w' hS (HT.out.on hb)
              have SB := Lib.hid hf; clear hf
              go_wp2_with fail
              refine (SB.out _ B15.out).mono ?_
              rintro e w16 ⟨rfl, hb⟩
              have B16 := Lib.hid (B15.out.trans (hb.mono B15.out.size)); clear hb
              go_wp2_with fail
              go_ret
              exact ⟨rfl, B16.out⟩
            · have hS : (Text.parseV s.data.toList).2 = false := by simpa using hS
              go_wp2_with fail
              go_ret
              exact ⟨rfl, B15.out⟩
          · have d1 : decide (0 ≤ n) = false := by simpa using n1
            clear hn
            by_cases hS : (Text.parseV s.data.toList).2 = true
            · have hf := fun w' (hb : Below w.heap.size w w') => Draw.format_back s w' hS (HT.out.on hb)
              have SB := Lib.hid hf; clear hf
              go_wp2_with fail
              refine (SB.out _ B15.out).mono ?_
              rintro e w16 ⟨rfl, hb⟩
              have B16 := Lib.hid (B15.out.trans (hb.mono B15.out.size)); clear hb
              go_wp2_with fail
              go_ret
              exact ⟨rfl, B16.out⟩
            · have hS : (Text.parseV s.data.toList).2 = false := by simpa using hS
              go_wp2_with fail
              go_ret
              exact ⟨rfl, B15.out⟩
      · have t1 : (p.tmod q != Num.modI p q) = false := by rw [Num.modI_pos hq q3 hneg]; simp
        clear hneg
        by_cases hn : 0 ≤ n ∧ n ≤ 1000000000000
        · have e1 := Draw.parse_in hn
          have e2 := Draw.parse_in2 hn
          obtain ⟨n1, n2⟩ := hn
          have d1 : decide (0 ≤ n) = true := by simpa using n1
          have d2 : decide (n ≤ 1000000000000) = true := by simpa using n2
          by_cases hS : (Text.parseV s.data.toList).2 = true
          · have hf := fun w' (hb : Below w.heap.size w w') => Draw.format_back s w' hS (HT.out.on hb)
            have SB := Lib.hid hf; clear hf
            go_wp2_with fail
            refine (SB.out _ B15.out).mono ?_
            rintro e w16 ⟨rfl, hb⟩
            have B16 := Lib.hid (B15.out.trans (hb.mono B15.out.size)); clear hb
            go_wp2_with fail
            go_ret
            exact ⟨rfl, B16.out⟩
          · have hS : (Text.parseV s.data.toList).2 = false := by simpa using hS
            go_wp2_with fail
            go_ret
            exact ⟨rfl, B15.out⟩
        · have e1 := Draw.parse_out hn
          by_cases n1 : 0 ≤ n
          · have d1 : decide (0 ≤ n) = true := by simpa using n1
            have d2 : decide (n ≤ 1000000000000) = false := by simp; omega
            clear hn
            by_cases hS : (Text.parseV s.data.toList).2 = true
            · have hf := fun w' (hb : Below w.heap.size w w') => Draw.format_back s w' hS (HT.out.on hb)
              have SB := Lib.hid hf; clear hf
              go_wp2_with fail
              refine (SB.out _ B15.out).mono ?_
              rintro e w16 ⟨rfl, hb⟩
              have B16 := Lib.hid (B15.out.trans (hb.mono B15.out.size)); clear hb
              go_wp2_with fail
              go_ret
              exact ⟨rfl, B16.out⟩
            · have hS : (Text.parseV s.data.toList).2 = false := by simpa using hS
              go_wp2_with fail
              go_ret
              exact ⟨rfl, B15.out⟩
          · have d1 : decide (0 ≤ n) = false := by simpa using n1
            clear hn
            by_cases hS : (Text.parseV s.data.toList).2 = true
            · have hf := fun w' (hb : Below w.heap.size w w') => Draw.format_back s w' hS (HT.out.on hb)
              have SB := Lib.hid hf; clear hf
              go_wp2_with fail
              refine (SB.out _ B15.out).mono ?_
              rintro e w16 ⟨rfl, hb⟩
              have B16 := Lib.hid (B15.out.trans (hb.mono B15.out.size)); clear hb
              go_wp2_with fail
              go_ret
              exact ⟨rfl, B16.out⟩
            · have hS : (Text.parseV s.data.toList).2 = false := by simpa using hS
              go_wp2_with fail
              go_ret
              exact ⟨rfl, B15.out⟩
    · have dq : decide (1 ≤ q) = false := by simpa using hq
      clear q1 q2
      by_cases hn : 0 ≤ n ∧ n ≤ 1000000000000
      · have e1 := Draw.parse_in hn
        have e2 := Draw.parse_in2 hn
        obtain ⟨n1, n2⟩ := hn
        have d1 : decide (0 ≤ n) = true := by simpa using n1
        have d2 : decide (n ≤ 1000000000000) = true := by simpa using n2
        by_cases hS : (Text.parseV s.data.toList).2 = true
        · have hf := fun w' (hb : Below w.heap.size w w') => Draw.format_back s w' hS (HT.out.on hb)
          have SB := Lib.hid hf; clear hf
          go_wp2_with fail
          refine (SB.out _ B15.out).mono ?_
          rintro e w16 ⟨rfl, hb⟩
          have B16 := Lib.hid (B15.out.trans (hb.mono B15.out.size)); clear hb
          go_wp2_with fail
          go_ret
          exact ⟨rfl, B16.out⟩
        · have hS : (Text.parseV s.data.toList).2 = false := by simpa using hS
          go_wp2_with fail
          go_ret
          exact ⟨rfl, B15.out⟩
      · have e1 := Draw.parse_out hn
        by_cases n1 : 0 ≤ n
        · have d1 : decide (0 ≤ n) = true := by simpa using n1
          have d2 : decide (n ≤ 1000000000000) = false := by simp; omega
          clear hn
          by_cases hS : (Text.parseV s.data.toList).2 = true
          · have hf := fun w' (hb : Below w.heap.size w w') => Draw.format_back s w' hS (HT.out.on hb)
            have SB := Lib.hid hf; clear hf
            go_wp2_with fail
            refine (SB.out _ B15.out).mono ?_
            rintro e w16 ⟨rfl, hb⟩
            have B16 := Lib.hid (B15.out.trans (hb.mono B15.out.size)); clear hb
            go_wp2_with fail
            go_ret
            exact ⟨rfl, B16.out⟩
          · have hS : (Text.parseV s.data.toList).2 = false := by simpa using hS
            go_wp2_with fail
            go_ret
            exact ⟨rfl, B15.out⟩
        · have d1 : decide (0 ≤ n) = false := by simpa using n1
          clear hn
          by_cases hS : (Text.parseV s.data.toList).2 = true
          · have hf := fun w' (hb : Below w.heap.size w w') => Draw.format_back s w' hS (HT.out.on hb)
            have SB := Lib.hid hf; clear hf
            go_wp2_with fail
            refine (SB.out _ B15.out).mono ?_
            rintro e w16 ⟨rfl, hb⟩
            have B16 := Lib.hid (B15.out.trans (hb.mono B15.out.size)); clear hb
            go_wp2_with fail
            go_ret
            exact ⟨rfl, B16.out⟩
          · have hS : (Text.parseV s.data.toList).2 = false := by simpa using hS
            go_wp2_with fail
            go_ret
            exact ⟨rfl, B15.out⟩
  · obtain ⟨x, cap, rfl, -⟩ := Draw.bytes_at q0
    have hl : decide ((1048576 : Int) < (l0.length : Int)) = true := by simpa using hlen
    clear hlen q0 ht he
    obtain ⟨n0, hn0⟩ : ∃ n0, n0 = l0.length := ⟨_, rfl⟩
    rw [← hn0] at hl ⊢
    clear hn0
    go_enter Tryd.func3, Tryd.ntmps3
    go_wp2_with fail
    refine (Draw.big_yes x n0 cap w hl).mono ?_
    rintro e w' ⟨rfl, rfl⟩
    go_wp2_with fail
    go_ret
    exact ⟨rfl, Below.refl _ _⟩

/-- The heap that the initialisers' own run leaves meets the list. -/
theorem door_met (os : Os) (args : Array Value) : laidMetH Tryd.prog Rows.fnDigitsRow.laid ((World.doorLaid Tryd.prog 62 os).forCall (fun _ _ => 0) ⟨#[], args, []⟩).memory :=
  laidMetH_of_parts3 (fuel := 8) (laidMet_of_run' 8 (by kernel_rfl) (by kernel_rfl)) (by kernel_rfl) (by kernel_rfl)

theorem powData : (Rows.laid_internal_strconv_uint64pow10 : DataW Unit) = Lib.tabData .u64 Lib.pow10Tab := by kernel_rfl
theorem of_laid {W : World} (h : laidMetH Tryd.prog Rows.fnDigitsRow.laid W) : Text.Tab W := by
  rw [MakeChecks.laidMetH_plain _ _ _ (by kernel_rfl)] at h
  have h2 : laidMet Tryd.prog (("internal/strconv.uint64pow10", Rows.laid_internal_strconv_uint64pow10) :: _) W := h.tail.tail
  rw [powData] at h2
  exact Lib.tabIs_of_head (g := 2) (by kernel_rfl) (by kernel_rfl) Tryd.underlying79 Tryd.underlying60 (by kernel_rfl) (by kernel_rfl) h2

theorem star : "*" ++ "errors.errorString" = "*errors.errorString" := by decide
theorem rowErr (u : TypeId) (h : Tryd.prog.typeName? 3 u = some "*errors.errorString") : u = 74 :=
  typeName_ptr_named (nm := "errors.errorString") (by rw [star]; kernel_rfl) (by kernel_rfl) (by decide) u (by rw [star]; exact h)

theorem errs_of_laid {W : World} (h : laidMetH Tryd.prog Rows.fnDigitsRow.laid W) : Text.Errs W := by
  rw [MakeChecks.laidMetH_plain _ _ _ (by kernel_rfl)] at h
  obtain ⟨a0, s0, h0, -, -, -⟩ := laid_sentinel (g := 0) (ti := 42) (h.tail.tail.tail.tail) (by kernel_rfl) (by kernel_rfl) Tryd.underlying42 rowErr Tryd.underlying74 Tryd.underlying76 rfl rfl Tryd.underlying9 (by kernel_rfl) (by kernel_rfl)
  obtain ⟨a1, s1, h1, -, -, -⟩ := laid_sentinel (g := 1) (ti := 42) (h.tail.tail.tail) (by kernel_rfl) (by kernel_rfl) Tryd.underlying42 rowErr Tryd.underlying74 Tryd.underlying76 rfl rfl Tryd.underlying9 (by kernel_rfl) (by kernel_rfl)
  exact ⟨⟨_, _, h0⟩, ⟨_, _, h1⟩⟩

set_option maxRecDepth 100000 in
theorem lifted (os : Os) (started : os.Started) (H : Type) (enc : TypeId × Value → H) :
    ReturnsInHanded {} Tryd.checked os 3 .any (fun w args => (Rows.fnDigitsSpec.pre enc Tryd.prog Tryd.f3 [] false w args ∧ laidMetH Tryd.prog Rows.fnDigitsRow.laid w) ∧ sizedMet enc Tryd.prog Tryd.f3 (OpenSpec.ofChange Rows.fnDigitsSpec) false w args)
      (Rows.fnDigitsSpec.post enc Tryd.prog Tryd.f3 false true false false) := by
  refine returnsInHanded_of_change_and (C := Tryd.checked) (X := fun w _ => laidMetH Tryd.prog Rows.fnDigitsRow.laid w) (fun _ _ _ hh h => h.of_heap hh) own started (by kernel_rfl) Tryd.func3
    (ChangeSpec.witness_shaped (enc := enc) (C := Tryd.checked) (os := os) (X := fun w _ => laidMetH Tryd.prog Rows.fnDigitsRow.laid w) false (World.doorLaid Tryd.prog 62 os) #[.slice none 0 0] 8 rfl (World.shaped_of_RefB (by kernel_rfl) (by kernel_rfl)) (by kernel_rfl) (by kernel_rfl) (by kernel_rfl) (door_met os _)) ?_
  intro W base args ds gs before hval0 hW _ hsz0 hL _
  have hval : ∀ (j : Nat) t v, Tryd.f3.params[j]? = some t → args[j]? = some v → Value.okWide Tryd.prog W .any base t v := hval0
  have hsz : (DataW.weightsEach Tryd.prog (Tryd.f3.params.toList ++ Rows.fnDigitsSpec.plain.varTypes Tryd.prog) (ds ++ gs)).all (· ≤ reachBytes) = true := hsz0
  clear hsz0
  have hW' := hW
  obtain ⟨p, q, hA0, hV, rfl, hfz, hnd⟩ := hW
  have hA : DataW.TrodAll enc Tryd.prog W 0 (fun _ => true) true Tryd.f3.params.toList args.toList ds p := hA0
  rw [Tryd.params3] at hA hval hsz
  obtain ⟨v0, vs0, d0, ds0, p0, q0, hargs, rfl, rfl, h0, r0⟩ := trodAll_cons hA
  obtain ⟨rfl, rfl, rfl⟩ := trodAll_nil r0
  obtain rfl : args = #[v0] := by cases args; simp_all
  obtain ⟨rfl, rfl⟩ := trodVars_none hV
  obtain ⟨l0, q0⟩ := Frame.open_bytes (j := 0) Tryd.underlying22 Tryd.underlying5 (by kernel_rfl) (by kernel_rfl) (hval 0 22 v0 rfl rfl) h0 hsz rfl rfl
  clear hA0 hval0
  refine (walk W _ _ q0 (of_laid hL) (errs_of_laid hL)).mono fun e W' ⟨he, hb⟩ => ?_
  subst he
  exact ⟨_, rfl, Frame.law_post laidOut (by kernel_rfl) rfl Tryd.underlying4 rfl rfl hW' hb⟩

theorem said : Rows.FnDigitsSaid :=
  OpenClaim.holds_of_wide 3 Tryd.f3 rfl rfl rfl rfl rfl rfl rfl ⟨rfl, rfl, rfl, rfl, rfl⟩ rfl rfl rfl rfl rfl (by kernel_rfl) Tryd.func3 (by kernel_rfl)
    (of_decide_eq_true (by kernel_rfl)) (by unfold Func.isWrapper; first | (rw [if_pos (by decide +kernel)]; kernel_rfl) | (rw [if_neg (by decide +kernel)]; exact ⟨rfl, rfl⟩))
    (fun os started H enc _ => lifted os started H enc)

theorem plain (f : FuncId) (fn : Func) (hf : Tryd.pinned.checked.prog.funcNamed "loop.example/g00507/laws.FnDigits" = some f) (hfn : Tryd.pinned.checked.prog.funcs[f]? = some fn) :
    true = Tryd.pinned.checked.prog.looks [] ∧ ∀ (j : Nat) t, fn.params[j]? = some t → Tryd.pinned.checked.prog.wantsStandIn t = false := by
  obtain rfl : f = 3 := Option.some.inj ((show Tryd.prog.funcNamed "loop.example/g00507/laws.FnDigits" = some 3 by kernel_rfl).symm.trans hf) |>.symm
  obtain rfl : fn = Tryd.f3 := (Option.some.inj (Tryd.func3.symm.trans hfn)).symm
  refine ⟨by kernel_rfl, fun j t ht => ?_⟩
  rw [Tryd.params3] at ht
  have hm : t ∈ [22] := by simpa using Array.mem_of_getElem? ht
  have hall : ([22].all fun u => !Tryd.prog.wantsStandIn u) = true := by kernel_rfl
  exact (show Tryd.prog.wantsStandIn t = false by simpa using List.all_eq_true.1 hall t hm)

/-- THE CARD. -/
theorem card : Rows.FnDigitsCardSaid :=
  Claim7.holds_tied_plain_at .later [] _ _ _ _ said (fun _ h => by cases h) (by kernel_rfl) (fun _ h => by cases h) fnDigits_row_tie rfl ⟨rfl, rfl⟩ (by kernel_rfl) rfl plain (by kernel_rfl)
#print axioms card
end Go.Proofs.YtgphkacciojmfaaDoor.fnDigits
