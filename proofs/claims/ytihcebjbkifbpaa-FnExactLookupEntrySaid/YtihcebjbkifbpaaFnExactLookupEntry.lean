/- LookupEntry answers as its model for all tables and names, and writes into no argument. No conditions. -/
import Derived.Test.YtihcebjbkifbpaaRows
import Derived.WalkKit
import Derived.ProofKit
import Derived.OpenShut
import Derived.SizedLaws
import Derived.Test.YtihcebjbkifbpaaFrame
import Derived.Test.YtihcebjbkifbpaaTabFind
import Derived.Test.YtihcebjbkifbpaaTabOpen
namespace Go.Proofs.Ytihcebjbkifbpaa.fnExactLookupEntry
open Go.ChangeShapes Go.WideShapes Go.ChangeAt Go.RowKit
open Go.ChangeMaps (open_string shut_string)
set_option linter.unusedVariables false

theorem own : ownKnob Try.prog.godebug = none := by kernel_rfl
theorem laidOut : laidOutB Try.prog = true := by kernel_rfl

set_option maxRecDepth 100000 in
set_option maxHeartbeats 4000000 in
theorem walk (w : World) (y0 : Value) (l0 : List (List ByteArray × Int)) (q0 : Row.TabHolds w y0 l0) (n0 : ∀ t ∈ l0, t.1.length ≤ 9223372036854775807 ∧ ∀ x ∈ t.1, x.size ≤ maxLen) (m0 : l0.length ≤ 9223372036854775807) (y1 : Value) (l1 : List ByteArray) (q1 : Row.Holds Value.string w y1 l1) (n1 : ∀ x ∈ l1, x.size ≤ maxLen) (m1 : l1.length ≤ 9223372036854775807) :
    Calls Try.prog 7 #[y0, .agg #[y1]] w fun e w' => e = .returned (.bool true) ∧ Below w.heap.size w w' := by
  obtain ⟨x0, k0, c0, rfl, e0, -, q0⟩ := q0.shapeN; clear e0
  obtain ⟨x1, k1, c1, rfl, e1, -, q1⟩ := q1.shapeN; clear e1
  have Q0 := Lib.hid q0; have N0 := Lib.hid n0; clear q0 n0
  have Q1 := Lib.hid q1; have N1 := Lib.hid n1; clear q1 n1
  have hal := (Below.refl w.heap.size w).alloc (Nat.le_refl _) (.cells #[.slice x1 k1 c1] 49)
  have BB := Lib.hid hal
  have C_aN := Lib.hid (Ret.Box.new' (w := w) (.slice x1 k1 c1) 49 (n := w.heap.size) (by first | rfl | simp)); clear hal
  have S1 := Lib.hid (show (w.alloc (.cells #[.slice x1 k1 c1] 49)).heap.size = w.heap.size + 1 from World.size_alloc _ _)
  go_enter Try.func7, Try.ntmps7
  have c_aN := C_aN.out.cell
  go_wp2_with fail
  clear c_aN
  refine (Row.szTableEntryS _ l0 _ (1048576) (Q0.out.on BB.out) m0 N0.out (by omega) (by omega)).mono ?_
  rintro e w1 ⟨rfl, hb⟩
  replace C_aN := Lib.hid (C_aN.out.on hb)
  replace BB := Lib.hid (BB.out.trans (hb.mono BB.out.size))
  have S2 := Lib.hid (show (w.alloc (.cells #[.slice x1 k1 c1] 49)).heap.size ≤ w1.heap.size from (by have h := hb.size; exact h))
  clear hb
  by_cases t0 : (Row.bulkT l0 : Int) ≤ 1048576
  · -- in
    rw [Row.szLT_fit t0]
    have b0 : Row.bulkT l0 ≤ 1048576 := by omega
    have d0 : l0.length ≤ 1048576 := Row.bigLenT b0
    have F0_0 := Row.smT_bulk b0
    have F0_1 := Nat.le_trans (Row.adv_bulk _) b0
    have g0 : ¬ 1048576 - (Row.bulkT l0 : Int) < 0 := by omega
    have c_aN := C_aN.out.cell
    go_wp2_with fail
    clear c_aN
    refine (Row.szName _ l1 _ (1048576 - (Row.bulkT l0 : Int)) (Q1.out.on BB.out) m1 N1.out (by omega) (by omega)).mono ?_
    rintro e w2 ⟨rfl, hb⟩
    replace C_aN := Lib.hid (C_aN.out.on hb)
    replace BB := Lib.hid (BB.out.trans (hb.mono BB.out.size))
    have S3 := Lib.hid (show w1.heap.size ≤ w2.heap.size from (by have h := hb.size; exact h))
    clear hb
    by_cases t1 : (Row.bulk l1 : Int) ≤ 1048576 - (Row.bulkT l0 : Int)
    · -- in
      rw [Row.szL_fit t1]
      have b1 : Row.bulk l1 ≤ 1048576 := by omega
      have d1 : l1.length ≤ 1048576 := Row.bigLen b1
      have g1 : ¬ 1048576 - (Row.bulkT l0 : Int) - (Row.bulk l1 : Int) < 0 := by omega
      have c_aN := C_aN.out.cell
      go_wp2_with fail
      clear c_aN
      have hdr : Below w2.heap.size w2 w2.drew := (Below.refl _ _).drew
      replace C_aN := Lib.hid (C_aN.out.on hdr)
      replace BB := Lib.hid (BB.out.trans (hdr.mono BB.out.size))
      clear hdr
      have KS := Lib.hid (show w2.drew.cell? ⟨w.heap.size, 0, none⟩ = some (.slice x1 k1 c1) ∧ Below w.heap.size w w2.drew from ⟨C_aN.out.cell, BB.out⟩)
      go_region_held3 (fun w' => w'.cell? ⟨w.heap.size, 0, none⟩ = some (.slice x1 k1 c1) ∧ Below w.heap.size w w') (first | exact KS.out | exact (Row.keepN1 KS.out hb0) | exact (Row.keepN1 (Row.keepN1 KS.out hb0) hb1) | exact (Row.keepN1 (Row.keepN1 (Row.keepN1 KS.out hb0) hb1) hbr)) ((first | (go_at_call 34; refine (Row.toT _ l0 _ (Q0.out.on BB.out) (by omega) (by first | assumption | exact (by assumption : _ ∧ _).1)).mono ?_; rintro e w3 ⟨v1, rfl, ho0, hb0⟩) | (go_at_call 37; refine (Row.toName _ l1 _ ((Q1.out.on BB.out).on hb0) (by omega)).mono ?_; rintro e w4 ⟨v2, rfl, ho1, hb1⟩) | (go_at_call 21; refine (Row.specLookupEntry _ _ (l0) (l1) _ (ho0.holds.on hb1) ho1.holds (by omega) (by assumption) (by omega)).mono ?_; rintro e w5 ⟨rfl, hbr⟩)))
      clear KS ho0 ho1
      replace C_aN := Lib.hid (C_aN.out.on hb0)
      replace BB := Lib.hid (BB.out.trans (hb0.mono BB.out.size))
      have S4 := Lib.hid (show w2.heap.size ≤ w3.heap.size from (by have h := hb0.size; exact h))
      replace C_aN := Lib.hid (C_aN.out.on hb1)
      replace BB := Lib.hid (BB.out.trans (hb1.mono BB.out.size))
      have S5 := Lib.hid (show w3.heap.size ≤ w4.heap.size from (by have h := hb1.size; exact h))
      clear hb0 hb1
      replace C_aN := Lib.hid (C_aN.out.on hbr)
      replace BB := Lib.hid (BB.out.trans (hbr.mono BB.out.size))
      have S6 := Lib.hid (show w4.heap.size ≤ w5.heap.size from (by have h := hbr.size; exact h))
      clear hbr
      have c_aN := C_aN.out.cell
      go_wp2_with fail
      clear c_aN
      refine (Row.toT _ l0 _ (Q0.out.on BB.out) (by omega) (by first | assumption | exact (by assumption : _ ∧ _).1)).mono ?_
      rintro e w6 ⟨v3, rfl, ho, hb⟩
      obtain ⟨x_v3, n_v3, c_v3, rfl, e_v3, -, ho⟩ := ho.shapeN; clear e_v3
      replace C_aN := Lib.hid (C_aN.out.on hb)
      replace BB := Lib.hid (BB.out.trans (hb.mono BB.out.size))
      have S7 := Lib.hid (show w5.heap.size ≤ w6.heap.size from (by have h := hb.size; exact h))
      have O_v3 := Lib.hid (show Row.TabIn w5.heap.size w6.heap.size w6 (.slice x_v3 n_v3 c_v3) (l0) from Row.TabIn.of ho); clear ho
      clear hb
      have c_aN := C_aN.out.cell
      go_wp2_with fail
      clear c_aN
      refine (Row.toName _ l1 _ (Q1.out.on BB.out) (by omega)).mono ?_
      rintro e w7 ⟨v4, rfl, ho, hb⟩
      obtain ⟨x_v4, n_v4, c_v4, rfl, e_v4, -, ho⟩ := ho.shapeN; clear e_v4
      replace C_aN := Lib.hid (C_aN.out.on hb)
      replace O_v3 := Lib.hid (O_v3.out.on hb)
      replace BB := Lib.hid (BB.out.trans (hb.mono BB.out.size))
      have S8 := Lib.hid (show w6.heap.size ≤ w7.heap.size from (by have h := hb.size; exact h))
      have O_v4 := Lib.hid (show Row.NameIn w6.heap.size w7.heap.size w7 (.slice x_v4 n_v4 c_v4) (l1) from Row.NameIn.of ho); clear ho
      clear hb
      have hal := (Below.refl w7.heap.size w7).alloc (Nat.le_refl _) (.cells #[.slice x_v4 n_v4 c_v4] 27)
      replace C_aN := Lib.hid (C_aN.out.on hal)
      replace O_v3 := Lib.hid (O_v3.out.on hal)
      replace O_v4 := Lib.hid (O_v4.out.on hal)
      replace BB := Lib.hid (BB.out.trans (hal.mono BB.out.size))
      have S9 := Lib.hid (show (w7.alloc (.cells #[.slice x_v4 n_v4 c_v4] 27)).heap.size = w7.heap.size + 1 from World.size_alloc _ _)
      have C_x1 := Lib.hid (Ret.Box.new w7 (.slice x_v4 n_v4 c_v4) 27); clear hal
      have c_aN := C_aN.out.cell
      have c_x1 := C_x1.out.cell
      go_wp2_with fail
      clear c_aN c_x1
      refine (Row.implLookupEntry _ _ (l0) (l1) _ (O_v3.out.holds) (O_v4.out.holds) (by omega) (by assumption) (by omega)).mono ?_
      rintro e w8 ⟨rfl, hb⟩
      replace C_aN := Lib.hid (C_aN.out.on hb)
      replace C_x1 := Lib.hid (C_x1.out.on hb)
      replace O_v3 := Lib.hid (O_v3.out.on hb)
      replace O_v4 := Lib.hid (O_v4.out.on hb)
      replace BB := Lib.hid (BB.out.trans (hb.mono BB.out.size))
      have S10 := Lib.hid (show (w7.alloc (.cells #[.slice x_v4 n_v4 c_v4] 27)).heap.size ≤ w8.heap.size from (by have h := hb.size; exact h))
      clear hb
      have c_aN := C_aN.out.cell
      have c_x1 := C_x1.out.cell
      go_wp2_with fail
      clear c_aN c_x1
      refine (Row.toT _ l0 _ (Q0.out.on BB.out) (by omega) (by first | assumption | exact (by assumption : _ ∧ _).1)).mono ?_
      rintro e w9 ⟨v5, rfl, ho, hb⟩
      obtain ⟨x_v5, n_v5, c_v5, rfl, e_v5, -, ho⟩ := ho.shapeN; clear e_v5
      replace C_aN := Lib.hid (C_aN.out.on hb)
      replace C_x1 := Lib.hid (C_x1.out.on hb)
      replace O_v3 := Lib.hid (O_v3.out.on hb)
      replace O_v4 := Lib.hid (O_v4.out.on hb)
      replace BB := Lib.hid (BB.out.trans (hb.mono BB.out.size))
      have S11 := Lib.hid (show w8.heap.size ≤ w9.heap.size from (by have h := hb.size; exact h))
      have O_v5 := Lib.hid (show Row.TabIn w8.heap.size w9.heap.size w9 (.slice x_v5 n_v5 c_v5) (l0) from Row.TabIn.of ho); clear ho
      clear hb
      have c_aN := C_aN.out.cell
      have c_x1 := C_x1.out.cell
      go_wp2_with fail
      clear c_aN c_x1
      refine (Row.sameT _ _ (l0) _ (O_v3.out.holds) (O_v5.out.holds) (by first | omega | (simp; omega) | (simp [Row.marks_length, Row.mark2_length]; omega)) (by first | assumption | exact (by assumption : _ ∧ _).1)).mono ?_
      rintro e w10 ⟨rfl, hb⟩
      replace C_aN := Lib.hid (C_aN.out.on hb)
      replace C_x1 := Lib.hid (C_x1.out.on hb)
      replace O_v3 := Lib.hid (O_v3.out.on hb)
      replace O_v4 := Lib.hid (O_v4.out.on hb)
      replace O_v5 := Lib.hid (O_v5.out.on hb)
      replace BB := Lib.hid (BB.out.trans (hb.mono BB.out.size))
      have S12 := Lib.hid (show w9.heap.size ≤ w10.heap.size from (by have h := hb.size; exact h))
      clear hb
      have c_aN := C_aN.out.cell
      have c_x1 := C_x1.out.cell
      go_wp2_with fail
      clear c_aN c_x1
      clear O_v5
      have hdr : Below w10.heap.size w10 w10.drew := (Below.refl _ _).drew
      replace C_aN := Lib.hid (C_aN.out.on hdr)
      replace C_x1 := Lib.hid (C_x1.out.on hdr)
      replace O_v3 := Lib.hid (O_v3.out.on hdr)
      replace O_v4 := Lib.hid (O_v4.out.on hdr)
      replace BB := Lib.hid (BB.out.trans (hdr.mono BB.out.size))
      clear hdr
      have KS := Lib.hid (show w10.drew.cell? ⟨w7.heap.size, 0, none⟩ = some (.slice x_v4 n_v4 c_v4) ∧ w10.drew.cell? ⟨w.heap.size, 0, none⟩ = some (.slice x1 k1 c1) ∧ Below w.heap.size w w10.drew from ⟨C_x1.out.cell, C_aN.out.cell, BB.out⟩)
      go_region_held3 (fun w' => w'.cell? ⟨w7.heap.size, 0, none⟩ = some (.slice x_v4 n_v4 c_v4) ∧ w'.cell? ⟨w.heap.size, 0, none⟩ = some (.slice x1 k1 c1) ∧ Below w.heap.size w w') (first | exact KS.out | exact Row.keepN2 KS.out hba | exact Row.keepN2 (Row.keepN2 KS.out hba) hbb) ((first | (go_at_call 37; refine (Row.toName _ l1 _ (Q1.out.on BB.out) (by omega)).mono ?_; rintro e w11 ⟨v6, rfl, hoa, hba⟩) | (go_at_call 38; refine (Row.sameN _ _ (l1) _ ((O_v4.out.holds).on hba) hoa.holds (by first | omega | (simp; omega) | (simp [Row.marks_length, Row.mark2_length]; omega))).mono ?_; rintro e w12 ⟨rfl, hbb⟩)))
      clear KS hoa
      replace C_aN := Lib.hid (C_aN.out.on hba)
      replace C_x1 := Lib.hid (C_x1.out.on hba)
      replace O_v3 := Lib.hid (O_v3.out.on hba)
      replace O_v4 := Lib.hid (O_v4.out.on hba)
      replace BB := Lib.hid (BB.out.trans (hba.mono BB.out.size))
      have S13 := Lib.hid (show w10.heap.size ≤ w11.heap.size from (by have h := hba.size; exact h))
      replace C_aN := Lib.hid (C_aN.out.on hbb)
      replace C_x1 := Lib.hid (C_x1.out.on hbb)
      replace O_v3 := Lib.hid (O_v3.out.on hbb)
      replace O_v4 := Lib.hid (O_v4.out.on hbb)
      replace BB := Lib.hid (BB.out.trans (hbb.mono BB.out.size))
      have S14 := Lib.hid (show w11.heap.size ≤ w12.heap.size from (by have h := hbb.size; exact h))
      clear hba hbb
      have c_aN := C_aN.out.cell
      have c_x1 := C_x1.out.cell
      go_wp2_with fail
      clear c_aN c_x1
      go_ret
      exact ⟨rfl, BB.out⟩
    · -- out
      rw [Row.szL_not (by omega)]
      have c_aN := C_aN.out.cell
      go_wp2
      go_ret
      exact ⟨rfl, BB.out⟩
  · -- out
    rw [Row.szLT_not (by omega)]
    have c_aN := C_aN.out.cell
    go_wp2
    go_ret
    exact ⟨rfl, BB.out⟩

set_option maxRecDepth 100000 in
theorem lifted (os : Os) (started : os.Started) (H : Type) (enc : TypeId × Value → H) :
    ReturnsInHanded {} Try.checked os 7 .any (Rows.fnExactLookupEntrySpec.pre6 enc Try.prog Try.f7 Rows.fnExactLookupEntryRow.domain false) (Rows.fnExactLookupEntrySpec.post enc Try.prog Try.f7 false true false false) := by
  refine returnsInHanded_of_change_sized (C := Try.checked) own started (by kernel_rfl) Try.func7
    (ChangeSpec.witness6 (enc := enc) (C := Try.checked) false ⟨#[], #[.slice none 0 0, .agg #[.slice none 0 0]], []⟩ 8 (by kernel_rfl) (by kernel_rfl) (by kernel_rfl) (by kernel_rfl)) ?_
  intro W base args ds gs before hval0 hW _ hsz0 _
  have hval : ∀ (j : Nat) t v, Try.f7.params[j]? = some t → args[j]? = some v → Value.okWide Try.prog W .any base t v := hval0
  have hsz : (DataW.weightsEach Try.prog (Try.f7.params.toList ++ Rows.fnExactLookupEntrySpec.plain.varTypes Try.prog) (ds ++ gs)).all (· ≤ reachBytes) = true := hsz0
  clear hsz0
  have hW' := hW
  obtain ⟨p, q, hA0, hV, rfl, hfz, hnd⟩ := hW
  have hA : DataW.TrodAll enc Try.prog W 0 (fun _ => true) true Try.f7.params.toList args.toList ds p := hA0
  rw [Try.params7] at hA hval hsz
  obtain ⟨v0, vs0, d0, ds0, p0, q0, hargs, rfl, rfl, h0, r0⟩ := trodAll_cons hA
  obtain ⟨v1, vs1, d1, ds1, p1, q1, rfl, rfl, rfl, h1, r1⟩ := trodAll_cons r0
  obtain ⟨rfl, rfl, rfl⟩ := trodAll_nil r1
  obtain rfl : args = #[v0, v1] := by cases args; simp_all
  obtain ⟨rfl, rfl⟩ := trodVars_none hV
  obtain ⟨l0, q0, n0, m0⟩ := Row.open_tab (t := 45) (e := 75) Try.underlying45 Try.underlying75 Try.underlying49 Try.underlying25 Try.underlying9 Try.underlying3 rfl rfl rfl (by kernel_rfl) (by kernel_rfl) (by kernel_rfl) (by kernel_rfl) (by kernel_rfl) (hval 0 45 v0 rfl rfl) h0
  obtain ⟨y1, l1, rfl, q1, n1, m1⟩ := Row.open_name (t := 49) (e := 25) (s := 9) Try.underlying49 rfl rfl (by kernel_rfl) (by kernel_rfl) Try.underlying25 Try.underlying9 (by kernel_rfl) (hval 1 49 v1 rfl rfl) h1
  clear hA0 hval0
  refine (walk W _ _ q0 n0 m0 _ _ q1 n1 m1).mono fun e W' ⟨he, hb⟩ => ?_
  subst he
  exact ⟨_, rfl, Frame.law_post laidOut (by kernel_rfl) rfl Try.underlying4 rfl rfl hW' hb⟩

theorem said : Rows.FnExactLookupEntrySaid :=
  OpenClaim.holds_of_wide 7 Try.f7 rfl rfl rfl rfl rfl rfl rfl ⟨rfl, rfl, rfl, rfl, rfl⟩ rfl rfl rfl rfl rfl (by kernel_rfl) Try.func7 (by kernel_rfl)
    (of_decide_eq_true (by kernel_rfl)) (by unfold Func.isWrapper; first | (rw [if_pos (by decide +kernel)]; kernel_rfl) | (rw [if_neg (by decide +kernel)]; exact ⟨rfl, rfl⟩))
    (fun os started H enc _ => lifted os started H enc)

#print axioms said
end Go.Proofs.Ytihcebjbkifbpaa.fnExactLookupEntry
