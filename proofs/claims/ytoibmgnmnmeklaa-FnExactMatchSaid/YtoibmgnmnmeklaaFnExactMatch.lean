/- Match answers as its model for all patterns, names and bindings, writes into no argument, and its answer owns its memory. No conditions. -/
import Derived.Test.YtoibmgnmnmeklaaRows
import Derived.WalkKit
import Derived.ProofKit
import Derived.OpenShut
import Derived.SizedLaws
import Derived.Test.YtoibmgnmnmeklaaFrame
import Derived.Test.YtoibmgnmnmeklaaMatch3
import Derived.Test.YtoibmgnmnmeklaaBindLaw
namespace Go.Proofs.Ytoibmgnmnmeklaa.fnExactMatch
open Go.ChangeShapes Go.WideShapes Go.ChangeAt Go.RowKit
open Go.ChangeMaps (open_string shut_string)
set_option linter.unusedVariables false

theorem own : ownKnob Try.prog.godebug = none := by kernel_rfl
theorem laidOut : laidOutB Try.prog = true := by kernel_rfl

set_option maxRecDepth 100000 in
set_option maxHeartbeats 4000000 in
theorem walk (w : World) (y0 : Value) (l0 : List ByteArray) (q0 : Row.Holds Value.string w y0 l0) (n0 : ∀ x ∈ l0, x.size ≤ maxLen) (m0 : l0.length ≤ 9223372036854775807) (y1 : Value) (l1 : List ByteArray) (q1 : Row.Holds Value.string w y1 l1) (n1 : ∀ x ∈ l1, x.size ≤ maxLen) (m1 : l1.length ≤ 9223372036854775807) (y2 : Value) (l2 : List (ByteArray × ByteArray)) (q2 : Row.HoldsK Row.encBd 2 w y2 l2) (n2 : ∀ x ∈ l2, x.1.size ≤ maxLen ∧ x.2.size ≤ maxLen) (m2 : l2.length ≤ 9223372036854775807) :
    Calls Try.prog 5 #[.agg #[y0], .agg #[y1], y2] w fun e w' => e = .returned (.bool true) ∧ Below w.heap.size w w' := by
  obtain ⟨x0, k0, c0, rfl, e0, -, q0⟩ := q0.shapeN; clear e0
  obtain ⟨x1, k1, c1, rfl, e1, -, q1⟩ := q1.shapeN; clear e1
  obtain ⟨x2, k2, c2, rfl, e2, -, q2⟩ := q2.shapeN; clear e2
  have Q0 := Lib.hid q0; have N0 := Lib.hid n0; clear q0 n0
  have Q1 := Lib.hid q1; have N1 := Lib.hid n1; clear q1 n1
  have Q2 := Lib.hid q2; have N2 := Lib.hid n2; clear q2 n2
  have hal := (Below.refl w.heap.size w).alloc (Nat.le_refl _) (.cells #[.slice x0 k0 c0] 51)
  have BB := Lib.hid hal
  have C_aP := Lib.hid (Ret.Box.new' (w := w) (.slice x0 k0 c0) 51 (n := w.heap.size) (by first | rfl | simp)); clear hal
  have hal := (Below.refl (w.alloc (.cells #[.slice x0 k0 c0] 51)).heap.size (w.alloc (.cells #[.slice x0 k0 c0] 51))).alloc (Nat.le_refl _) (.cells #[.slice x1 k1 c1] 56)
  replace C_aP := Lib.hid (C_aP.out.on hal)
  replace BB := Lib.hid (BB.out.trans (hal.mono BB.out.size))
  have C_aN := Lib.hid (Ret.Box.new' (w := (w.alloc (.cells #[.slice x0 k0 c0] 51))) (.slice x1 k1 c1) 56 (n := w.heap.size + 1) (by first | rfl | simp)); clear hal
  go_enter Try.func5, Try.ntmps5
  have c_aP := C_aP.out.cell
  have c_aN := C_aN.out.cell
  go_wp2_with fail
  clear c_aP c_aN
  refine (Row.szPattern _ l0 _ (1048576) (Q0.out.on BB.out) m0 N0.out (by omega) (by omega)).mono ?_
  rintro e w1 ⟨rfl, hb⟩
  replace C_aP := Lib.hid (C_aP.out.on hb)
  replace C_aN := Lib.hid (C_aN.out.on hb)
  replace BB := Lib.hid (BB.out.trans (hb.mono BB.out.size))
  clear hb
  by_cases t0 : (Row.bulk l0 : Int) ≤ 1048576
  · -- in
    rw [Row.szL_fit t0]
    have b0 : Row.bulk l0 ≤ 1048576 := by omega
    have d0 : l0.length ≤ 1048576 := Row.bigLen b0
    have g0 : ¬ 1048576 - (Row.bulk l0 : Int) < 0 := by omega
    have c_aP := C_aP.out.cell
    have c_aN := C_aN.out.cell
    go_wp2_with fail
    clear c_aP c_aN
    refine (Row.szName _ l1 _ (1048576 - (Row.bulk l0 : Int)) (Q1.out.on BB.out) m1 N1.out (by omega) (by omega)).mono ?_
    rintro e w2 ⟨rfl, hb⟩
    replace C_aP := Lib.hid (C_aP.out.on hb)
    replace C_aN := Lib.hid (C_aN.out.on hb)
    replace BB := Lib.hid (BB.out.trans (hb.mono BB.out.size))
    clear hb
    by_cases t1 : (Row.bulk l1 : Int) ≤ 1048576 - (Row.bulk l0 : Int)
    · -- in
      rw [Row.szL_fit t1]
      have b1 : Row.bulk l1 ≤ 1048576 := by omega
      have d1 : l1.length ≤ 1048576 := Row.bigLen b1
      have g1 : ¬ 1048576 - (Row.bulk l0 : Int) - (Row.bulk l1 : Int) < 0 := by omega
      have c_aP := C_aP.out.cell
      have c_aN := C_aN.out.cell
      go_wp2_with fail
      clear c_aP c_aN
      refine (Row.szBindingS _ l2 _ (1048576 - (Row.bulk l0 : Int) - (Row.bulk l1 : Int)) (Q2.out.on BB.out) m2 N2.out (by omega) (by omega)).mono ?_
      rintro e w3 ⟨rfl, hb⟩
      replace C_aP := Lib.hid (C_aP.out.on hb)
      replace C_aN := Lib.hid (C_aN.out.on hb)
      replace BB := Lib.hid (BB.out.trans (hb.mono BB.out.size))
      clear hb
      by_cases t2 : (Row.bulk2 l2 : Int) ≤ 1048576 - (Row.bulk l0 : Int) - (Row.bulk l1 : Int)
      · -- in
        rw [Row.szL2_fit t2]
        have b2 : Row.bulk2 l2 ≤ 1048576 := by omega
        have d2 : l2.length ≤ 1048576 := Row.bigLen2 b2
        have g2 : ¬ 1048576 - (Row.bulk l0 : Int) - (Row.bulk l1 : Int) - (Row.bulk2 l2 : Int) < 0 := by omega
        have c_aP := C_aP.out.cell
        have c_aN := C_aN.out.cell
        go_wp2_with fail
        clear c_aP c_aN
        have hdr : Below w3.heap.size w3 w3.drew := (Below.refl _ _).drew
        replace C_aP := Lib.hid (C_aP.out.on hdr)
        replace C_aN := Lib.hid (C_aN.out.on hdr)
        replace BB := Lib.hid (BB.out.trans (hdr.mono BB.out.size))
        clear hdr
        have KS := Lib.hid (show w3.drew.cell? ⟨w.heap.size, 0, none⟩ = some (.slice x0 k0 c0) ∧ w3.drew.cell? ⟨w.heap.size + 1, 0, none⟩ = some (.slice x1 k1 c1) ∧ Below w.heap.size w w3.drew from ⟨C_aP.out.cell, C_aN.out.cell, BB.out⟩)
        have f1 := Row.mOut_len (l0) (l1) (l2)
        go_region_held3 (fun w' => w'.cell? ⟨w.heap.size, 0, none⟩ = some (.slice x0 k0 c0) ∧ w'.cell? ⟨w.heap.size + 1, 0, none⟩ = some (.slice x1 k1 c1) ∧ Below w.heap.size w w') (first | exact KS.out | exact (Row.keepN2 KS.out hb0) | exact (Row.keepN2 (Row.keepN2 KS.out hb0) hb1) | exact (Row.keepN2 (Row.keepN2 (Row.keepN2 KS.out hb0) hb1) hb2) | exact (Row.keepN2 (Row.keepN2 (Row.keepN2 (Row.keepN2 KS.out hb0) hb1) hb2) hbr)) ((first | (go_at_call 35; refine (Row.toPattern _ l0 _ (Q0.out.on BB.out) (by omega)).mono ?_; rintro e w4 ⟨v1, rfl, ho0, hb0⟩) | (go_at_call 39; refine (Row.toName _ l1 _ ((Q1.out.on BB.out).on hb0) (by omega)).mono ?_; rintro e w5 ⟨v2, rfl, ho1, hb1⟩) | (go_at_call 40; refine (Row.toBindingS _ l2 _ (((Q2.out.on BB.out).on hb0).on hb1) (by omega)).mono ?_; rintro e w6 ⟨v3, rfl, ho2, hb2⟩) | (go_at_call 14; refine (Row.specMatchX _ _ _ (l0) (l1) (l2) _ ((ho0.holds.on hb1).on hb2) (ho1.holds.on hb2) ho2.holds (by omega) (by omega) (by omega)).mono ?_; rintro e w7 ⟨v4, rfl, hor, hbr⟩)))
        clear KS ho0 ho1 ho2
        replace C_aP := Lib.hid (C_aP.out.on hb0)
        replace C_aN := Lib.hid (C_aN.out.on hb0)
        replace BB := Lib.hid (BB.out.trans (hb0.mono BB.out.size))
        replace C_aP := Lib.hid (C_aP.out.on hb1)
        replace C_aN := Lib.hid (C_aN.out.on hb1)
        replace BB := Lib.hid (BB.out.trans (hb1.mono BB.out.size))
        replace C_aP := Lib.hid (C_aP.out.on hb2)
        replace C_aN := Lib.hid (C_aN.out.on hb2)
        replace BB := Lib.hid (BB.out.trans (hb2.mono BB.out.size))
        clear hb0 hb1 hb2
        have hb := hbr; have ho := hor; clear hbr hor
        obtain ⟨x_v4, n_v4, c_v4, rfl, e_v4, -, ho⟩ := ho.shapeN; clear e_v4
        replace ho := ho.mono BB.out.size
        replace C_aP := Lib.hid (C_aP.out.on hb)
        replace C_aN := Lib.hid (C_aN.out.on hb)
        replace BB := Lib.hid (BB.out.trans (hb.mono BB.out.size))
        clear hb
        have O_v4 := Lib.hid ho; clear ho
        have c_aP := C_aP.out.cell
        have c_aN := C_aN.out.cell
        go_wp2_with fail
        clear c_aP c_aN
        refine (Row.toPattern _ l0 _ (Q0.out.on BB.out) (by omega)).mono ?_
        rintro e w8 ⟨v5, rfl, ho, hb⟩
        obtain ⟨x_v5, n_v5, c_v5, rfl, e_v5, -, ho⟩ := ho.shapeN; clear e_v5
        have A_v5_v4 := Lib.hid (Row.apart_lt (fun g h => (ho.lt g h).1) (fun g h => (O_v4.out.lt g h).2))
        replace ho := ho.mono BB.out.size
        replace C_aP := Lib.hid (C_aP.out.on hb)
        replace C_aN := Lib.hid (C_aN.out.on hb)
        replace O_v4 := Lib.hid (O_v4.out.on hb)
        replace BB := Lib.hid (BB.out.trans (hb.mono BB.out.size))
        clear hb
        have O_v5 := Lib.hid ho; clear ho
        have hal := (Below.refl w8.heap.size w8).alloc (Nat.le_refl _) (.cells #[.slice x_v5 n_v5 c_v5] 26)
        replace C_aP := Lib.hid (C_aP.out.on hal)
        replace C_aN := Lib.hid (C_aN.out.on hal)
        replace O_v4 := Lib.hid (O_v4.out.on hal)
        replace O_v5 := Lib.hid (O_v5.out.on hal)
        replace BB := Lib.hid (BB.out.trans (hal.mono BB.out.size))
        have C_x0 := Lib.hid (Ret.Box.new w8 (.slice x_v5 n_v5 c_v5) 26); clear hal
        have c_aP := C_aP.out.cell
        have c_aN := C_aN.out.cell
        have c_x0 := C_x0.out.cell
        go_wp2_with fail
        clear c_aP c_aN c_x0
        refine (Row.toName _ l1 _ (Q1.out.on BB.out) (by omega)).mono ?_
        rintro e w9 ⟨v6, rfl, ho, hb⟩
        obtain ⟨x_v6, n_v6, c_v6, rfl, e_v6, -, ho⟩ := ho.shapeN; clear e_v6
        have A_v6_v4 := Lib.hid (Row.apart_lt (fun g h => (ho.lt g h).1) (fun g h => (O_v4.out.lt g h).2))
        have A_v6_v5 := Lib.hid (Row.apart_lt (fun g h => (ho.lt g h).1) (fun g h => (O_v5.out.lt g h).2))
        replace ho := ho.mono BB.out.size
        replace C_aP := Lib.hid (C_aP.out.on hb)
        replace C_aN := Lib.hid (C_aN.out.on hb)
        replace C_x0 := Lib.hid (C_x0.out.on hb)
        replace O_v4 := Lib.hid (O_v4.out.on hb)
        replace O_v5 := Lib.hid (O_v5.out.on hb)
        replace BB := Lib.hid (BB.out.trans (hb.mono BB.out.size))
        clear hb
        have O_v6 := Lib.hid ho; clear ho
        have hal := (Below.refl w9.heap.size w9).alloc (Nat.le_refl _) (.cells #[.slice x_v6 n_v6 c_v6] 27)
        replace C_aP := Lib.hid (C_aP.out.on hal)
        replace C_aN := Lib.hid (C_aN.out.on hal)
        replace C_x0 := Lib.hid (C_x0.out.on hal)
        replace O_v4 := Lib.hid (O_v4.out.on hal)
        replace O_v5 := Lib.hid (O_v5.out.on hal)
        replace O_v6 := Lib.hid (O_v6.out.on hal)
        replace BB := Lib.hid (BB.out.trans (hal.mono BB.out.size))
        have C_x1 := Lib.hid (Ret.Box.new w9 (.slice x_v6 n_v6 c_v6) 27); clear hal
        have c_aP := C_aP.out.cell
        have c_aN := C_aN.out.cell
        have c_x0 := C_x0.out.cell
        have c_x1 := C_x1.out.cell
        go_wp2_with fail
        clear c_aP c_aN c_x0 c_x1
        refine (Row.toBindingS _ l2 _ (Q2.out.on BB.out) (by omega)).mono ?_
        rintro e w10 ⟨v7, rfl, ho, hb⟩
        obtain ⟨x_v7, n_v7, c_v7, rfl, e_v7, -, ho⟩ := ho.shapeN; clear e_v7
        have A_v7_v4 := Lib.hid (Row.apart_lt (fun g h => (ho.lt g h).1) (fun g h => (O_v4.out.lt g h).2))
        have A_v7_v5 := Lib.hid (Row.apart_lt (fun g h => (ho.lt g h).1) (fun g h => (O_v5.out.lt g h).2))
        have A_v7_v6 := Lib.hid (Row.apart_lt (fun g h => (ho.lt g h).1) (fun g h => (O_v6.out.lt g h).2))
        replace ho := ho.mono BB.out.size
        replace C_aP := Lib.hid (C_aP.out.on hb)
        replace C_aN := Lib.hid (C_aN.out.on hb)
        replace C_x0 := Lib.hid (C_x0.out.on hb)
        replace C_x1 := Lib.hid (C_x1.out.on hb)
        replace O_v4 := Lib.hid (O_v4.out.on hb)
        replace O_v5 := Lib.hid (O_v5.out.on hb)
        replace O_v6 := Lib.hid (O_v6.out.on hb)
        replace BB := Lib.hid (BB.out.trans (hb.mono BB.out.size))
        clear hb
        have O_v7 := Lib.hid ho; clear ho
        have c_aP := C_aP.out.cell
        have c_aN := C_aN.out.cell
        have c_x0 := C_x0.out.cell
        have c_x1 := C_x1.out.cell
        go_wp2_with fail
        clear c_aP c_aN c_x0 c_x1
        have f2 := Row.mOut_len (l0) (l1) (l2)
        refine (Row.implMatchX _ _ _ (l0) (l1) (l2) _ (O_v5.out.holds) (O_v6.out.holds) (O_v7.out.holds) (by omega) (by omega) (by omega)).mono ?_
        rintro e w11 ⟨v8, rfl, ho, hb⟩
        obtain ⟨x_v8, n_v8, c_v8, rfl, e_v8, -, ho⟩ := ho.shapeN; clear e_v8
        have A_v8_v4 := Lib.hid (Row.apart_lt (fun g h => (ho.lt g h).1) (fun g h => (O_v4.out.lt g h).2))
        have A_v8_v5 := Lib.hid (Row.apart_lt (fun g h => (ho.lt g h).1) (fun g h => (O_v5.out.lt g h).2))
        have A_v8_v6 := Lib.hid (Row.apart_lt (fun g h => (ho.lt g h).1) (fun g h => (O_v6.out.lt g h).2))
        have A_v8_v7 := Lib.hid (Row.apart_lt (fun g h => (ho.lt g h).1) (fun g h => (O_v7.out.lt g h).2))
        replace ho := ho.mono BB.out.size
        replace C_aP := Lib.hid (C_aP.out.on hb)
        replace C_aN := Lib.hid (C_aN.out.on hb)
        replace C_x0 := Lib.hid (C_x0.out.on hb)
        replace C_x1 := Lib.hid (C_x1.out.on hb)
        replace O_v4 := Lib.hid (O_v4.out.on hb)
        replace O_v5 := Lib.hid (O_v5.out.on hb)
        replace O_v6 := Lib.hid (O_v6.out.on hb)
        replace O_v7 := Lib.hid (O_v7.out.on hb)
        replace BB := Lib.hid (BB.out.trans (hb.mono BB.out.size))
        clear hb
        have O_v8 := Lib.hid ho; clear ho
        have c_aP := C_aP.out.cell
        have c_aN := C_aN.out.cell
        have c_x0 := C_x0.out.cell
        have c_x1 := C_x1.out.cell
        go_wp2_with fail
        clear c_aP c_aN c_x0 c_x1
        refine (Row.sameB _ _ (Row.mOut (l0) (l1) (l2)) _ (O_v8.out.holds) (O_v4.out.holds) (by first | omega | (simp; omega) | (simp [Row.marks_length, Row.mark2_length]; omega))).mono ?_
        rintro e w12 ⟨rfl, hb⟩
        replace C_aP := Lib.hid (C_aP.out.on hb)
        replace C_aN := Lib.hid (C_aN.out.on hb)
        replace C_x0 := Lib.hid (C_x0.out.on hb)
        replace C_x1 := Lib.hid (C_x1.out.on hb)
        replace O_v4 := Lib.hid (O_v4.out.on hb)
        replace O_v5 := Lib.hid (O_v5.out.on hb)
        replace O_v6 := Lib.hid (O_v6.out.on hb)
        replace O_v7 := Lib.hid (O_v7.out.on hb)
        replace O_v8 := Lib.hid (O_v8.out.on hb)
        replace BB := Lib.hid (BB.out.trans (hb.mono BB.out.size))
        clear hb
        have c_aP := C_aP.out.cell
        have c_aN := C_aN.out.cell
        have c_x0 := C_x0.out.cell
        have c_x1 := C_x1.out.cell
        go_wp2_with fail
        clear c_aP c_aN c_x0 c_x1
        have hdr : Below w12.heap.size w12 w12.drew := (Below.refl _ _).drew
        replace C_aP := Lib.hid (C_aP.out.on hdr)
        replace C_aN := Lib.hid (C_aN.out.on hdr)
        replace C_x0 := Lib.hid (C_x0.out.on hdr)
        replace C_x1 := Lib.hid (C_x1.out.on hdr)
        replace O_v4 := Lib.hid (O_v4.out.on hdr)
        replace O_v5 := Lib.hid (O_v5.out.on hdr)
        replace O_v6 := Lib.hid (O_v6.out.on hdr)
        replace O_v7 := Lib.hid (O_v7.out.on hdr)
        replace O_v8 := Lib.hid (O_v8.out.on hdr)
        replace BB := Lib.hid (BB.out.trans (hdr.mono BB.out.size))
        clear hdr
        have KS := Lib.hid (show w12.drew.cell? ⟨w8.heap.size, 0, none⟩ = some (.slice x_v5 n_v5 c_v5) ∧ w12.drew.cell? ⟨w.heap.size, 0, none⟩ = some (.slice x0 k0 c0) ∧ Below w.heap.size w w12.drew from ⟨C_x0.out.cell, C_aP.out.cell, BB.out⟩)
        go_region_held3 (fun w' => w'.cell? ⟨w8.heap.size, 0, none⟩ = some (.slice x_v5 n_v5 c_v5) ∧ w'.cell? ⟨w.heap.size, 0, none⟩ = some (.slice x0 k0 c0) ∧ Below w.heap.size w w') (first | exact KS.out | exact Row.keepN2 KS.out hba | exact Row.keepN2 (Row.keepN2 KS.out hba) hbb) ((first | (go_at_call 35; refine (Row.toPattern _ l0 _ (Q0.out.on BB.out) (by omega)).mono ?_; rintro e w13 ⟨v9, rfl, hoa, hba⟩) | (go_at_call 36; refine (Row.sameP _ _ (l0) _ ((O_v5.out.holds).on hba) hoa.holds (by first | omega | (simp; omega) | (simp [Row.marks_length, Row.mark2_length]; omega))).mono ?_; rintro e w14 ⟨rfl, hbb⟩)))
        clear KS hoa
        replace C_aP := Lib.hid (C_aP.out.on hba)
        replace C_aN := Lib.hid (C_aN.out.on hba)
        replace C_x0 := Lib.hid (C_x0.out.on hba)
        replace C_x1 := Lib.hid (C_x1.out.on hba)
        replace O_v4 := Lib.hid (O_v4.out.on hba)
        replace O_v5 := Lib.hid (O_v5.out.on hba)
        replace O_v6 := Lib.hid (O_v6.out.on hba)
        replace O_v7 := Lib.hid (O_v7.out.on hba)
        replace O_v8 := Lib.hid (O_v8.out.on hba)
        replace BB := Lib.hid (BB.out.trans (hba.mono BB.out.size))
        replace C_aP := Lib.hid (C_aP.out.on hbb)
        replace C_aN := Lib.hid (C_aN.out.on hbb)
        replace C_x0 := Lib.hid (C_x0.out.on hbb)
        replace C_x1 := Lib.hid (C_x1.out.on hbb)
        replace O_v4 := Lib.hid (O_v4.out.on hbb)
        replace O_v5 := Lib.hid (O_v5.out.on hbb)
        replace O_v6 := Lib.hid (O_v6.out.on hbb)
        replace O_v7 := Lib.hid (O_v7.out.on hbb)
        replace O_v8 := Lib.hid (O_v8.out.on hbb)
        replace BB := Lib.hid (BB.out.trans (hbb.mono BB.out.size))
        clear hba hbb
        have c_aP := C_aP.out.cell
        have c_aN := C_aN.out.cell
        have c_x0 := C_x0.out.cell
        have c_x1 := C_x1.out.cell
        go_wp2_with fail
        clear c_aP c_aN c_x0 c_x1
        have hdr : Below w14.heap.size w14 w14.drew := (Below.refl _ _).drew
        replace C_aP := Lib.hid (C_aP.out.on hdr)
        replace C_aN := Lib.hid (C_aN.out.on hdr)
        replace C_x0 := Lib.hid (C_x0.out.on hdr)
        replace C_x1 := Lib.hid (C_x1.out.on hdr)
        replace O_v4 := Lib.hid (O_v4.out.on hdr)
        replace O_v5 := Lib.hid (O_v5.out.on hdr)
        replace O_v6 := Lib.hid (O_v6.out.on hdr)
        replace O_v7 := Lib.hid (O_v7.out.on hdr)
        replace O_v8 := Lib.hid (O_v8.out.on hdr)
        replace BB := Lib.hid (BB.out.trans (hdr.mono BB.out.size))
        clear hdr
        have KS := Lib.hid (show w14.drew.cell? ⟨w9.heap.size, 0, none⟩ = some (.slice x_v6 n_v6 c_v6) ∧ w14.drew.cell? ⟨w.heap.size + 1, 0, none⟩ = some (.slice x1 k1 c1) ∧ Below w.heap.size w w14.drew from ⟨C_x1.out.cell, C_aN.out.cell, BB.out⟩)
        go_region_held3 (fun w' => w'.cell? ⟨w9.heap.size, 0, none⟩ = some (.slice x_v6 n_v6 c_v6) ∧ w'.cell? ⟨w.heap.size + 1, 0, none⟩ = some (.slice x1 k1 c1) ∧ Below w.heap.size w w') (first | exact KS.out | exact Row.keepN2 KS.out hba | exact Row.keepN2 (Row.keepN2 KS.out hba) hbb) ((first | (go_at_call 39; refine (Row.toName _ l1 _ (Q1.out.on BB.out) (by omega)).mono ?_; rintro e w15 ⟨v10, rfl, hoa, hba⟩) | (go_at_call 42; refine (Row.sameN _ _ (l1) _ ((O_v6.out.holds).on hba) hoa.holds (by first | omega | (simp; omega) | (simp [Row.marks_length, Row.mark2_length]; omega))).mono ?_; rintro e w16 ⟨rfl, hbb⟩)))
        clear KS hoa
        replace C_aP := Lib.hid (C_aP.out.on hba)
        replace C_aN := Lib.hid (C_aN.out.on hba)
        replace C_x0 := Lib.hid (C_x0.out.on hba)
        replace C_x1 := Lib.hid (C_x1.out.on hba)
        replace O_v4 := Lib.hid (O_v4.out.on hba)
        replace O_v5 := Lib.hid (O_v5.out.on hba)
        replace O_v6 := Lib.hid (O_v6.out.on hba)
        replace O_v7 := Lib.hid (O_v7.out.on hba)
        replace O_v8 := Lib.hid (O_v8.out.on hba)
        replace BB := Lib.hid (BB.out.trans (hba.mono BB.out.size))
        replace C_aP := Lib.hid (C_aP.out.on hbb)
        replace C_aN := Lib.hid (C_aN.out.on hbb)
        replace C_x0 := Lib.hid (C_x0.out.on hbb)
        replace C_x1 := Lib.hid (C_x1.out.on hbb)
        replace O_v4 := Lib.hid (O_v4.out.on hbb)
        replace O_v5 := Lib.hid (O_v5.out.on hbb)
        replace O_v6 := Lib.hid (O_v6.out.on hbb)
        replace O_v7 := Lib.hid (O_v7.out.on hbb)
        replace O_v8 := Lib.hid (O_v8.out.on hbb)
        replace BB := Lib.hid (BB.out.trans (hbb.mono BB.out.size))
        clear hba hbb
        have c_aP := C_aP.out.cell
        have c_aN := C_aN.out.cell
        have c_x0 := C_x0.out.cell
        have c_x1 := C_x1.out.cell
        go_wp2_with fail
        clear c_aP c_aN c_x0 c_x1
        refine (Row.toBindingS _ l2 _ (Q2.out.on BB.out) (by omega)).mono ?_
        rintro e w17 ⟨v11, rfl, ho, hb⟩
        obtain ⟨x_v11, n_v11, c_v11, rfl, e_v11, -, ho⟩ := ho.shapeN; clear e_v11
        have A_v11_v4 := Lib.hid (Row.apart_lt (fun g h => (ho.lt g h).1) (fun g h => (O_v4.out.lt g h).2))
        have A_v11_v5 := Lib.hid (Row.apart_lt (fun g h => (ho.lt g h).1) (fun g h => (O_v5.out.lt g h).2))
        have A_v11_v6 := Lib.hid (Row.apart_lt (fun g h => (ho.lt g h).1) (fun g h => (O_v6.out.lt g h).2))
        have A_v11_v7 := Lib.hid (Row.apart_lt (fun g h => (ho.lt g h).1) (fun g h => (O_v7.out.lt g h).2))
        have A_v11_v8 := Lib.hid (Row.apart_lt (fun g h => (ho.lt g h).1) (fun g h => (O_v8.out.lt g h).2))
        replace ho := ho.mono BB.out.size
        replace C_aP := Lib.hid (C_aP.out.on hb)
        replace C_aN := Lib.hid (C_aN.out.on hb)
        replace C_x0 := Lib.hid (C_x0.out.on hb)
        replace C_x1 := Lib.hid (C_x1.out.on hb)
        replace O_v4 := Lib.hid (O_v4.out.on hb)
        replace O_v5 := Lib.hid (O_v5.out.on hb)
        replace O_v6 := Lib.hid (O_v6.out.on hb)
        replace O_v7 := Lib.hid (O_v7.out.on hb)
        replace O_v8 := Lib.hid (O_v8.out.on hb)
        replace BB := Lib.hid (BB.out.trans (hb.mono BB.out.size))
        clear hb
        have O_v11 := Lib.hid ho; clear ho
        have c_aP := C_aP.out.cell
        have c_aN := C_aN.out.cell
        have c_x0 := C_x0.out.cell
        have c_x1 := C_x1.out.cell
        go_wp2_with fail
        clear c_aP c_aN c_x0 c_x1
        refine (Row.sameB _ _ (l2) _ (O_v7.out.holds) (O_v11.out.holds) (by first | omega | (simp; omega) | (simp [Row.marks_length, Row.mark2_length]; omega))).mono ?_
        rintro e w18 ⟨rfl, hb⟩
        replace C_aP := Lib.hid (C_aP.out.on hb)
        replace C_aN := Lib.hid (C_aN.out.on hb)
        replace C_x0 := Lib.hid (C_x0.out.on hb)
        replace C_x1 := Lib.hid (C_x1.out.on hb)
        replace O_v4 := Lib.hid (O_v4.out.on hb)
        replace O_v5 := Lib.hid (O_v5.out.on hb)
        replace O_v6 := Lib.hid (O_v6.out.on hb)
        replace O_v7 := Lib.hid (O_v7.out.on hb)
        replace O_v8 := Lib.hid (O_v8.out.on hb)
        replace O_v11 := Lib.hid (O_v11.out.on hb)
        replace BB := Lib.hid (BB.out.trans (hb.mono BB.out.size))
        clear hb
        have c_aP := C_aP.out.cell
        have c_aN := C_aN.out.cell
        have c_x0 := C_x0.out.cell
        have c_x1 := C_x1.out.cell
        go_wp2_with fail
        clear c_aP c_aN c_x0 c_x1
        clear O_v11
        refine (Row.markPattern _ _ (l0) _ (1) O_v5.out (by first | omega | (simp; omega) | (simp [Row.marks_length, Row.mark2_length]; omega)) (by first | omega | (simp; omega) | (simp [Row.marks_length, Row.mark2_length]; omega)) (by first | omega | (simp; omega) | (simp [Row.marks_length, Row.mark2_length]; omega))).mono ?_
        rintro e w19 ⟨rfl, ho, hg⟩
        replace C_aP := Lib.hid (C_aP.out.grown hg (O_v5.out.notBox C_aP.out (by decide)))
        replace C_aN := Lib.hid (C_aN.out.grown hg (O_v5.out.notBox C_aN.out (by decide)))
        replace C_x0 := Lib.hid (C_x0.out.grown hg (O_v5.out.notBox C_x0.out (by decide)))
        replace C_x1 := Lib.hid (C_x1.out.grown hg (O_v5.out.notBox C_x1.out (by decide)))
        replace O_v4 := Lib.hid (O_v4.out.grown hg (Row.apart_or (Row.Apart.symm A_v5_v4.out)))
        replace O_v6 := Lib.hid (O_v6.out.grown hg (Row.apart_or A_v6_v5.out))
        replace O_v7 := Lib.hid (O_v7.out.grown hg (Row.apart_or A_v7_v5.out))
        replace O_v8 := Lib.hid (O_v8.out.grown hg (Row.apart_or A_v8_v5.out))
        replace BB := Lib.hid (BB.out.grown hg (by have := BB.out.size; omega) (fun g hh => (O_v5.out.lt g hh).1))
        replace O_v5 := Lib.hid ho; clear ho hg
        have c_aP := C_aP.out.cell
        have c_aN := C_aN.out.cell
        have c_x0 := C_x0.out.cell
        have c_x1 := C_x1.out.cell
        go_wp2_with fail
        clear c_aP c_aN c_x0 c_x1
        refine (Row.markName _ _ (l1) _ (1 + ((l0).length : Int)) O_v6.out (by first | omega | (simp; omega) | (simp [Row.marks_length, Row.mark2_length]; omega)) (by first | omega | (simp; omega) | (simp [Row.marks_length, Row.mark2_length]; omega)) (by first | omega | (simp; omega) | (simp [Row.marks_length, Row.mark2_length]; omega))).mono ?_
        rintro e w20 ⟨rfl, ho, hg⟩
        replace C_aP := Lib.hid (C_aP.out.grown hg (O_v6.out.notBox C_aP.out (by decide)))
        replace C_aN := Lib.hid (C_aN.out.grown hg (O_v6.out.notBox C_aN.out (by decide)))
        replace C_x0 := Lib.hid (C_x0.out.grown hg (O_v6.out.notBox C_x0.out (by decide)))
        replace C_x1 := Lib.hid (C_x1.out.grown hg (O_v6.out.notBox C_x1.out (by decide)))
        replace O_v4 := Lib.hid (O_v4.out.grown hg (Row.apart_or (Row.Apart.symm A_v6_v4.out)))
        replace O_v5 := Lib.hid (O_v5.out.grown hg (Row.apart_or (Row.Apart.symm A_v6_v5.out)))
        replace O_v7 := Lib.hid (O_v7.out.grown hg (Row.apart_or A_v7_v6.out))
        replace O_v8 := Lib.hid (O_v8.out.grown hg (Row.apart_or A_v8_v6.out))
        replace BB := Lib.hid (BB.out.grown hg (by have := BB.out.size; omega) (fun g hh => (O_v6.out.lt g hh).1))
        replace O_v6 := Lib.hid ho; clear ho hg
        have c_aP := C_aP.out.cell
        have c_aN := C_aN.out.cell
        have c_x0 := C_x0.out.cell
        have c_x1 := C_x1.out.cell
        go_wp2_with fail
        clear c_aP c_aN c_x0 c_x1
        refine (Row.markBindingS _ _ (l2) _ (1 + ((l0).length : Int) + ((l1).length : Int)) O_v7.out (by first | omega | (simp; omega) | (simp [Row.marks_length, Row.mark2_length]; omega)) (by first | omega | (simp; omega) | (simp [Row.marks_length, Row.mark2_length]; omega)) (by first | omega | (simp; omega) | (simp [Row.marks_length, Row.mark2_length]; omega))).mono ?_
        rintro e w21 ⟨rfl, ho, hg⟩
        replace C_aP := Lib.hid (C_aP.out.grown hg (O_v7.out.notBox C_aP.out (by decide)))
        replace C_aN := Lib.hid (C_aN.out.grown hg (O_v7.out.notBox C_aN.out (by decide)))
        replace C_x0 := Lib.hid (C_x0.out.grown hg (O_v7.out.notBox C_x0.out (by decide)))
        replace C_x1 := Lib.hid (C_x1.out.grown hg (O_v7.out.notBox C_x1.out (by decide)))
        replace O_v4 := Lib.hid (O_v4.out.grown hg (Row.apart_or (Row.Apart.symm A_v7_v4.out)))
        replace O_v5 := Lib.hid (O_v5.out.grown hg (Row.apart_or (Row.Apart.symm A_v7_v5.out)))
        replace O_v6 := Lib.hid (O_v6.out.grown hg (Row.apart_or (Row.Apart.symm A_v7_v6.out)))
        replace O_v8 := Lib.hid (O_v8.out.grown hg (Row.apart_or A_v8_v7.out))
        replace BB := Lib.hid (BB.out.grown hg (by have := BB.out.size; omega) (fun g hh => (O_v7.out.lt g hh).1))
        replace O_v7 := Lib.hid ho; clear ho hg
        have c_aP := C_aP.out.cell
        have c_aN := C_aN.out.cell
        have c_x0 := C_x0.out.cell
        have c_x1 := C_x1.out.cell
        go_wp2_with fail
        clear c_aP c_aN c_x0 c_x1
        refine (Row.sameB _ _ (Row.mOut (l0) (l1) (l2)) _ (O_v8.out.holds) (O_v4.out.holds) (by first | omega | (simp; omega) | (simp [Row.marks_length, Row.mark2_length]; omega))).mono ?_
        rintro e w22 ⟨rfl, hb⟩
        replace C_aP := Lib.hid (C_aP.out.on hb)
        replace C_aN := Lib.hid (C_aN.out.on hb)
        replace C_x0 := Lib.hid (C_x0.out.on hb)
        replace C_x1 := Lib.hid (C_x1.out.on hb)
        replace O_v4 := Lib.hid (O_v4.out.on hb)
        replace O_v5 := Lib.hid (O_v5.out.on hb)
        replace O_v6 := Lib.hid (O_v6.out.on hb)
        replace O_v7 := Lib.hid (O_v7.out.on hb)
        replace O_v8 := Lib.hid (O_v8.out.on hb)
        replace BB := Lib.hid (BB.out.trans (hb.mono BB.out.size))
        clear hb
        have c_aP := C_aP.out.cell
        have c_aN := C_aN.out.cell
        have c_x0 := C_x0.out.cell
        have c_x1 := C_x1.out.cell
        go_wp2_with fail
        clear c_aP c_aN c_x0 c_x1
        refine (Row.markBindingS _ _ (Row.mOut (l0) (l1) (l2)) _ (1) O_v8.out (by first | omega | (simp; omega) | (simp [Row.marks_length, Row.mark2_length]; omega)) (by first | omega | (simp; omega) | (simp [Row.marks_length, Row.mark2_length]; omega)) (by first | omega | (simp; omega) | (simp [Row.marks_length, Row.mark2_length]; omega))).mono ?_
        rintro e w23 ⟨rfl, ho, hg⟩
        replace C_aP := Lib.hid (C_aP.out.grown hg (O_v8.out.notBox C_aP.out (by decide)))
        replace C_aN := Lib.hid (C_aN.out.grown hg (O_v8.out.notBox C_aN.out (by decide)))
        replace C_x0 := Lib.hid (C_x0.out.grown hg (O_v8.out.notBox C_x0.out (by decide)))
        replace C_x1 := Lib.hid (C_x1.out.grown hg (O_v8.out.notBox C_x1.out (by decide)))
        replace O_v4 := Lib.hid (O_v4.out.grown hg (Row.apart_or (Row.Apart.symm A_v8_v4.out)))
        replace O_v5 := Lib.hid (O_v5.out.grown hg (Row.apart_or (Row.Apart.symm A_v8_v5.out)))
        replace O_v6 := Lib.hid (O_v6.out.grown hg (Row.apart_or (Row.Apart.symm A_v8_v6.out)))
        replace O_v7 := Lib.hid (O_v7.out.grown hg (Row.apart_or (Row.Apart.symm A_v8_v7.out)))
        replace BB := Lib.hid (BB.out.grown hg (by have := BB.out.size; omega) (fun g hh => (O_v8.out.lt g hh).1))
        replace O_v8 := Lib.hid ho; clear ho hg
        have c_aP := C_aP.out.cell
        have c_aN := C_aN.out.cell
        have c_x0 := C_x0.out.cell
        have c_x1 := C_x1.out.cell
        go_wp2_with fail
        clear c_aP c_aN c_x0 c_x1
        refine (Row.heldBindingS _ _ (1) (Row.mOut (l0) (l1) (l2)).length (O_v8.out.holds) (by first | omega | (simp; omega) | (simp [Row.marks_length, Row.mark2_length]; omega)) (by first | omega | (simp; omega) | (simp [Row.marks_length, Row.mark2_length]; omega)) (by first | omega | (simp; omega) | (simp [Row.marks_length, Row.mark2_length]; omega))).mono ?_
        rintro e w24 ⟨rfl, hb⟩
        replace C_aP := Lib.hid (C_aP.out.on hb)
        replace C_aN := Lib.hid (C_aN.out.on hb)
        replace C_x0 := Lib.hid (C_x0.out.on hb)
        replace C_x1 := Lib.hid (C_x1.out.on hb)
        replace O_v4 := Lib.hid (O_v4.out.on hb)
        replace O_v5 := Lib.hid (O_v5.out.on hb)
        replace O_v6 := Lib.hid (O_v6.out.on hb)
        replace O_v7 := Lib.hid (O_v7.out.on hb)
        replace O_v8 := Lib.hid (O_v8.out.on hb)
        replace BB := Lib.hid (BB.out.trans (hb.mono BB.out.size))
        clear hb
        have c_aP := C_aP.out.cell
        have c_aN := C_aN.out.cell
        have c_x0 := C_x0.out.cell
        have c_x1 := C_x1.out.cell
        go_wp2_with fail
        clear c_aP c_aN c_x0 c_x1
        have hdr : Below w24.heap.size w24 w24.drew := (Below.refl _ _).drew
        replace C_aP := Lib.hid (C_aP.out.on hdr)
        replace C_aN := Lib.hid (C_aN.out.on hdr)
        replace C_x0 := Lib.hid (C_x0.out.on hdr)
        replace C_x1 := Lib.hid (C_x1.out.on hdr)
        replace O_v4 := Lib.hid (O_v4.out.on hdr)
        replace O_v5 := Lib.hid (O_v5.out.on hdr)
        replace O_v6 := Lib.hid (O_v6.out.on hdr)
        replace O_v7 := Lib.hid (O_v7.out.on hdr)
        replace O_v8 := Lib.hid (O_v8.out.on hdr)
        replace BB := Lib.hid (BB.out.trans (hdr.mono BB.out.size))
        clear hdr
        have KS := Lib.hid (show w24.drew.cell? ⟨w.heap.size, 0, none⟩ = some (.slice x0 k0 c0) ∧ w24.drew.cell? ⟨w.heap.size + 1, 0, none⟩ = some (.slice x1 k1 c1) ∧ Below w.heap.size w w24.drew from ⟨C_aP.out.cell, C_aN.out.cell, BB.out⟩)
        have f3 := Row.mOut_len (l0) (l1) (l2)
        go_region_held3 (fun w' => w'.cell? ⟨w.heap.size, 0, none⟩ = some (.slice x0 k0 c0) ∧ w'.cell? ⟨w.heap.size + 1, 0, none⟩ = some (.slice x1 k1 c1) ∧ Below w.heap.size w w') (first | exact KS.out | exact (Row.keepN2 KS.out hb0) | exact (Row.keepN2 (Row.keepN2 KS.out hb0) hb1) | exact (Row.keepN2 (Row.keepN2 (Row.keepN2 KS.out hb0) hb1) hb2) | exact (Row.keepN2 (Row.keepN2 (Row.keepN2 (Row.keepN2 KS.out hb0) hb1) hb2) hbr)) ((first | (go_at_call 35; refine (Row.toPattern _ l0 _ (Q0.out.on BB.out) (by omega)).mono ?_; rintro e w25 ⟨v12, rfl, ho0, hb0⟩) | (go_at_call 39; refine (Row.toName _ l1 _ ((Q1.out.on BB.out).on hb0) (by omega)).mono ?_; rintro e w26 ⟨v13, rfl, ho1, hb1⟩) | (go_at_call 40; refine (Row.toBindingS _ l2 _ (((Q2.out.on BB.out).on hb0).on hb1) (by omega)).mono ?_; rintro e w27 ⟨v14, rfl, ho2, hb2⟩) | (go_at_call 13; refine (Row.implMatchX _ _ _ (l0) (l1) (l2) _ ((ho0.holds.on hb1).on hb2) (ho1.holds.on hb2) ho2.holds (by omega) (by omega) (by omega)).mono ?_; rintro e w28 ⟨v15, rfl, hor, hbr⟩)))
        clear KS ho0 ho1 ho2
        replace C_aP := Lib.hid (C_aP.out.on hb0)
        replace C_aN := Lib.hid (C_aN.out.on hb0)
        replace C_x0 := Lib.hid (C_x0.out.on hb0)
        replace C_x1 := Lib.hid (C_x1.out.on hb0)
        replace O_v4 := Lib.hid (O_v4.out.on hb0)
        replace O_v5 := Lib.hid (O_v5.out.on hb0)
        replace O_v6 := Lib.hid (O_v6.out.on hb0)
        replace O_v7 := Lib.hid (O_v7.out.on hb0)
        replace O_v8 := Lib.hid (O_v8.out.on hb0)
        replace BB := Lib.hid (BB.out.trans (hb0.mono BB.out.size))
        replace C_aP := Lib.hid (C_aP.out.on hb1)
        replace C_aN := Lib.hid (C_aN.out.on hb1)
        replace C_x0 := Lib.hid (C_x0.out.on hb1)
        replace C_x1 := Lib.hid (C_x1.out.on hb1)
        replace O_v4 := Lib.hid (O_v4.out.on hb1)
        replace O_v5 := Lib.hid (O_v5.out.on hb1)
        replace O_v6 := Lib.hid (O_v6.out.on hb1)
        replace O_v7 := Lib.hid (O_v7.out.on hb1)
        replace O_v8 := Lib.hid (O_v8.out.on hb1)
        replace BB := Lib.hid (BB.out.trans (hb1.mono BB.out.size))
        replace C_aP := Lib.hid (C_aP.out.on hb2)
        replace C_aN := Lib.hid (C_aN.out.on hb2)
        replace C_x0 := Lib.hid (C_x0.out.on hb2)
        replace C_x1 := Lib.hid (C_x1.out.on hb2)
        replace O_v4 := Lib.hid (O_v4.out.on hb2)
        replace O_v5 := Lib.hid (O_v5.out.on hb2)
        replace O_v6 := Lib.hid (O_v6.out.on hb2)
        replace O_v7 := Lib.hid (O_v7.out.on hb2)
        replace O_v8 := Lib.hid (O_v8.out.on hb2)
        replace BB := Lib.hid (BB.out.trans (hb2.mono BB.out.size))
        clear hb0 hb1 hb2
        have hb := hbr; have ho := hor; clear hbr hor
        obtain ⟨x_v15, n_v15, c_v15, rfl, e_v15, -, ho⟩ := ho.shapeN; clear e_v15
        have A_v15_v4 := Lib.hid (Row.apart_lt (fun g h => (ho.lt g h).1) (fun g h => (O_v4.out.lt g h).2))
        have A_v15_v5 := Lib.hid (Row.apart_lt (fun g h => (ho.lt g h).1) (fun g h => (O_v5.out.lt g h).2))
        have A_v15_v6 := Lib.hid (Row.apart_lt (fun g h => (ho.lt g h).1) (fun g h => (O_v6.out.lt g h).2))
        have A_v15_v7 := Lib.hid (Row.apart_lt (fun g h => (ho.lt g h).1) (fun g h => (O_v7.out.lt g h).2))
        have A_v15_v8 := Lib.hid (Row.apart_lt (fun g h => (ho.lt g h).1) (fun g h => (O_v8.out.lt g h).2))
        replace ho := ho.mono BB.out.size
        replace C_aP := Lib.hid (C_aP.out.on hb)
        replace C_aN := Lib.hid (C_aN.out.on hb)
        replace C_x0 := Lib.hid (C_x0.out.on hb)
        replace C_x1 := Lib.hid (C_x1.out.on hb)
        replace O_v4 := Lib.hid (O_v4.out.on hb)
        replace O_v5 := Lib.hid (O_v5.out.on hb)
        replace O_v6 := Lib.hid (O_v6.out.on hb)
        replace O_v7 := Lib.hid (O_v7.out.on hb)
        replace O_v8 := Lib.hid (O_v8.out.on hb)
        replace BB := Lib.hid (BB.out.trans (hb.mono BB.out.size))
        clear hb
        have O_v15 := Lib.hid ho; clear ho
        have c_aP := C_aP.out.cell
        have c_aN := C_aN.out.cell
        have c_x0 := C_x0.out.cell
        have c_x1 := C_x1.out.cell
        go_wp2_with fail
        clear c_aP c_aN c_x0 c_x1
        refine (Row.sameB _ _ (Row.mOut (l0) (l1) (l2)) _ (O_v15.out.holds) (O_v4.out.holds) (by first | omega | (simp; omega) | (simp [Row.marks_length, Row.mark2_length]; omega))).mono ?_
        rintro e w29 ⟨rfl, hb⟩
        replace C_aP := Lib.hid (C_aP.out.on hb)
        replace C_aN := Lib.hid (C_aN.out.on hb)
        replace C_x0 := Lib.hid (C_x0.out.on hb)
        replace C_x1 := Lib.hid (C_x1.out.on hb)
        replace O_v4 := Lib.hid (O_v4.out.on hb)
        replace O_v5 := Lib.hid (O_v5.out.on hb)
        replace O_v6 := Lib.hid (O_v6.out.on hb)
        replace O_v7 := Lib.hid (O_v7.out.on hb)
        replace O_v8 := Lib.hid (O_v8.out.on hb)
        replace O_v15 := Lib.hid (O_v15.out.on hb)
        replace BB := Lib.hid (BB.out.trans (hb.mono BB.out.size))
        clear hb
        have c_aP := C_aP.out.cell
        have c_aN := C_aN.out.cell
        have c_x0 := C_x0.out.cell
        have c_x1 := C_x1.out.cell
        go_wp2_with fail
        clear c_aP c_aN c_x0 c_x1
        refine (Row.heldBindingS _ _ (1) (Row.mOut (l0) (l1) (l2)).length (O_v8.out.holds) (by first | omega | (simp; omega) | (simp [Row.marks_length, Row.mark2_length]; omega)) (by first | omega | (simp; omega) | (simp [Row.marks_length, Row.mark2_length]; omega)) (by first | omega | (simp; omega) | (simp [Row.marks_length, Row.mark2_length]; omega))).mono ?_
        rintro e w30 ⟨rfl, hb⟩
        replace C_aP := Lib.hid (C_aP.out.on hb)
        replace C_aN := Lib.hid (C_aN.out.on hb)
        replace C_x0 := Lib.hid (C_x0.out.on hb)
        replace C_x1 := Lib.hid (C_x1.out.on hb)
        replace O_v4 := Lib.hid (O_v4.out.on hb)
        replace O_v5 := Lib.hid (O_v5.out.on hb)
        replace O_v6 := Lib.hid (O_v6.out.on hb)
        replace O_v7 := Lib.hid (O_v7.out.on hb)
        replace O_v8 := Lib.hid (O_v8.out.on hb)
        replace O_v15 := Lib.hid (O_v15.out.on hb)
        replace BB := Lib.hid (BB.out.trans (hb.mono BB.out.size))
        clear hb
        have c_aP := C_aP.out.cell
        have c_aN := C_aN.out.cell
        have c_x0 := C_x0.out.cell
        have c_x1 := C_x1.out.cell
        go_wp2_with fail
        clear c_aP c_aN c_x0 c_x1
        go_ret
        exact ⟨rfl, BB.out⟩
      · -- out
        rw [Row.szL2_not (by omega)]
        have c_aP := C_aP.out.cell
        have c_aN := C_aN.out.cell
        go_wp2
        go_ret
        exact ⟨rfl, BB.out⟩
    · -- out
      rw [Row.szL_not (by omega)]
      have c_aP := C_aP.out.cell
      have c_aN := C_aN.out.cell
      go_wp2
      go_ret
      exact ⟨rfl, BB.out⟩
  · -- out
    rw [Row.szL_not (by omega)]
    have c_aP := C_aP.out.cell
    have c_aN := C_aN.out.cell
    go_wp2
    go_ret
    exact ⟨rfl, BB.out⟩

set_option maxRecDepth 100000 in
theorem lifted (os : Os) (started : os.Started) (H : Type) (enc : TypeId × Value → H) :
    ReturnsInHanded {} Try.checked os 5 .any (Rows.fnExactMatchSpec.pre6 enc Try.prog Try.f5 Rows.fnExactMatchRow.domain false) (Rows.fnExactMatchSpec.post enc Try.prog Try.f5 false true false false) := by
  refine returnsInHanded_of_change_sized (C := Try.checked) own started (by kernel_rfl) Try.func5
    (ChangeSpec.witness6 (enc := enc) (C := Try.checked) false ⟨#[], #[.agg #[.slice none 0 0], .agg #[.slice none 0 0], .slice none 0 0], []⟩ 8 (by kernel_rfl) (by kernel_rfl) (by kernel_rfl) (by kernel_rfl)) ?_
  intro W base args ds gs before hval0 hW _ hsz0 _
  have hval : ∀ (j : Nat) t v, Try.f5.params[j]? = some t → args[j]? = some v → Value.okWide Try.prog W .any base t v := hval0
  have hsz : (DataW.weightsEach Try.prog (Try.f5.params.toList ++ Rows.fnExactMatchSpec.plain.varTypes Try.prog) (ds ++ gs)).all (· ≤ reachBytes) = true := hsz0
  clear hsz0
  have hW' := hW
  obtain ⟨p, q, hA0, hV, rfl, hfz, hnd⟩ := hW
  have hA : DataW.TrodAll enc Try.prog W 0 (fun _ => true) true Try.f5.params.toList args.toList ds p := hA0
  rw [Try.params5] at hA hval hsz
  obtain ⟨v0, vs0, d0, ds0, p0, q0, hargs, rfl, rfl, h0, r0⟩ := trodAll_cons hA
  obtain ⟨v1, vs1, d1, ds1, p1, q1, rfl, rfl, rfl, h1, r1⟩ := trodAll_cons r0
  obtain ⟨v2, vs2, d2, ds2, p2, q2, rfl, rfl, rfl, h2, r2⟩ := trodAll_cons r1
  obtain ⟨rfl, rfl, rfl⟩ := trodAll_nil r2
  obtain rfl : args = #[v0, v1, v2] := by cases args; simp_all
  obtain ⟨rfl, rfl⟩ := trodVars_none hV
  obtain ⟨y0, l0, rfl, q0, n0, m0⟩ := Row.open_name (t := 51) (e := 24) (s := 9) Try.underlying51 rfl rfl (by kernel_rfl) (by kernel_rfl) Try.underlying24 Try.underlying9 (by kernel_rfl) (hval 0 51 v0 rfl rfl) h0
  obtain ⟨y1, l1, rfl, q1, n1, m1⟩ := Row.open_name (t := 56) (e := 24) (s := 9) Try.underlying56 rfl rfl (by kernel_rfl) (by kernel_rfl) Try.underlying24 Try.underlying9 (by kernel_rfl) (hval 1 56 v1 rfl rfl) h1
  obtain ⟨l2, q2, n2, m2⟩ := Row.open_binds (t := 57) (e := 95) Try.underlying57 Try.underlying95 Try.underlying9 Try.underlying9 rfl rfl (by kernel_rfl) (by kernel_rfl) (by kernel_rfl) (hval 2 57 v2 rfl rfl) h2
  clear hA0 hval0
  refine (walk W _ _ q0 n0 m0 _ _ q1 n1 m1 _ _ q2 n2 m2).mono fun e W' ⟨he, hb⟩ => ?_
  subst he
  exact ⟨_, rfl, Frame.law_post laidOut (by kernel_rfl) rfl Try.underlying4 rfl rfl hW' hb⟩

theorem said : Rows.FnExactMatchSaid :=
  OpenClaim.holds_of_wide 5 Try.f5 rfl rfl rfl rfl rfl rfl rfl ⟨rfl, rfl, rfl, rfl, rfl⟩ rfl rfl rfl rfl rfl (by kernel_rfl) Try.func5 (by kernel_rfl)
    (of_decide_eq_true (by kernel_rfl)) (by unfold Func.isWrapper; first | (rw [if_pos (by decide +kernel)]; kernel_rfl) | (rw [if_neg (by decide +kernel)]; exact ⟨rfl, rfl⟩))
    (fun os started H enc _ => lifted os started H enc)

#print axioms said
end Go.Proofs.Ytoibmgnmnmeklaa.fnExactMatch
