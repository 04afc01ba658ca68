/- Instantiate answers as its model for all patterns and bindings, writes into no argument, and its answer owns its memory. No conditions. -/
import Derived.Test.YtoibmgnmnmeklaaRows
import Derived.WalkKit
import Derived.ProofKit
import Derived.OpenShut
import Derived.SizedLaws
import Derived.Test.YtoibmgnmnmeklaaFrame
import Derived.Test.YtoibmgnmnmeklaaInst2
import Derived.Test.YtoibmgnmnmeklaaBindLaw
namespace Go.Proofs.Ytoibmgnmnmeklaa.fnExactInstantiate
open Go.ChangeShapes Go.WideShapes Go.ChangeAt Go.RowKit
open Go.ChangeMaps (open_string shut_string)
set_option linter.unusedVariables false

theorem own : ownKnob Try.prog.godebug = none := by kernel_rfl
theorem laidOut : laidOutB Try.prog = true := by kernel_rfl

set_option maxRecDepth 100000 in
set_option maxHeartbeats 4000000 in
theorem walk (w : World) (y0 : Value) (l0 : List ByteArray) (q0 : Row.Holds Value.string w y0 l0) (n0 : ∀ x ∈ l0, x.size ≤ maxLen) (m0 : l0.length ≤ 9223372036854775807) (y1 : Value) (l1 : List (ByteArray × ByteArray)) (q1 : Row.HoldsK Row.encBd 2 w y1 l1) (n1 : ∀ x ∈ l1, x.1.size ≤ maxLen ∧ x.2.size ≤ maxLen) (m1 : l1.length ≤ 9223372036854775807) :
    Calls Try.prog 10 #[.agg #[y0], y1] w fun e w' => e = .returned (.bool true) ∧ Below w.heap.size w w' := by
  obtain ⟨x0, k0, c0, rfl, e0, -, q0⟩ := q0.shapeN; clear e0
  obtain ⟨x1, k1, c1, rfl, e1, -, q1⟩ := q1.shapeN; clear e1
  have Q0 := Lib.hid q0; have N0 := Lib.hid n0; clear q0 n0
  have Q1 := Lib.hid q1; have N1 := Lib.hid n1; clear q1 n1
  have hal := (Below.refl w.heap.size w).alloc (Nat.le_refl _) (.cells #[.slice x0 k0 c0] 51)
  have BB := Lib.hid hal
  have C_aP := Lib.hid (Ret.Box.new' (w := w) (.slice x0 k0 c0) 51 (n := w.heap.size) (by first | rfl | simp)); clear hal
  go_enter Try.func10, Try.ntmps10
  have c_aP := C_aP.out.cell
  go_wp2_with fail
  clear c_aP
  refine (Row.szPattern _ l0 _ (1048576) (Q0.out.on BB.out) m0 N0.out (by omega) (by omega)).mono ?_
  rintro e w1 ⟨rfl, hb⟩
  replace C_aP := Lib.hid (C_aP.out.on hb)
  replace BB := Lib.hid (BB.out.trans (hb.mono BB.out.size))
  clear hb
  by_cases t0 : (Row.bulk l0 : Int) ≤ 1048576
  · -- in
    rw [Row.szL_fit t0]
    have b0 : Row.bulk l0 ≤ 1048576 := by omega
    have d0 : l0.length ≤ 1048576 := Row.bigLen b0
    have g0 : ¬ 1048576 - (Row.bulk l0 : Int) < 0 := by omega
    have c_aP := C_aP.out.cell
    go_wp2_with fail
    clear c_aP
    refine (Row.szBindingS _ l1 _ (1048576 - (Row.bulk l0 : Int)) (Q1.out.on BB.out) m1 N1.out (by omega) (by omega)).mono ?_
    rintro e w2 ⟨rfl, hb⟩
    replace C_aP := Lib.hid (C_aP.out.on hb)
    replace BB := Lib.hid (BB.out.trans (hb.mono BB.out.size))
    clear hb
    by_cases t1 : (Row.bulk2 l1 : Int) ≤ 1048576 - (Row.bulk l0 : Int)
    · -- in
      rw [Row.szL2_fit t1]
      have b1 : Row.bulk2 l1 ≤ 1048576 := by omega
      have d1 : l1.length ≤ 1048576 := Row.bigLen2 b1
      have g1 : ¬ 1048576 - (Row.bulk l0 : Int) - (Row.bulk2 l1 : Int) < 0 := by omega
      have c_aP := C_aP.out.cell
      go_wp2_with fail
      clear c_aP
      refine (Row.toPattern _ l0 _ (Q0.out.on BB.out) (by omega)).mono ?_
      rintro e w3 ⟨v1, rfl, ho, hb⟩
      obtain ⟨x_v1, n_v1, c_v1, rfl, e_v1, -, ho⟩ := ho.shapeN; clear e_v1
      replace ho := ho.mono BB.out.size
      replace C_aP := Lib.hid (C_aP.out.on hb)
      replace BB := Lib.hid (BB.out.trans (hb.mono BB.out.size))
      clear hb
      have O_v1 := Lib.hid ho; clear ho
      have c_aP := C_aP.out.cell
      go_wp2_with fail
      clear c_aP
      refine (Row.toBindingS _ l1 _ (Q1.out.on BB.out) (by omega)).mono ?_
      rintro e w4 ⟨v2, rfl, ho, hb⟩
      obtain ⟨x_v2, n_v2, c_v2, rfl, e_v2, -, ho⟩ := ho.shapeN; clear e_v2
      have A_v2_v1 := Lib.hid (Row.apart_lt (fun g h => (ho.lt g h).1) (fun g h => (O_v1.out.lt g h).2))
      replace ho := ho.mono BB.out.size
      replace C_aP := Lib.hid (C_aP.out.on hb)
      replace O_v1 := Lib.hid (O_v1.out.on hb)
      replace BB := Lib.hid (BB.out.trans (hb.mono BB.out.size))
      clear hb
      have O_v2 := Lib.hid ho; clear ho
      have c_aP := C_aP.out.cell
      go_wp2_with fail
      clear c_aP
      have f1 := Row.instN_len (l0) (l1)
      refine (Row.specInstantiate _ _ (l0) (l1) _ (O_v1.out.holds) (O_v2.out.holds) (by omega) (by omega)).mono ?_
      rintro e w5 ⟨v3, rfl, ho, hb⟩
      obtain ⟨x_v3, n_v3, c_v3, rfl, e_v3, -, ho⟩ := ho.shapeN; clear e_v3
      have A_v3_v1 := Lib.hid (Row.apart_lt (fun g h => (ho.lt g h).1) (fun g h => (O_v1.out.lt g h).2))
      have A_v3_v2 := Lib.hid (Row.apart_lt (fun g h => (ho.lt g h).1) (fun g h => (O_v2.out.lt g h).2))
      replace ho := ho.mono BB.out.size
      replace C_aP := Lib.hid (C_aP.out.on hb)
      replace O_v1 := Lib.hid (O_v1.out.on hb)
      replace O_v2 := Lib.hid (O_v2.out.on hb)
      replace BB := Lib.hid (BB.out.trans (hb.mono BB.out.size))
      clear hb
      have O_v3 := Lib.hid ho; clear ho
      have hal := (Below.refl w5.heap.size w5).alloc (Nat.le_refl _) (.cells #[.slice x_v3 n_v3 c_v3] 27)
      replace C_aP := Lib.hid (C_aP.out.on hal)
      replace O_v1 := Lib.hid (O_v1.out.on hal)
      replace O_v2 := Lib.hid (O_v2.out.on hal)
      replace O_v3 := Lib.hid (O_v3.out.on hal)
      replace BB := Lib.hid (BB.out.trans (hal.mono BB.out.size))
      have C_w0 := Lib.hid (Ret.Box.new w5 (.slice x_v3 n_v3 c_v3) 27); clear hal
      have c_aP := C_aP.out.cell
      have c_w0 := C_w0.out.cell
      go_wp2_with fail
      clear c_aP c_w0
      clear O_v1
      clear O_v2
      refine (Row.toPattern _ l0 _ (Q0.out.on BB.out) (by omega)).mono ?_
      rintro e w6 ⟨v4, rfl, ho, hb⟩
      obtain ⟨x_v4, n_v4, c_v4, rfl, e_v4, -, ho⟩ := ho.shapeN; clear e_v4
      have A_v4_v3 := Lib.hid (Row.apart_lt (fun g h => (ho.lt g h).1) (fun g h => (O_v3.out.lt g h).2))
      replace ho := ho.mono BB.out.size
      replace C_aP := Lib.hid (C_aP.out.on hb)
      replace C_w0 := Lib.hid (C_w0.out.on hb)
      replace O_v3 := Lib.hid (O_v3.out.on hb)
      replace BB := Lib.hid (BB.out.trans (hb.mono BB.out.size))
      clear hb
      have O_v4 := Lib.hid ho; clear ho
      have hal := (Below.refl w6.heap.size w6).alloc (Nat.le_refl _) (.cells #[.slice x_v4 n_v4 c_v4] 26)
      replace C_aP := Lib.hid (C_aP.out.on hal)
      replace C_w0 := Lib.hid (C_w0.out.on hal)
      replace O_v3 := Lib.hid (O_v3.out.on hal)
      replace O_v4 := Lib.hid (O_v4.out.on hal)
      replace BB := Lib.hid (BB.out.trans (hal.mono BB.out.size))
      have C_x0 := Lib.hid (Ret.Box.new w6 (.slice x_v4 n_v4 c_v4) 26); clear hal
      have c_aP := C_aP.out.cell
      have c_w0 := C_w0.out.cell
      have c_x0 := C_x0.out.cell
      go_wp2_with fail
      clear c_aP c_w0 c_x0
      refine (Row.toBindingS _ l1 _ (Q1.out.on BB.out) (by omega)).mono ?_
      rintro e w7 ⟨v5, rfl, ho, hb⟩
      obtain ⟨x_v5, n_v5, c_v5, rfl, e_v5, -, ho⟩ := ho.shapeN; clear e_v5
      have A_v5_v3 := Lib.hid (Row.apart_lt (fun g h => (ho.lt g h).1) (fun g h => (O_v3.out.lt g h).2))
      have A_v5_v4 := Lib.hid (Row.apart_lt (fun g h => (ho.lt g h).1) (fun g h => (O_v4.out.lt g h).2))
      replace ho := ho.mono BB.out.size
      replace C_aP := Lib.hid (C_aP.out.on hb)
      replace C_w0 := Lib.hid (C_w0.out.on hb)
      replace C_x0 := Lib.hid (C_x0.out.on hb)
      replace O_v3 := Lib.hid (O_v3.out.on hb)
      replace O_v4 := Lib.hid (O_v4.out.on hb)
      replace BB := Lib.hid (BB.out.trans (hb.mono BB.out.size))
      clear hb
      have O_v5 := Lib.hid ho; clear ho
      have c_aP := C_aP.out.cell
      have c_w0 := C_w0.out.cell
      have c_x0 := C_x0.out.cell
      go_wp2_with fail
      clear c_aP c_w0 c_x0
      have f2 := Row.instN_len (l0) (l1)
      refine (Row.implInstantiate _ _ (l0) (l1) _ (O_v4.out.holds) (O_v5.out.holds) (by omega) (by omega)).mono ?_
      rintro e w8 ⟨v6, rfl, ho, hb⟩
      obtain ⟨x_v6, n_v6, c_v6, rfl, e_v6, -, ho⟩ := ho.shapeN; clear e_v6
      have A_v6_v3 := Lib.hid (Row.apart_lt (fun g h => (ho.lt g h).1) (fun g h => (O_v3.out.lt g h).2))
      have A_v6_v4 := Lib.hid (Row.apart_lt (fun g h => (ho.lt g h).1) (fun g h => (O_v4.out.lt g h).2))
      have A_v6_v5 := Lib.hid (Row.apart_lt (fun g h => (ho.lt g h).1) (fun g h => (O_v5.out.lt g h).2))
      replace ho := ho.mono BB.out.size
      replace C_aP := Lib.hid (C_aP.out.on hb)
      replace C_w0 := Lib.hid (C_w0.out.on hb)
      replace C_x0 := Lib.hid (C_x0.out.on hb)
      replace O_v3 := Lib.hid (O_v3.out.on hb)
      replace O_v4 := Lib.hid (O_v4.out.on hb)
      replace O_v5 := Lib.hid (O_v5.out.on hb)
      replace BB := Lib.hid (BB.out.trans (hb.mono BB.out.size))
      clear hb
      have O_v6 := Lib.hid ho; clear ho
      have hal := (Below.refl w8.heap.size w8).alloc (Nat.le_refl _) (.cells #[.slice x_v6 n_v6 c_v6] 27)
      replace C_aP := Lib.hid (C_aP.out.on hal)
      replace C_w0 := Lib.hid (C_w0.out.on hal)
      replace C_x0 := Lib.hid (C_x0.out.on hal)
      replace O_v3 := Lib.hid (O_v3.out.on hal)
      replace O_v4 := Lib.hid (O_v4.out.on hal)
      replace O_v5 := Lib.hid (O_v5.out.on hal)
      replace O_v6 := Lib.hid (O_v6.out.on hal)
      replace BB := Lib.hid (BB.out.trans (hal.mono BB.out.size))
      have C_g0 := Lib.hid (Ret.Box.new w8 (.slice x_v6 n_v6 c_v6) 27); clear hal
      have c_aP := C_aP.out.cell
      have c_w0 := C_w0.out.cell
      have c_x0 := C_x0.out.cell
      have c_g0 := C_g0.out.cell
      go_wp2_with fail
      clear c_aP c_w0 c_x0 c_g0
      refine (Row.sameN _ _ (Row.instN (l0) (l1)) _ (O_v6.out.holds) (O_v3.out.holds) (by first | omega | (simp; omega) | (simp [Row.marks_length, Row.mark2_length]; omega))).mono ?_
      rintro e w9 ⟨rfl, hb⟩
      replace C_aP := Lib.hid (C_aP.out.on hb)
      replace C_w0 := Lib.hid (C_w0.out.on hb)
      replace C_x0 := Lib.hid (C_x0.out.on hb)
      replace C_g0 := Lib.hid (C_g0.out.on hb)
      replace O_v3 := Lib.hid (O_v3.out.on hb)
      replace O_v4 := Lib.hid (O_v4.out.on hb)
      replace O_v5 := Lib.hid (O_v5.out.on hb)
      replace O_v6 := Lib.hid (O_v6.out.on hb)
      replace BB := Lib.hid (BB.out.trans (hb.mono BB.out.size))
      clear hb
      have c_aP := C_aP.out.cell
      have c_w0 := C_w0.out.cell
      have c_x0 := C_x0.out.cell
      have c_g0 := C_g0.out.cell
      go_wp2_with fail
      clear c_aP c_w0 c_x0 c_g0
      have hdr : Below w9.heap.size w9 w9.drew := (Below.refl _ _).drew
      replace C_aP := Lib.hid (C_aP.out.on hdr)
      replace C_w0 := Lib.hid (C_w0.out.on hdr)
      replace C_x0 := Lib.hid (C_x0.out.on hdr)
      replace C_g0 := Lib.hid (C_g0.out.on hdr)
      replace O_v3 := Lib.hid (O_v3.out.on hdr)
      replace O_v4 := Lib.hid (O_v4.out.on hdr)
      replace O_v5 := Lib.hid (O_v5.out.on hdr)
      replace O_v6 := Lib.hid (O_v6.out.on hdr)
      replace BB := Lib.hid (BB.out.trans (hdr.mono BB.out.size))
      clear hdr
      have KS := Lib.hid (show w9.drew.cell? ⟨w6.heap.size, 0, none⟩ = some (.slice x_v4 n_v4 c_v4) ∧ w9.drew.cell? ⟨w.heap.size, 0, none⟩ = some (.slice x0 k0 c0) ∧ Below w.heap.size w w9.drew from ⟨C_x0.out.cell, C_aP.out.cell, BB.out⟩)
      go_region_held3 (fun w' => w'.cell? ⟨w6.heap.size, 0, none⟩ = some (.slice x_v4 n_v4 c_v4) ∧ w'.cell? ⟨w.heap.size, 0, none⟩ = some (.slice x0 k0 c0) ∧ Below w.heap.size w w') (first | exact KS.out | exact Row.keepN2 KS.out hba | exact Row.keepN2 (Row.keepN2 KS.out hba) hbb) ((first | (go_at_call 35; refine (Row.toPattern _ l0 _ (Q0.out.on BB.out) (by omega)).mono ?_; rintro e w10 ⟨v7, rfl, hoa, hba⟩) | (go_at_call 36; refine (Row.sameP _ _ (l0) _ ((O_v4.out.holds).on hba) hoa.holds (by first | omega | (simp; omega) | (simp [Row.marks_length, Row.mark2_length]; omega))).mono ?_; rintro e w11 ⟨rfl, hbb⟩)))
      clear KS hoa
      replace C_aP := Lib.hid (C_aP.out.on hba)
      replace C_w0 := Lib.hid (C_w0.out.on hba)
      replace C_x0 := Lib.hid (C_x0.out.on hba)
      replace C_g0 := Lib.hid (C_g0.out.on hba)
      replace O_v3 := Lib.hid (O_v3.out.on hba)
      replace O_v4 := Lib.hid (O_v4.out.on hba)
      replace O_v5 := Lib.hid (O_v5.out.on hba)
      replace O_v6 := Lib.hid (O_v6.out.on hba)
      replace BB := Lib.hid (BB.out.trans (hba.mono BB.out.size))
      replace C_aP := Lib.hid (C_aP.out.on hbb)
      replace C_w0 := Lib.hid (C_w0.out.on hbb)
      replace C_x0 := Lib.hid (C_x0.out.on hbb)
      replace C_g0 := Lib.hid (C_g0.out.on hbb)
      replace O_v3 := Lib.hid (O_v3.out.on hbb)
      replace O_v4 := Lib.hid (O_v4.out.on hbb)
      replace O_v5 := Lib.hid (O_v5.out.on hbb)
      replace O_v6 := Lib.hid (O_v6.out.on hbb)
      replace BB := Lib.hid (BB.out.trans (hbb.mono BB.out.size))
      clear hba hbb
      have c_aP := C_aP.out.cell
      have c_w0 := C_w0.out.cell
      have c_x0 := C_x0.out.cell
      have c_g0 := C_g0.out.cell
      go_wp2_with fail
      clear c_aP c_w0 c_x0 c_g0
      refine (Row.toBindingS _ l1 _ (Q1.out.on BB.out) (by omega)).mono ?_
      rintro e w12 ⟨v8, rfl, ho, hb⟩
      obtain ⟨x_v8, n_v8, c_v8, rfl, e_v8, -, ho⟩ := ho.shapeN; clear e_v8
      have A_v8_v3 := Lib.hid (Row.apart_lt (fun g h => (ho.lt g h).1) (fun g h => (O_v3.out.lt g h).2))
      have A_v8_v4 := Lib.hid (Row.apart_lt (fun g h => (ho.lt g h).1) (fun g h => (O_v4.out.lt g h).2))
      have A_v8_v5 := Lib.hid (Row.apart_lt (fun g h => (ho.lt g h).1) (fun g h => (O_v5.out.lt g h).2))
      have A_v8_v6 := Lib.hid (Row.apart_lt (fun g h => (ho.lt g h).1) (fun g h => (O_v6.out.lt g h).2))
      replace ho := ho.mono BB.out.size
      replace C_aP := Lib.hid (C_aP.out.on hb)
      replace C_w0 := Lib.hid (C_w0.out.on hb)
      replace C_x0 := Lib.hid (C_x0.out.on hb)
      replace C_g0 := Lib.hid (C_g0.out.on hb)
      replace O_v3 := Lib.hid (O_v3.out.on hb)
      replace O_v4 := Lib.hid (O_v4.out.on hb)
      replace O_v5 := Lib.hid (O_v5.out.on hb)
      replace O_v6 := Lib.hid (O_v6.out.on hb)
      replace BB := Lib.hid (BB.out.trans (hb.mono BB.out.size))
      clear hb
      have O_v8 := Lib.hid ho; clear ho
      have c_aP := C_aP.out.cell
      have c_w0 := C_w0.out.cell
      have c_x0 := C_x0.out.cell
      have c_g0 := C_g0.out.cell
      go_wp2_with fail
      clear c_aP c_w0 c_x0 c_g0
      refine (Row.sameB _ _ (l1) _ (O_v5.out.holds) (O_v8.out.holds) (by first | omega | (simp; omega) | (simp [Row.marks_length, Row.mark2_length]; omega))).mono ?_
      rintro e w13 ⟨rfl, hb⟩
      replace C_aP := Lib.hid (C_aP.out.on hb)
      replace C_w0 := Lib.hid (C_w0.out.on hb)
      replace C_x0 := Lib.hid (C_x0.out.on hb)
      replace C_g0 := Lib.hid (C_g0.out.on hb)
      replace O_v3 := Lib.hid (O_v3.out.on hb)
      replace O_v4 := Lib.hid (O_v4.out.on hb)
      replace O_v5 := Lib.hid (O_v5.out.on hb)
      replace O_v6 := Lib.hid (O_v6.out.on hb)
      replace O_v8 := Lib.hid (O_v8.out.on hb)
      replace BB := Lib.hid (BB.out.trans (hb.mono BB.out.size))
      clear hb
      have c_aP := C_aP.out.cell
      have c_w0 := C_w0.out.cell
      have c_x0 := C_x0.out.cell
      have c_g0 := C_g0.out.cell
      go_wp2_with fail
      clear c_aP c_w0 c_x0 c_g0
      clear O_v8
      refine (Row.markPattern _ _ (l0) _ (1) O_v4.out (by first | omega | (simp; omega) | (simp [Row.marks_length, Row.mark2_length]; omega)) (by first | omega | (simp; omega) | (simp [Row.marks_length, Row.mark2_length]; omega)) (by first | omega | (simp; omega) | (simp [Row.marks_length, Row.mark2_length]; omega))).mono ?_
      rintro e w14 ⟨rfl, ho, hg⟩
      replace C_aP := Lib.hid (C_aP.out.grown hg (O_v4.out.notBox C_aP.out (by decide)))
      replace C_w0 := Lib.hid (C_w0.out.grown hg (O_v4.out.notBox C_w0.out (by decide)))
      replace C_x0 := Lib.hid (C_x0.out.grown hg (O_v4.out.notBox C_x0.out (by decide)))
      replace C_g0 := Lib.hid (C_g0.out.grown hg (O_v4.out.notBox C_g0.out (by decide)))
      replace O_v3 := Lib.hid (O_v3.out.grown hg (Row.apart_or (Row.Apart.symm A_v4_v3.out)))
      replace O_v5 := Lib.hid (O_v5.out.grown hg (Row.apart_or A_v5_v4.out))
      replace O_v6 := Lib.hid (O_v6.out.grown hg (Row.apart_or A_v6_v4.out))
      replace BB := Lib.hid (BB.out.grown hg (by have := BB.out.size; omega) (fun g hh => (O_v4.out.lt g hh).1))
      replace O_v4 := Lib.hid ho; clear ho hg
      have c_aP := C_aP.out.cell
      have c_w0 := C_w0.out.cell
      have c_x0 := C_x0.out.cell
      have c_g0 := C_g0.out.cell
      go_wp2_with fail
      clear c_aP c_w0 c_x0 c_g0
      refine (Row.markBindingS _ _ (l1) _ (1 + ((l0).length : Int)) O_v5.out (by first | omega | (simp; omega) | (simp [Row.marks_length, Row.mark2_length]; omega)) (by first | omega | (simp; omega) | (simp [Row.marks_length, Row.mark2_length]; omega)) (by first | omega | (simp; omega) | (simp [Row.marks_length, Row.mark2_length]; omega))).mono ?_
      rintro e w15 ⟨rfl, ho, hg⟩
      replace C_aP := Lib.hid (C_aP.out.grown hg (O_v5.out.notBox C_aP.out (by decide)))
      replace C_w0 := Lib.hid (C_w0.out.grown hg (O_v5.out.notBox C_w0.out (by decide)))
      replace C_x0 := Lib.hid (C_x0.out.grown hg (O_v5.out.notBox C_x0.out (by decide)))
      replace C_g0 := Lib.hid (C_g0.out.grown hg (O_v5.out.notBox C_g0.out (by decide)))
      replace O_v3 := Lib.hid (O_v3.out.grown hg (Row.apart_or (Row.Apart.symm A_v5_v3.out)))
      replace O_v4 := Lib.hid (O_v4.out.grown hg (Row.apart_or (Row.Apart.symm A_v5_v4.out)))
      replace O_v6 := Lib.hid (O_v6.out.grown hg (Row.apart_or A_v6_v5.out))
      replace BB := Lib.hid (BB.out.grown hg (by have := BB.out.size; omega) (fun g hh => (O_v5.out.lt g hh).1))
      replace O_v5 := Lib.hid ho; clear ho hg
      have c_aP := C_aP.out.cell
      have c_w0 := C_w0.out.cell
      have c_x0 := C_x0.out.cell
      have c_g0 := C_g0.out.cell
      go_wp2_with fail
      clear c_aP c_w0 c_x0 c_g0
      refine (Row.sameN _ _ (Row.instN (l0) (l1)) _ (O_v6.out.holds) (O_v3.out.holds) (by first | omega | (simp; omega) | (simp [Row.marks_length, Row.mark2_length]; omega))).mono ?_
      rintro e w16 ⟨rfl, hb⟩
      replace C_aP := Lib.hid (C_aP.out.on hb)
      replace C_w0 := Lib.hid (C_w0.out.on hb)
      replace C_x0 := Lib.hid (C_x0.out.on hb)
      replace C_g0 := Lib.hid (C_g0.out.on hb)
      replace O_v3 := Lib.hid (O_v3.out.on hb)
      replace O_v4 := Lib.hid (O_v4.out.on hb)
      replace O_v5 := Lib.hid (O_v5.out.on hb)
      replace O_v6 := Lib.hid (O_v6.out.on hb)
      replace BB := Lib.hid (BB.out.trans (hb.mono BB.out.size))
      clear hb
      have c_aP := C_aP.out.cell
      have c_w0 := C_w0.out.cell
      have c_x0 := C_x0.out.cell
      have c_g0 := C_g0.out.cell
      go_wp2_with fail
      clear c_aP c_w0 c_x0 c_g0
      refine (Row.markName _ _ (Row.instN (l0) (l1)) _ (1) O_v6.out (by first | omega | (simp; omega) | (simp [Row.marks_length, Row.mark2_length]; omega)) (by first | omega | (simp; omega) | (simp [Row.marks_length, Row.mark2_length]; omega)) (by first | omega | (simp; omega) | (simp [Row.marks_length, Row.mark2_length]; omega))).mono ?_
      rintro e w17 ⟨rfl, ho, hg⟩
      replace C_aP := Lib.hid (C_aP.out.grown hg (O_v6.out.notBox C_aP.out (by decide)))
      replace C_w0 := Lib.hid (C_w0.out.grown hg (O_v6.out.notBox C_w0.out (by decide)))
      replace C_x0 := Lib.hid (C_x0.out.grown hg (O_v6.out.notBox C_x0.out (by decide)))
      replace C_g0 := Lib.hid (C_g0.out.grown hg (O_v6.out.notBox C_g0.out (by decide)))
      replace O_v3 := Lib.hid (O_v3.out.grown hg (Row.apart_or (Row.Apart.symm A_v6_v3.out)))
      replace O_v4 := Lib.hid (O_v4.out.grown hg (Row.apart_or (Row.Apart.symm A_v6_v4.out)))
      replace O_v5 := Lib.hid (O_v5.out.grown hg (Row.apart_or (Row.Apart.symm A_v6_v5.out)))
      replace BB := Lib.hid (BB.out.grown hg (by have := BB.out.size; omega) (fun g hh => (O_v6.out.lt g hh).1))
      replace O_v6 := Lib.hid ho; clear ho hg
      have c_aP := C_aP.out.cell
      have c_w0 := C_w0.out.cell
      have c_x0 := C_x0.out.cell
      have c_g0 := C_g0.out.cell
      go_wp2_with fail
      clear c_aP c_w0 c_x0 c_g0
      refine (Row.heldName _ _ (1) (Row.instN (l0) (l1)).length (O_v6.out.holds) (by first | omega | (simp; omega) | (simp [Row.marks_length, Row.mark2_length]; omega)) (by first | omega | (simp; omega) | (simp [Row.marks_length, Row.mark2_length]; omega)) (by first | omega | (simp; omega) | (simp [Row.marks_length, Row.mark2_length]; omega))).mono ?_
      rintro e w18 ⟨rfl, hb⟩
      replace C_aP := Lib.hid (C_aP.out.on hb)
      replace C_w0 := Lib.hid (C_w0.out.on hb)
      replace C_x0 := Lib.hid (C_x0.out.on hb)
      replace C_g0 := Lib.hid (C_g0.out.on hb)
      replace O_v3 := Lib.hid (O_v3.out.on hb)
      replace O_v4 := Lib.hid (O_v4.out.on hb)
      replace O_v5 := Lib.hid (O_v5.out.on hb)
      replace O_v6 := Lib.hid (O_v6.out.on hb)
      replace BB := Lib.hid (BB.out.trans (hb.mono BB.out.size))
      clear hb
      have c_aP := C_aP.out.cell
      have c_w0 := C_w0.out.cell
      have c_x0 := C_x0.out.cell
      have c_g0 := C_g0.out.cell
      go_wp2_with fail
      clear c_aP c_w0 c_x0 c_g0
      refine (Row.toPattern _ l0 _ (Q0.out.on BB.out) (by omega)).mono ?_
      rintro e w19 ⟨v9, rfl, ho, hb⟩
      obtain ⟨x_v9, n_v9, c_v9, rfl, e_v9, -, ho⟩ := ho.shapeN; clear e_v9
      have A_v9_v3 := Lib.hid (Row.apart_lt (fun g h => (ho.lt g h).1) (fun g h => (O_v3.out.lt g h).2))
      have A_v9_v4 := Lib.hid (Row.apart_lt (fun g h => (ho.lt g h).1) (fun g h => (O_v4.out.lt g h).2))
      have A_v9_v5 := Lib.hid (Row.apart_lt (fun g h => (ho.lt g h).1) (fun g h => (O_v5.out.lt g h).2))
      have A_v9_v6 := Lib.hid (Row.apart_lt (fun g h => (ho.lt g h).1) (fun g h => (O_v6.out.lt g h).2))
      replace ho := ho.mono BB.out.size
      replace C_aP := Lib.hid (C_aP.out.on hb)
      replace C_w0 := Lib.hid (C_w0.out.on hb)
      replace C_x0 := Lib.hid (C_x0.out.on hb)
      replace C_g0 := Lib.hid (C_g0.out.on hb)
      replace O_v3 := Lib.hid (O_v3.out.on hb)
      replace O_v4 := Lib.hid (O_v4.out.on hb)
      replace O_v5 := Lib.hid (O_v5.out.on hb)
      replace O_v6 := Lib.hid (O_v6.out.on hb)
      replace BB := Lib.hid (BB.out.trans (hb.mono BB.out.size))
      clear hb
      have O_v9 := Lib.hid ho; clear ho
      have c_aP := C_aP.out.cell
      have c_w0 := C_w0.out.cell
      have c_x0 := C_x0.out.cell
      have c_g0 := C_g0.out.cell
      go_wp2_with fail
      clear c_aP c_w0 c_x0 c_g0
      refine (Row.toBindingS _ l1 _ (Q1.out.on BB.out) (by omega)).mono ?_
      rintro e w20 ⟨v10, rfl, ho, hb⟩
      obtain ⟨x_v10, n_v10, c_v10, rfl, e_v10, -, ho⟩ := ho.shapeN; clear e_v10
      have A_v10_v3 := Lib.hid (Row.apart_lt (fun g h => (ho.lt g h).1) (fun g h => (O_v3.out.lt g h).2))
      have A_v10_v4 := Lib.hid (Row.apart_lt (fun g h => (ho.lt g h).1) (fun g h => (O_v4.out.lt g h).2))
      have A_v10_v5 := Lib.hid (Row.apart_lt (fun g h => (ho.lt g h).1) (fun g h => (O_v5.out.lt g h).2))
      have A_v10_v6 := Lib.hid (Row.apart_lt (fun g h => (ho.lt g h).1) (fun g h => (O_v6.out.lt g h).2))
      have A_v10_v9 := Lib.hid (Row.apart_lt (fun g h => (ho.lt g h).1) (fun g h => (O_v9.out.lt g h).2))
      replace ho := ho.mono BB.out.size
      replace C_aP := Lib.hid (C_aP.out.on hb)
      replace C_w0 := Lib.hid (C_w0.out.on hb)
      replace C_x0 := Lib.hid (C_x0.out.on hb)
      replace C_g0 := Lib.hid (C_g0.out.on hb)
      replace O_v3 := Lib.hid (O_v3.out.on hb)
      replace O_v4 := Lib.hid (O_v4.out.on hb)
      replace O_v5 := Lib.hid (O_v5.out.on hb)
      replace O_v6 := Lib.hid (O_v6.out.on hb)
      replace O_v9 := Lib.hid (O_v9.out.on hb)
      replace BB := Lib.hid (BB.out.trans (hb.mono BB.out.size))
      clear hb
      have O_v10 := Lib.hid ho; clear ho
      have c_aP := C_aP.out.cell
      have c_w0 := C_w0.out.cell
      have c_x0 := C_x0.out.cell
      have c_g0 := C_g0.out.cell
      go_wp2_with fail
      clear c_aP c_w0 c_x0 c_g0
      have f3 := Row.instN_len (l0) (l1)
      refine (Row.implInstantiate _ _ (l0) (l1) _ (O_v9.out.holds) (O_v10.out.holds) (by omega) (by omega)).mono ?_
      rintro e w21 ⟨v11, rfl, ho, hb⟩
      obtain ⟨x_v11, n_v11, c_v11, rfl, e_v11, -, ho⟩ := ho.shapeN; clear e_v11
      have A_v11_v3 := Lib.hid (Row.apart_lt (fun g h => (ho.lt g h).1) (fun g h => (O_v3.out.lt g h).2))
      have A_v11_v4 := Lib.hid (Row.apart_lt (fun g h => (ho.lt g h).1) (fun g h => (O_v4.out.lt g h).2))
      have A_v11_v5 := Lib.hid (Row.apart_lt (fun g h => (ho.lt g h).1) (fun g h => (O_v5.out.lt g h).2))
      have A_v11_v6 := Lib.hid (Row.apart_lt (fun g h => (ho.lt g h).1) (fun g h => (O_v6.out.lt g h).2))
      have A_v11_v9 := Lib.hid (Row.apart_lt (fun g h => (ho.lt g h).1) (fun g h => (O_v9.out.lt g h).2))
      have A_v11_v10 := Lib.hid (Row.apart_lt (fun g h => (ho.lt g h).1) (fun g h => (O_v10.out.lt g h).2))
      replace ho := ho.mono BB.out.size
      replace C_aP := Lib.hid (C_aP.out.on hb)
      replace C_w0 := Lib.hid (C_w0.out.on hb)
      replace C_x0 := Lib.hid (C_x0.out.on hb)
      replace C_g0 := Lib.hid (C_g0.out.on hb)
      replace O_v3 := Lib.hid (O_v3.out.on hb)
      replace O_v4 := Lib.hid (O_v4.out.on hb)
      replace O_v5 := Lib.hid (O_v5.out.on hb)
      replace O_v6 := Lib.hid (O_v6.out.on hb)
      replace O_v9 := Lib.hid (O_v9.out.on hb)
      replace O_v10 := Lib.hid (O_v10.out.on hb)
      replace BB := Lib.hid (BB.out.trans (hb.mono BB.out.size))
      clear hb
      have O_v11 := Lib.hid ho; clear ho
      have hal := (Below.refl w21.heap.size w21).alloc (Nat.le_refl _) (.cells #[.slice x_v11 n_v11 c_v11] 27)
      replace C_aP := Lib.hid (C_aP.out.on hal)
      replace C_w0 := Lib.hid (C_w0.out.on hal)
      replace C_x0 := Lib.hid (C_x0.out.on hal)
      replace C_g0 := Lib.hid (C_g0.out.on hal)
      replace O_v3 := Lib.hid (O_v3.out.on hal)
      replace O_v4 := Lib.hid (O_v4.out.on hal)
      replace O_v5 := Lib.hid (O_v5.out.on hal)
      replace O_v6 := Lib.hid (O_v6.out.on hal)
      replace O_v9 := Lib.hid (O_v9.out.on hal)
      replace O_v10 := Lib.hid (O_v10.out.on hal)
      replace O_v11 := Lib.hid (O_v11.out.on hal)
      replace BB := Lib.hid (BB.out.trans (hal.mono BB.out.size))
      have C_h0 := Lib.hid (Ret.Box.new w21 (.slice x_v11 n_v11 c_v11) 27); clear hal
      have c_aP := C_aP.out.cell
      have c_w0 := C_w0.out.cell
      have c_x0 := C_x0.out.cell
      have c_g0 := C_g0.out.cell
      have c_h0 := C_h0.out.cell
      go_wp2_with fail
      clear c_aP c_w0 c_x0 c_g0 c_h0
      clear O_v9
      clear O_v10
      refine (Row.sameN _ _ (Row.instN (l0) (l1)) _ (O_v11.out.holds) (O_v3.out.holds) (by first | omega | (simp; omega) | (simp [Row.marks_length, Row.mark2_length]; omega))).mono ?_
      rintro e w22 ⟨rfl, hb⟩
      replace C_aP := Lib.hid (C_aP.out.on hb)
      replace C_w0 := Lib.hid (C_w0.out.on hb)
      replace C_x0 := Lib.hid (C_x0.out.on hb)
      replace C_g0 := Lib.hid (C_g0.out.on hb)
      replace C_h0 := Lib.hid (C_h0.out.on hb)
      replace O_v3 := Lib.hid (O_v3.out.on hb)
      replace O_v4 := Lib.hid (O_v4.out.on hb)
      replace O_v5 := Lib.hid (O_v5.out.on hb)
      replace O_v6 := Lib.hid (O_v6.out.on hb)
      replace O_v11 := Lib.hid (O_v11.out.on hb)
      replace BB := Lib.hid (BB.out.trans (hb.mono BB.out.size))
      clear hb
      have c_aP := C_aP.out.cell
      have c_w0 := C_w0.out.cell
      have c_x0 := C_x0.out.cell
      have c_g0 := C_g0.out.cell
      have c_h0 := C_h0.out.cell
      go_wp2_with fail
      clear c_aP c_w0 c_x0 c_g0 c_h0
      refine (Row.heldName _ _ (1) (Row.instN (l0) (l1)).length (O_v6.out.holds) (by first | omega | (simp; omega) | (simp [Row.marks_length, Row.mark2_length]; omega)) (by first | omega | (simp; omega) | (simp [Row.marks_length, Row.mark2_length]; omega)) (by first | omega | (simp; omega) | (simp [Row.marks_length, Row.mark2_length]; omega))).mono ?_
      rintro e w23 ⟨rfl, hb⟩
      replace C_aP := Lib.hid (C_aP.out.on hb)
      replace C_w0 := Lib.hid (C_w0.out.on hb)
      replace C_x0 := Lib.hid (C_x0.out.on hb)
      replace C_g0 := Lib.hid (C_g0.out.on hb)
      replace C_h0 := Lib.hid (C_h0.out.on hb)
      replace O_v3 := Lib.hid (O_v3.out.on hb)
      replace O_v4 := Lib.hid (O_v4.out.on hb)
      replace O_v5 := Lib.hid (O_v5.out.on hb)
      replace O_v6 := Lib.hid (O_v6.out.on hb)
      replace O_v11 := Lib.hid (O_v11.out.on hb)
      replace BB := Lib.hid (BB.out.trans (hb.mono BB.out.size))
      clear hb
      have c_aP := C_aP.out.cell
      have c_w0 := C_w0.out.cell
      have c_x0 := C_x0.out.cell
      have c_g0 := C_g0.out.cell
      have c_h0 := C_h0.out.cell
      go_wp2_with fail
      clear c_aP c_w0 c_x0 c_g0 c_h0
      go_ret
      exact ⟨rfl, BB.out⟩
    · -- out
      rw [Row.szL2_not (by omega)]
      have c_aP := C_aP.out.cell
      go_wp2
      go_ret
      exact ⟨rfl, BB.out⟩
  · -- out
    rw [Row.szL_not (by omega)]
    have c_aP := C_aP.out.cell
    go_wp2
    go_ret
    exact ⟨rfl, BB.out⟩

set_option maxRecDepth 100000 in
theorem lifted (os : Os) (started : os.Started) (H : Type) (enc : TypeId × Value → H) :
    ReturnsInHanded {} Try.checked os 10 .any (Rows.fnExactInstantiateSpec.pre6 enc Try.prog Try.f10 Rows.fnExactInstantiateRow.domain false) (Rows.fnExactInstantiateSpec.post enc Try.prog Try.f10 false true false false) := by
  refine returnsInHanded_of_change_sized (C := Try.checked) own started (by kernel_rfl) Try.func10
    (ChangeSpec.witness6 (enc := enc) (C := Try.checked) false ⟨#[], #[.agg #[.slice none 0 0], .slice none 0 0], []⟩ 8 (by kernel_rfl) (by kernel_rfl) (by kernel_rfl) (by kernel_rfl)) ?_
  intro W base args ds gs before hval0 hW _ hsz0 _
  have hval : ∀ (j : Nat) t v, Try.f10.params[j]? = some t → args[j]? = some v → Value.okWide Try.prog W .any base t v := hval0
  have hsz : (DataW.weightsEach Try.prog (Try.f10.params.toList ++ Rows.fnExactInstantiateSpec.plain.varTypes Try.prog) (ds ++ gs)).all (· ≤ reachBytes) = true := hsz0
  clear hsz0
  have hW' := hW
  obtain ⟨p, q, hA0, hV, rfl, hfz, hnd⟩ := hW
  have hA : DataW.TrodAll enc Try.prog W 0 (fun _ => true) true Try.f10.params.toList args.toList ds p := hA0
  rw [Try.params10] at hA hval hsz
  obtain ⟨v0, vs0, d0, ds0, p0, q0, hargs, rfl, rfl, h0, r0⟩ := trodAll_cons hA
  obtain ⟨v1, vs1, d1, ds1, p1, q1, rfl, rfl, rfl, h1, r1⟩ := trodAll_cons r0
  obtain ⟨rfl, rfl, rfl⟩ := trodAll_nil r1
  obtain rfl : args = #[v0, v1] := by cases args; simp_all
  obtain ⟨rfl, rfl⟩ := trodVars_none hV
  obtain ⟨y0, l0, rfl, q0, n0, m0⟩ := Row.open_name (t := 51) (e := 24) (s := 9) Try.underlying51 rfl rfl (by kernel_rfl) (by kernel_rfl) Try.underlying24 Try.underlying9 (by kernel_rfl) (hval 0 51 v0 rfl rfl) h0
  obtain ⟨l1, q1, n1, m1⟩ := Row.open_binds (t := 57) (e := 95) Try.underlying57 Try.underlying95 Try.underlying9 Try.underlying9 rfl rfl (by kernel_rfl) (by kernel_rfl) (by kernel_rfl) (hval 1 57 v1 rfl rfl) h1
  clear hA0 hval0
  refine (walk W _ _ q0 n0 m0 _ _ q1 n1 m1).mono fun e W' ⟨he, hb⟩ => ?_
  subst he
  exact ⟨_, rfl, Frame.law_post laidOut (by kernel_rfl) rfl Try.underlying4 rfl rfl hW' hb⟩

theorem said : Rows.FnExactInstantiateSaid :=
  OpenClaim.holds_of_wide 10 Try.f10 rfl rfl rfl rfl rfl rfl rfl ⟨rfl, rfl, rfl, rfl, rfl⟩ rfl rfl rfl rfl rfl (by kernel_rfl) Try.func10 (by kernel_rfl)
    (of_decide_eq_true (by kernel_rfl)) (by unfold Func.isWrapper; first | (rw [if_pos (by decide +kernel)]; kernel_rfl) | (rw [if_neg (by decide +kernel)]; exact ⟨rfl, rfl⟩))
    (fun os started H enc _ => lifted os started H enc)

#print axioms said
end Go.Proofs.Ytoibmgnmnmeklaa.fnExactInstantiate
