/- AppendPart answers as its model for every name and string, writes into no argument, and its answer owns its memory. No conditions. -/
import Derived.Test.YtnhfdgjbbjogmaaRows
import Derived.WalkKit
import Derived.ProofKit
import Derived.OpenShut
import Derived.SizedLaws
import Derived.Test.YtnhfdgjbbjogmaaFrame
import Derived.Test.YtnhfdgjbbjogmaaAppP
import Derived.Test.YtnhfdgjbbjogmaaNameLaw
namespace Go.Proofs.Ytnhfdgjbbjogmaa.fnExactAppendPart
open Go.ChangeShapes Go.WideShapes Go.ChangeAt Go.RowKit
open Go.ChangeMaps (open_string shut_string)
set_option linter.unusedVariables false

theorem own : ownKnob Try.prog.godebug = none := by kernel_rfl
theorem laidOut : laidOutB Try.prog = true := by kernel_rfl

set_option maxRecDepth 100000 in
set_option maxHeartbeats 4000000 in
theorem walk (s1 : ByteArray) (l1 : s1.size ≤ 140737488351232) (w : World) (y0 : Value) (l0 : List ByteArray) (q0 : Row.Holds Value.string w y0 l0) (n0 : ∀ x ∈ l0, x.size ≤ maxLen) (m0 : l0.length ≤ 9223372036854775807) :
    Calls Try.prog 13 #[.agg #[y0], .string s1] w fun e w' => e = .returned (.bool true) ∧ Below w.heap.size w w' := by
  obtain ⟨x0, k0, c0, rfl, e0, -, q0⟩ := q0.shapeN; clear e0
  have Q0 := Lib.hid q0; have N0 := Lib.hid n0; clear q0 n0
  by_cases t1 : s1.size ≤ 1048576
  · -- in
    have hal := (Below.refl w.heap.size w).alloc (Nat.le_refl _) (.cells #[.slice x0 k0 c0] 44)
    have BB := Lib.hid hal
    have C_aN := Lib.hid (Ret.Box.new' (w := w) (.slice x0 k0 c0) 44 (n := w.heap.size) (by first | rfl | simp)); clear hal
    go_enter Try.func13, Try.ntmps13
    have c_aN := C_aN.out.cell
    go_wp2_with fail
    clear c_aN
    refine (Row.szName _ l0 _ (1048576) (Q0.out.on BB.out) m0 N0.out (by omega) (by omega)).mono ?_
    rintro e w1 ⟨rfl, hb⟩
    replace C_aN := Lib.hid (C_aN.out.on hb)
    replace BB := Lib.hid (BB.out.trans (hb.mono BB.out.size))
    clear hb
    by_cases t0 : (Row.bulk l0 : Int) ≤ 1048576
    · -- in
      rw [Row.szL_fit t0]
      have b0 : Row.bulk l0 ≤ 1048576 := by omega
      have d0 : l0.length ≤ 1048576 := Row.bigLen b0
      have g0 : ¬ 1048576 - (Row.bulk l0 : Int) < 0 := by omega
      have c_aN := C_aN.out.cell
      go_wp2_with fail
      clear c_aN
      refine (Row.toName _ l0 _ (Q0.out.on BB.out) (by omega)).mono ?_
      rintro e w2 ⟨v1, rfl, ho, hb⟩
      obtain ⟨x_v1, n_v1, c_v1, rfl, e_v1, -, ho⟩ := ho.shapeN; clear e_v1
      replace ho := ho.mono BB.out.size
      replace C_aN := Lib.hid (C_aN.out.on hb)
      replace BB := Lib.hid (BB.out.trans (hb.mono BB.out.size))
      clear hb
      have O_v1 := Lib.hid ho; clear ho
      have c_aN := C_aN.out.cell
      go_wp2_with fail
      clear c_aN
      have f1 := Row.appN_len (l0) s1
      refine (Row.specAppendPart _ (l0) s1 _ (O_v1.out.holds) (by omega) (by omega)).mono ?_
      rintro e w3 ⟨v2, rfl, ho, hb⟩
      obtain ⟨x_v2, n_v2, c_v2, rfl, e_v2, -, ho⟩ := ho.shapeN; clear e_v2
      have A_v2_v1 := Lib.hid (Row.apart_new ho O_v1.out)
      replace ho := ho.mono BB.out.size
      replace C_aN := Lib.hid (C_aN.out.on hb)
      replace O_v1 := Lib.hid (O_v1.out.on hb)
      replace BB := Lib.hid (BB.out.trans (hb.mono BB.out.size))
      clear hb
      have O_v2 := Lib.hid ho; clear ho
      have hal := (Below.refl w3.heap.size w3).alloc (Nat.le_refl _) (.cells #[.slice x_v2 n_v2 c_v2] 26)
      replace C_aN := Lib.hid (C_aN.out.on hal)
      replace O_v1 := Lib.hid (O_v1.out.on hal)
      replace O_v2 := Lib.hid (O_v2.out.on hal)
      replace BB := Lib.hid (BB.out.trans (hal.mono BB.out.size))
      have C_w0 := Lib.hid (Ret.Box.new w3 (.slice x_v2 n_v2 c_v2) 26); clear hal
      have c_aN := C_aN.out.cell
      have c_w0 := C_w0.out.cell
      go_wp2_with fail
      clear c_aN c_w0
      clear O_v1
      refine (Row.toName _ l0 _ (Q0.out.on BB.out) (by omega)).mono ?_
      rintro e w4 ⟨v3, rfl, ho, hb⟩
      obtain ⟨x_v3, n_v3, c_v3, rfl, e_v3, -, ho⟩ := ho.shapeN; clear e_v3
      have A_v3_v2 := Lib.hid (Row.apart_new ho O_v2.out)
      replace ho := ho.mono BB.out.size
      replace C_aN := Lib.hid (C_aN.out.on hb)
      replace C_w0 := Lib.hid (C_w0.out.on hb)
      replace O_v2 := Lib.hid (O_v2.out.on hb)
      replace BB := Lib.hid (BB.out.trans (hb.mono BB.out.size))
      clear hb
      have O_v3 := Lib.hid ho; clear ho
      have hal := (Below.refl w4.heap.size w4).alloc (Nat.le_refl _) (.cells #[.slice x_v3 n_v3 c_v3] 26)
      replace C_aN := Lib.hid (C_aN.out.on hal)
      replace C_w0 := Lib.hid (C_w0.out.on hal)
      replace O_v2 := Lib.hid (O_v2.out.on hal)
      replace O_v3 := Lib.hid (O_v3.out.on hal)
      replace BB := Lib.hid (BB.out.trans (hal.mono BB.out.size))
      have C_x0 := Lib.hid (Ret.Box.new w4 (.slice x_v3 n_v3 c_v3) 26); clear hal
      have c_aN := C_aN.out.cell
      have c_w0 := C_w0.out.cell
      have c_x0 := C_x0.out.cell
      go_wp2_with fail
      clear c_aN c_w0 c_x0
      have f2 := Row.appN_len (l0) s1
      refine (Row.implAppendPart _ (l0) s1 _ (O_v3.out.holds) (by omega) (by omega)).mono ?_
      rintro e w5 ⟨v4, rfl, ho, hb⟩
      obtain ⟨x_v4, n_v4, c_v4, rfl, e_v4, -, ho⟩ := ho.shapeN; clear e_v4
      have A_v4_v2 := Lib.hid (Row.apart_new ho O_v2.out)
      have A_v4_v3 := Lib.hid (Row.apart_new ho O_v3.out)
      replace ho := ho.mono BB.out.size
      replace C_aN := Lib.hid (C_aN.out.on hb)
      replace C_w0 := Lib.hid (C_w0.out.on hb)
      replace C_x0 := Lib.hid (C_x0.out.on hb)
      replace O_v2 := Lib.hid (O_v2.out.on hb)
      replace O_v3 := Lib.hid (O_v3.out.on hb)
      replace BB := Lib.hid (BB.out.trans (hb.mono BB.out.size))
      clear hb
      have O_v4 := Lib.hid ho; clear ho
      have hal := (Below.refl w5.heap.size w5).alloc (Nat.le_refl _) (.cells #[.slice x_v4 n_v4 c_v4] 26)
      replace C_aN := Lib.hid (C_aN.out.on hal)
      replace C_w0 := Lib.hid (C_w0.out.on hal)
      replace C_x0 := Lib.hid (C_x0.out.on hal)
      replace O_v2 := Lib.hid (O_v2.out.on hal)
      replace O_v3 := Lib.hid (O_v3.out.on hal)
      replace O_v4 := Lib.hid (O_v4.out.on hal)
      replace BB := Lib.hid (BB.out.trans (hal.mono BB.out.size))
      have C_g0 := Lib.hid (Ret.Box.new w5 (.slice x_v4 n_v4 c_v4) 26); clear hal
      have c_aN := C_aN.out.cell
      have c_w0 := C_w0.out.cell
      have c_x0 := C_x0.out.cell
      have c_g0 := C_g0.out.cell
      go_wp2_with fail
      clear c_aN c_w0 c_x0 c_g0
      refine (Row.sameN _ _ (Row.appN (l0) s1) _ (O_v4.out.holds) (O_v2.out.holds) (by first | omega | (simp; omega) | (simp [Row.marks_length]; omega))).mono ?_
      rintro e w6 ⟨rfl, hb⟩
      replace C_aN := Lib.hid (C_aN.out.on hb)
      replace C_w0 := Lib.hid (C_w0.out.on hb)
      replace C_x0 := Lib.hid (C_x0.out.on hb)
      replace C_g0 := Lib.hid (C_g0.out.on hb)
      replace O_v2 := Lib.hid (O_v2.out.on hb)
      replace O_v3 := Lib.hid (O_v3.out.on hb)
      replace O_v4 := Lib.hid (O_v4.out.on hb)
      replace BB := Lib.hid (BB.out.trans (hb.mono BB.out.size))
      clear hb
      have c_aN := C_aN.out.cell
      have c_w0 := C_w0.out.cell
      have c_x0 := C_x0.out.cell
      have c_g0 := C_g0.out.cell
      go_wp2_with fail
      clear c_aN c_w0 c_x0 c_g0
      have hdr : Below w6.heap.size w6 w6.drew := (Below.refl _ _).drew
      replace C_aN := Lib.hid (C_aN.out.on hdr)
      replace C_w0 := Lib.hid (C_w0.out.on hdr)
      replace C_x0 := Lib.hid (C_x0.out.on hdr)
      replace C_g0 := Lib.hid (C_g0.out.on hdr)
      replace O_v2 := Lib.hid (O_v2.out.on hdr)
      replace O_v3 := Lib.hid (O_v3.out.on hdr)
      replace O_v4 := Lib.hid (O_v4.out.on hdr)
      replace BB := Lib.hid (BB.out.trans (hdr.mono BB.out.size))
      clear hdr
      have KS := Lib.hid (show w6.drew.cell? ⟨w4.heap.size, 0, none⟩ = some (.slice x_v3 n_v3 c_v3) ∧ w6.drew.cell? ⟨w.heap.size, 0, none⟩ = some (.slice x0 k0 c0) ∧ Below w.heap.size w w6.drew from ⟨C_x0.out.cell, C_aN.out.cell, BB.out⟩)
      go_region_held3 (fun w' => w'.cell? ⟨w4.heap.size, 0, none⟩ = some (.slice x_v3 n_v3 c_v3) ∧ w'.cell? ⟨w.heap.size, 0, none⟩ = some (.slice x0 k0 c0) ∧ Below w.heap.size w w') (first | exact KS.out | exact Row.keep2 KS.out hba | exact Row.keep2 (Row.keep2 KS.out hba) hbb) ((first | (go_at_call 41; refine (Row.toName _ l0 _ (Q0.out.on BB.out) (by omega)).mono ?_; rintro e w7 ⟨v5, rfl, hoa, hba⟩) | (go_at_call 42; refine (Row.sameN _ _ (l0) _ ((O_v3.out.holds).on hba) hoa.holds (by first | omega | (simp; omega) | (simp [Row.marks_length]; omega))).mono ?_; rintro e w8 ⟨rfl, hbb⟩)))
      clear KS hoa
      replace C_aN := Lib.hid (C_aN.out.on hba)
      replace C_w0 := Lib.hid (C_w0.out.on hba)
      replace C_x0 := Lib.hid (C_x0.out.on hba)
      replace C_g0 := Lib.hid (C_g0.out.on hba)
      replace O_v2 := Lib.hid (O_v2.out.on hba)
      replace O_v3 := Lib.hid (O_v3.out.on hba)
      replace O_v4 := Lib.hid (O_v4.out.on hba)
      replace BB := Lib.hid (BB.out.trans (hba.mono BB.out.size))
      replace C_aN := Lib.hid (C_aN.out.on hbb)
      replace C_w0 := Lib.hid (C_w0.out.on hbb)
      replace C_x0 := Lib.hid (C_x0.out.on hbb)
      replace C_g0 := Lib.hid (C_g0.out.on hbb)
      replace O_v2 := Lib.hid (O_v2.out.on hbb)
      replace O_v3 := Lib.hid (O_v3.out.on hbb)
      replace O_v4 := Lib.hid (O_v4.out.on hbb)
      replace BB := Lib.hid (BB.out.trans (hbb.mono BB.out.size))
      clear hba hbb
      have c_aN := C_aN.out.cell
      have c_w0 := C_w0.out.cell
      have c_x0 := C_x0.out.cell
      have c_g0 := C_g0.out.cell
      go_wp2_with fail
      clear c_aN c_w0 c_x0 c_g0
      refine (Row.markName _ _ (l0) _ (1) O_v3.out (by first | omega | (simp; omega) | (simp [Row.marks_length]; omega)) (by first | omega | (simp; omega) | (simp [Row.marks_length]; omega)) (by first | omega | (simp; omega) | (simp [Row.marks_length]; omega))).mono ?_
      rintro e w9 ⟨rfl, ho, hg⟩
      replace C_aN := Lib.hid (C_aN.out.grown hg (Row.Own.notBox O_v3.out C_aN.out (by decide)))
      replace C_w0 := Lib.hid (C_w0.out.grown hg (Row.Own.notBox O_v3.out C_w0.out (by decide)))
      replace C_x0 := Lib.hid (C_x0.out.grown hg (Row.Own.notBox O_v3.out C_x0.out (by decide)))
      replace C_g0 := Lib.hid (C_g0.out.grown hg (Row.Own.notBox O_v3.out C_g0.out (by decide)))
      replace O_v2 := Lib.hid (Row.Own.grown O_v2.out hg (Row.apart_or (Row.Apart.symm A_v3_v2.out)))
      replace O_v4 := Lib.hid (Row.Own.grown O_v4.out hg (Row.apart_or A_v4_v3.out))
      replace BB := Lib.hid (BB.out.grown hg (by have := BB.out.size; omega) (fun g hh => (O_v3.out.lt g hh).1))
      replace O_v3 := Lib.hid ho; clear ho hg
      have c_aN := C_aN.out.cell
      have c_w0 := C_w0.out.cell
      have c_x0 := C_x0.out.cell
      have c_g0 := C_g0.out.cell
      go_wp2_with fail
      clear c_aN c_w0 c_x0 c_g0
      refine (Row.sameN _ _ (Row.appN (l0) s1) _ (O_v4.out.holds) (O_v2.out.holds) (by first | omega | (simp; omega) | (simp [Row.marks_length]; omega))).mono ?_
      rintro e w10 ⟨rfl, hb⟩
      replace C_aN := Lib.hid (C_aN.out.on hb)
      replace C_w0 := Lib.hid (C_w0.out.on hb)
      replace C_x0 := Lib.hid (C_x0.out.on hb)
      replace C_g0 := Lib.hid (C_g0.out.on hb)
      replace O_v2 := Lib.hid (O_v2.out.on hb)
      replace O_v3 := Lib.hid (O_v3.out.on hb)
      replace O_v4 := Lib.hid (O_v4.out.on hb)
      replace BB := Lib.hid (BB.out.trans (hb.mono BB.out.size))
      clear hb
      have c_aN := C_aN.out.cell
      have c_w0 := C_w0.out.cell
      have c_x0 := C_x0.out.cell
      have c_g0 := C_g0.out.cell
      go_wp2_with fail
      clear c_aN c_w0 c_x0 c_g0
      refine (Row.markName _ _ (Row.appN (l0) s1) _ (1) O_v4.out (by first | omega | (simp; omega) | (simp [Row.marks_length]; omega)) (by first | omega | (simp; omega) | (simp [Row.marks_length]; omega)) (by first | omega | (simp; omega) | (simp [Row.marks_length]; omega))).mono ?_
      rintro e w11 ⟨rfl, ho, hg⟩
      replace C_aN := Lib.hid (C_aN.out.grown hg (Row.Own.notBox O_v4.out C_aN.out (by decide)))
      replace C_w0 := Lib.hid (C_w0.out.grown hg (Row.Own.notBox O_v4.out C_w0.out (by decide)))
      replace C_x0 := Lib.hid (C_x0.out.grown hg (Row.Own.notBox O_v4.out C_x0.out (by decide)))
      replace C_g0 := Lib.hid (C_g0.out.grown hg (Row.Own.notBox O_v4.out C_g0.out (by decide)))
      replace O_v2 := Lib.hid (Row.Own.grown O_v2.out hg (Row.apart_or (Row.Apart.symm A_v4_v2.out)))
      replace O_v3 := Lib.hid (Row.Own.grown O_v3.out hg (Row.apart_or (Row.Apart.symm A_v4_v3.out)))
      replace BB := Lib.hid (BB.out.grown hg (by have := BB.out.size; omega) (fun g hh => (O_v4.out.lt g hh).1))
      replace O_v4 := Lib.hid ho; clear ho hg
      have c_aN := C_aN.out.cell
      have c_w0 := C_w0.out.cell
      have c_x0 := C_x0.out.cell
      have c_g0 := C_g0.out.cell
      go_wp2_with fail
      clear c_aN c_w0 c_x0 c_g0
      refine (Row.heldName _ _ (1) (Row.appN (l0) s1).length (O_v4.out.holds) (by first | omega | (simp; omega) | (simp [Row.marks_length]; omega)) (by first | omega | (simp; omega) | (simp [Row.marks_length]; omega)) (by first | omega | (simp; omega) | (simp [Row.marks_length]; omega))).mono ?_
      rintro e w12 ⟨rfl, hb⟩
      replace C_aN := Lib.hid (C_aN.out.on hb)
      replace C_w0 := Lib.hid (C_w0.out.on hb)
      replace C_x0 := Lib.hid (C_x0.out.on hb)
      replace C_g0 := Lib.hid (C_g0.out.on hb)
      replace O_v2 := Lib.hid (O_v2.out.on hb)
      replace O_v3 := Lib.hid (O_v3.out.on hb)
      replace O_v4 := Lib.hid (O_v4.out.on hb)
      replace BB := Lib.hid (BB.out.trans (hb.mono BB.out.size))
      clear hb
      have c_aN := C_aN.out.cell
      have c_w0 := C_w0.out.cell
      have c_x0 := C_x0.out.cell
      have c_g0 := C_g0.out.cell
      go_wp2_with fail
      clear c_aN c_w0 c_x0 c_g0
      refine (Row.toName _ l0 _ (Q0.out.on BB.out) (by omega)).mono ?_
      rintro e w13 ⟨v6, rfl, ho, hb⟩
      obtain ⟨x_v6, n_v6, c_v6, rfl, e_v6, -, ho⟩ := ho.shapeN; clear e_v6
      have A_v6_v2 := Lib.hid (Row.apart_new ho O_v2.out)
      have A_v6_v3 := Lib.hid (Row.apart_new ho O_v3.out)
      have A_v6_v4 := Lib.hid (Row.apart_new ho O_v4.out)
      replace ho := ho.mono BB.out.size
      replace C_aN := Lib.hid (C_aN.out.on hb)
      replace C_w0 := Lib.hid (C_w0.out.on hb)
      replace C_x0 := Lib.hid (C_x0.out.on hb)
      replace C_g0 := Lib.hid (C_g0.out.on hb)
      replace O_v2 := Lib.hid (O_v2.out.on hb)
      replace O_v3 := Lib.hid (O_v3.out.on hb)
      replace O_v4 := Lib.hid (O_v4.out.on hb)
      replace BB := Lib.hid (BB.out.trans (hb.mono BB.out.size))
      clear hb
      have O_v6 := Lib.hid ho; clear ho
      have c_aN := C_aN.out.cell
      have c_w0 := C_w0.out.cell
      have c_x0 := C_x0.out.cell
      have c_g0 := C_g0.out.cell
      go_wp2_with fail
      clear c_aN c_w0 c_x0 c_g0
      have f3 := Row.appN_len (l0) s1
      refine (Row.implAppendPart _ (l0) s1 _ (O_v6.out.holds) (by omega) (by omega)).mono ?_
      rintro e w14 ⟨v7, rfl, ho, hb⟩
      obtain ⟨x_v7, n_v7, c_v7, rfl, e_v7, -, ho⟩ := ho.shapeN; clear e_v7
      have A_v7_v2 := Lib.hid (Row.apart_new ho O_v2.out)
      have A_v7_v3 := Lib.hid (Row.apart_new ho O_v3.out)
      have A_v7_v4 := Lib.hid (Row.apart_new ho O_v4.out)
      have A_v7_v6 := Lib.hid (Row.apart_new ho O_v6.out)
      replace ho := ho.mono BB.out.size
      replace C_aN := Lib.hid (C_aN.out.on hb)
      replace C_w0 := Lib.hid (C_w0.out.on hb)
      replace C_x0 := Lib.hid (C_x0.out.on hb)
      replace C_g0 := Lib.hid (C_g0.out.on hb)
      replace O_v2 := Lib.hid (O_v2.out.on hb)
      replace O_v3 := Lib.hid (O_v3.out.on hb)
      replace O_v4 := Lib.hid (O_v4.out.on hb)
      replace O_v6 := Lib.hid (O_v6.out.on hb)
      replace BB := Lib.hid (BB.out.trans (hb.mono BB.out.size))
      clear hb
      have O_v7 := Lib.hid ho; clear ho
      have hal := (Below.refl w14.heap.size w14).alloc (Nat.le_refl _) (.cells #[.slice x_v7 n_v7 c_v7] 26)
      replace C_aN := Lib.hid (C_aN.out.on hal)
      replace C_w0 := Lib.hid (C_w0.out.on hal)
      replace C_x0 := Lib.hid (C_x0.out.on hal)
      replace C_g0 := Lib.hid (C_g0.out.on hal)
      replace O_v2 := Lib.hid (O_v2.out.on hal)
      replace O_v3 := Lib.hid (O_v3.out.on hal)
      replace O_v4 := Lib.hid (O_v4.out.on hal)
      replace O_v6 := Lib.hid (O_v6.out.on hal)
      replace O_v7 := Lib.hid (O_v7.out.on hal)
      replace BB := Lib.hid (BB.out.trans (hal.mono BB.out.size))
      have C_h0 := Lib.hid (Ret.Box.new w14 (.slice x_v7 n_v7 c_v7) 26); clear hal
      have c_aN := C_aN.out.cell
      have c_w0 := C_w0.out.cell
      have c_x0 := C_x0.out.cell
      have c_g0 := C_g0.out.cell
      have c_h0 := C_h0.out.cell
      go_wp2_with fail
      clear c_aN c_w0 c_x0 c_g0 c_h0
      clear O_v6
      refine (Row.sameN _ _ (Row.appN (l0) s1) _ (O_v7.out.holds) (O_v2.out.holds) (by first | omega | (simp; omega) | (simp [Row.marks_length]; omega))).mono ?_
      rintro e w15 ⟨rfl, hb⟩
      replace C_aN := Lib.hid (C_aN.out.on hb)
      replace C_w0 := Lib.hid (C_w0.out.on hb)
      replace C_x0 := Lib.hid (C_x0.out.on hb)
      replace C_g0 := Lib.hid (C_g0.out.on hb)
      replace C_h0 := Lib.hid (C_h0.out.on hb)
      replace O_v2 := Lib.hid (O_v2.out.on hb)
      replace O_v3 := Lib.hid (O_v3.out.on hb)
      replace O_v4 := Lib.hid (O_v4.out.on hb)
      replace O_v7 := Lib.hid (O_v7.out.on hb)
      replace BB := Lib.hid (BB.out.trans (hb.mono BB.out.size))
      clear hb
      have c_aN := C_aN.out.cell
      have c_w0 := C_w0.out.cell
      have c_x0 := C_x0.out.cell
      have c_g0 := C_g0.out.cell
      have c_h0 := C_h0.out.cell
      go_wp2_with fail
      clear c_aN c_w0 c_x0 c_g0 c_h0
      refine (Row.heldName _ _ (1) (Row.appN (l0) s1).length (O_v4.out.holds) (by first | omega | (simp; omega) | (simp [Row.marks_length]; omega)) (by first | omega | (simp; omega) | (simp [Row.marks_length]; omega)) (by first | omega | (simp; omega) | (simp [Row.marks_length]; omega))).mono ?_
      rintro e w16 ⟨rfl, hb⟩
      replace C_aN := Lib.hid (C_aN.out.on hb)
      replace C_w0 := Lib.hid (C_w0.out.on hb)
      replace C_x0 := Lib.hid (C_x0.out.on hb)
      replace C_g0 := Lib.hid (C_g0.out.on hb)
      replace C_h0 := Lib.hid (C_h0.out.on hb)
      replace O_v2 := Lib.hid (O_v2.out.on hb)
      replace O_v3 := Lib.hid (O_v3.out.on hb)
      replace O_v4 := Lib.hid (O_v4.out.on hb)
      replace O_v7 := Lib.hid (O_v7.out.on hb)
      replace BB := Lib.hid (BB.out.trans (hb.mono BB.out.size))
      clear hb
      have c_aN := C_aN.out.cell
      have c_w0 := C_w0.out.cell
      have c_x0 := C_x0.out.cell
      have c_g0 := C_g0.out.cell
      have c_h0 := C_h0.out.cell
      go_wp2_with fail
      clear c_aN c_w0 c_x0 c_g0 c_h0
      go_ret
      exact ⟨rfl, BB.out⟩
    · -- out
      rw [Row.szL_not (by omega)]
      have c_aN := C_aN.out.cell
      go_wp2
      go_ret
      exact ⟨rfl, BB.out⟩
  · have t1 : (1048576 : Int) < (s1.size : Int) := by omega
    go_enter Try.func13, Try.ntmps13
    go_wp2
    go_ret
    exact ⟨rfl, ((Below.refl _ _).alloc (by simp <;> omega) _)⟩

set_option maxRecDepth 100000 in
theorem lifted (os : Os) (started : os.Started) (H : Type) (enc : TypeId × Value → H) :
    ReturnsInHanded {} Try.checked os 13 .any (Rows.fnExactAppendPartSpec.pre6 enc Try.prog Try.f13 Rows.fnExactAppendPartRow.domain false) (Rows.fnExactAppendPartSpec.post enc Try.prog Try.f13 false true false false) := by
  refine returnsInHanded_of_change_sized (C := Try.checked) own started (by kernel_rfl) Try.func13
    (ChangeSpec.witness6 (enc := enc) (C := Try.checked) false ⟨#[], #[.agg #[.slice none 0 0], .string ⟨#[]⟩], []⟩ 8 (by kernel_rfl) (by kernel_rfl) (by kernel_rfl) (by kernel_rfl)) ?_
  intro W base args ds gs before hval0 hW _ hsz0 _
  have hval : ∀ (j : Nat) t v, Try.f13.params[j]? = some t → args[j]? = some v → Value.okWide Try.prog W .any base t v := hval0
  have hsz : (DataW.weightsEach Try.prog (Try.f13.params.toList ++ Rows.fnExactAppendPartSpec.plain.varTypes Try.prog) (ds ++ gs)).all (· ≤ reachBytes) = true := hsz0
  clear hsz0
  have hW' := hW
  obtain ⟨p, q, hA0, hV, rfl, hfz, hnd⟩ := hW
  have hA : DataW.TrodAll enc Try.prog W 0 (fun _ => true) true Try.f13.params.toList args.toList ds p := hA0
  rw [Try.params13] at hA hval hsz
  obtain ⟨v0, vs0, d0, ds0, p0, q0, hargs, rfl, rfl, h0, r0⟩ := trodAll_cons hA
  obtain ⟨v1, vs1, d1, ds1, p1, q1, rfl, rfl, rfl, h1, r1⟩ := trodAll_cons r0
  obtain ⟨rfl, rfl, rfl⟩ := trodAll_nil r1
  obtain rfl : args = #[v0, v1] := by cases args; simp_all
  obtain ⟨rfl, rfl⟩ := trodVars_none hV
  obtain ⟨y0, l0, rfl, q0, n0, m0⟩ := Row.open_name (t := 44) (e := 24) (s := 9) Try.underlying44 rfl rfl (by kernel_rfl) (by kernel_rfl) Try.underlying24 Try.underlying9 (by kernel_rfl) (hval 0 44 v0 rfl rfl) h0
  obtain ⟨s1, rfl, rfl, rfl, z1⟩ := open_string Try.underlying9 (hval 1 9 v1 rfl rfl) h1
  have l1 : s1.size ≤ 140737488351232 := Frame.reach_string (sized_string hsz (j := 1) (t := 9) rfl rfl)
  clear hA0 hval0
  refine (walk s1 l1 W _ _ q0 n0 m0).mono fun e W' ⟨he, hb⟩ => ?_
  subst he
  exact ⟨_, rfl, Frame.law_post laidOut (by kernel_rfl) rfl Try.underlying4 rfl rfl hW' hb⟩

theorem said : Rows.FnExactAppendPartSaid :=
  OpenClaim.holds_of_wide 13 Try.f13 rfl rfl rfl rfl rfl rfl rfl ⟨rfl, rfl, rfl, rfl, rfl⟩ rfl rfl rfl rfl rfl (by kernel_rfl) Try.func13 (by kernel_rfl)
    (of_decide_eq_true (by kernel_rfl)) (by unfold Func.isWrapper; first | (rw [if_pos (by decide +kernel)]; kernel_rfl) | (rw [if_neg (by decide +kernel)]; exact ⟨rfl, rfl⟩))
    (fun os started H enc _ => lifted os started H enc)

#print axioms said
end Go.Proofs.Ytnhfdgjbbjogmaa.fnExactAppendPart
