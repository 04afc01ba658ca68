/- Allowed answers as its model for all lists of rules and all names, and writes into no argument. No conditions. -/
import Derived.Test.YtkojeajjappchaaRows
import Derived.WalkKit
import Derived.ProofKit
import Derived.OpenShut
import Derived.SizedLaws
import Derived.Test.YtkojeajjappchaaFrame
import Derived.Test.YtkojeajjappchaaRuleF
import Derived.Test.YtkojeajjappchaaRuleSK
namespace Go.Proofs.Ytkojeajjappchaa.fnExactAllowed
open Go.ChangeShapes Go.WideShapes Go.ChangeAt Go.RowKit
open Go.ChangeMaps (open_string shut_string)
set_option linter.unusedVariables false

theorem own : ownKnob Try.prog.godebug = none := by kernel_rfl
theorem laidOut : laidOutB Try.prog = true := by kernel_rfl

set_option maxRecDepth 100000 in
set_option maxHeartbeats 4000000 in
theorem walk (w : World) (y0 : Value) (l0 : List Row.Rlt) (q0 : Row.kLRl.At w y0 l0) (n0 : Row.inLRl l0) (m0 : Row.inLRl l0) (y1 : Value) (l1 : List ByteArray) (q1 : Row.Holds Value.string w y1 l1) (n1 : ∀ x ∈ l1, x.size ≤ maxLen) (m1 : l1.length ≤ 9223372036854775807) (y2 : Value) (l2 : List ByteArray) (q2 : Row.Holds Value.string w y2 l2) (n2 : ∀ x ∈ l2, x.size ≤ maxLen) (m2 : l2.length ≤ 9223372036854775807) :
    Calls Try.prog 6 #[y0, .agg #[y1], .agg #[y2]] w fun e w' => e = .returned (.bool true) ∧ Below w.heap.size w w' := by
  obtain ⟨x_q0, n_q0, c_q0, rfl, q0⟩ := Row.kLRl_shapeA q0
  obtain ⟨x_q1, n_q1, c_q1, rfl, -, -, q1⟩ := q1.shapeN; replace q1 := Row.kN_of q1
  obtain ⟨x_q2, n_q2, c_q2, rfl, -, -, q2⟩ := q2.shapeN; replace q2 := Row.kN_of q2
  have Q0 := Lib.hid q0; have N0 := Lib.hid n0; clear q0 n0
  have Q1 := Lib.hid q1; have N1 := Lib.hid n1; clear q1 n1
  have Q2 := Lib.hid q2; have N2 := Lib.hid n2; clear q2 n2
  have hal := (Below.refl w.heap.size w).alloc (Nat.le_refl _) (.cells #[.slice x_q1 n_q1 c_q1] 42)
  have BB := Lib.hid hal
  have C_aN := Lib.hid (Ret.Blk.new' (w := w) #[.slice x_q1 n_q1 c_q1] 42 (n := w.heap.size) (by first | rfl | simp)); clear hal
  have S1 := Lib.hid (show (w.alloc (.cells #[.slice x_q1 n_q1 c_q1] 42)).heap.size = w.heap.size + 1 from World.size_alloc _ _)
  have hal := (Below.refl (w.alloc (.cells #[.slice x_q1 n_q1 c_q1] 42)).heap.size (w.alloc (.cells #[.slice x_q1 n_q1 c_q1] 42))).alloc (Nat.le_refl _) (.cells #[.slice x_q2 n_q2 c_q2] 42)
  replace C_aN := Lib.hid (C_aN.out.on hal)
  replace BB := Lib.hid (BB.out.trans (hal.mono BB.out.size))
  have C_aKey := Lib.hid (Ret.Blk.new' (w := (w.alloc (.cells #[.slice x_q1 n_q1 c_q1] 42))) #[.slice x_q2 n_q2 c_q2] 42 (n := w.heap.size + 1) (by first | rfl | simp)); clear hal
  have S2 := Lib.hid (show ((w.alloc (.cells #[.slice x_q1 n_q1 c_q1] 42)).alloc (.cells #[.slice x_q2 n_q2 c_q2] 42)).heap.size = (w.alloc (.cells #[.slice x_q1 n_q1 c_q1] 42)).heap.size + 1 from World.size_alloc _ _)
  go_enter Try.func6, Try.ntmps6
  have c0_aN : ((w.alloc (.cells #[.slice x_q1 n_q1 c_q1] 42)).alloc (.cells #[.slice x_q2 n_q2 c_q2] 42)).cell? ⟨w.heap.size, 0, none⟩ = some (.slice x_q1 n_q1 c_q1) := C_aN.out.cell 0
  have c0_aKey : ((w.alloc (.cells #[.slice x_q1 n_q1 c_q1] 42)).alloc (.cells #[.slice x_q2 n_q2 c_q2] 42)).cell? ⟨w.heap.size + 1, 0, none⟩ = some (.slice x_q2 n_q2 c_q2) := C_aKey.out.cell 0
  go_wp2_with fail
  clear c0_aN c0_aKey
  refine (Row.szLRlK _ l0 _ (1048576) (Q0.out.on BB.out) m0 N0.out (by omega) (by omega)).mono ?_
  rintro e w1 ⟨rfl, hb⟩
  replace C_aN := Lib.hid (C_aN.out.on hb)
  replace C_aKey := Lib.hid (C_aKey.out.on hb)
  replace BB := Lib.hid (BB.out.trans (hb.mono BB.out.size))
  have S3 := Lib.hid (show ((w.alloc (.cells #[.slice x_q1 n_q1 c_q1] 42)).alloc (.cells #[.slice x_q2 n_q2 c_q2] 42)).heap.size ≤ w1.heap.size from (by have h := hb.size; exact h))
  clear hb
  by_cases t0 : (Row.bulkK Row.wtRl l0 : Int) ≤ 1048576
  · -- in
    rw [Row.szW_fit t0]
    have b0 : Row.bulkK Row.wtRl l0 ≤ 1048576 := by omega
    have d0 : Row.adLRl (l0) ≤ 1048576 := Row.adLRl_big b0
    have g0 : ¬ 1048576 - (Row.bulkK Row.wtRl l0 : Int) < 0 := by omega
    have c0_aN : w1.cell? ⟨w.heap.size, 0, none⟩ = some (.slice x_q1 n_q1 c_q1) := C_aN.out.cell 0
    have c0_aKey : w1.cell? ⟨w.heap.size + 1, 0, none⟩ = some (.slice x_q2 n_q2 c_q2) := C_aKey.out.cell 0
    go_wp2_with fail
    clear c0_aN c0_aKey
    refine (Row.szNK _ l1 _ (1048576 - (Row.bulkK Row.wtRl l0 : Int)) (Q1.out.on BB.out) m1 N1.out (by omega) (by omega)).mono ?_
    rintro e w2 ⟨rfl, hb⟩
    replace C_aN := Lib.hid (C_aN.out.on hb)
    replace C_aKey := Lib.hid (C_aKey.out.on hb)
    replace BB := Lib.hid (BB.out.trans (hb.mono BB.out.size))
    have S4 := Lib.hid (show w1.heap.size ≤ w2.heap.size from (by have h := hb.size; exact h))
    clear hb
    by_cases t1 : (Row.bulk l1 : Int) ≤ 1048576 - (Row.bulkK Row.wtRl l0 : Int)
    · -- in
      rw [Row.szL_fit t1]
      have b1 : Row.bulk l1 ≤ 1048576 := by omega
      have d1 : (l1).length ≤ 1048576 := Row.bigLen b1
      have g1 : ¬ 1048576 - (Row.bulkK Row.wtRl l0 : Int) - (Row.bulk l1 : Int) < 0 := by omega
      have c0_aN : w2.cell? ⟨w.heap.size, 0, none⟩ = some (.slice x_q1 n_q1 c_q1) := C_aN.out.cell 0
      have c0_aKey : w2.cell? ⟨w.heap.size + 1, 0, none⟩ = some (.slice x_q2 n_q2 c_q2) := C_aKey.out.cell 0
      go_wp2_with fail
      clear c0_aN c0_aKey
      refine (Row.szNK _ l2 _ (1048576 - (Row.bulkK Row.wtRl l0 : Int) - (Row.bulk l1 : Int)) (Q2.out.on BB.out) m2 N2.out (by omega) (by omega)).mono ?_
      rintro e w3 ⟨rfl, hb⟩
      replace C_aN := Lib.hid (C_aN.out.on hb)
      replace C_aKey := Lib.hid (C_aKey.out.on hb)
      replace BB := Lib.hid (BB.out.trans (hb.mono BB.out.size))
      have S5 := Lib.hid (show w2.heap.size ≤ w3.heap.size from (by have h := hb.size; exact h))
      clear hb
      by_cases t2 : (Row.bulk l2 : Int) ≤ 1048576 - (Row.bulkK Row.wtRl l0 : Int) - (Row.bulk l1 : Int)
      · -- in
        rw [Row.szL_fit t2]
        have b2 : Row.bulk l2 ≤ 1048576 := by omega
        have d2 : (l2).length ≤ 1048576 := Row.bigLen b2
        have g2 : ¬ 1048576 - (Row.bulkK Row.wtRl l0 : Int) - (Row.bulk l1 : Int) - (Row.bulk l2 : Int) < 0 := by omega
        have c0_aN : w3.cell? ⟨w.heap.size, 0, none⟩ = some (.slice x_q1 n_q1 c_q1) := C_aN.out.cell 0
        have c0_aKey : w3.cell? ⟨w.heap.size + 1, 0, none⟩ = some (.slice x_q2 n_q2 c_q2) := C_aKey.out.cell 0
        go_wp2_with fail
        clear c0_aN c0_aKey
        have hdr : Below w3.heap.size w3 w3.drew := (Below.refl _ _).drew
        replace C_aN := Lib.hid (C_aN.out.on hdr)
        replace C_aKey := Lib.hid (C_aKey.out.on hdr)
        replace BB := Lib.hid (BB.out.trans (hdr.mono BB.out.size))
        clear hdr
        have KS0 := Lib.hid (show w3.drew.cell? ⟨w.heap.size, 0, none⟩ = some (.slice x_q1 n_q1 c_q1) ∧ w3.drew.cell? ⟨w.heap.size + 1, 0, none⟩ = some (.slice x_q2 n_q2 c_q2) ∧ Below w.heap.size w w3.drew from ⟨C_aN.out.cell 0, C_aKey.out.cell 0, BB.out⟩)
        go_region_held3 (fun w' => w'.cell? ⟨w.heap.size, 0, none⟩ = some (.slice x_q1 n_q1 c_q1) ∧ w'.cell? ⟨w.heap.size + 1, 0, none⟩ = some (.slice x_q2 n_q2 c_q2) ∧ Below w.heap.size w w') (first | exact KS0.out | exact KS1.out | exact KS2.out | exact KS3.out | exact KS4.out) ((first | (go_at_call 26; refine (Row.specAllowed _ _ _ (l0) (l1) (l2) _ ((ho0.at.on hb1).on hb2) (ho1.at.on hb2) ho2.at (Nat.le_trans (Row.bulkK_len Row.wtRl (l0)) (by omega)) (fun x hx => Nat.le_trans (Row.bulkK_mem hx) (by omega)) (by omega) (by omega)).mono ?_; rintro e w7 ⟨rfl, hbr⟩; have KS4 := Lib.hid (show (fun w' => w'.cell? ⟨w.heap.size, 0, none⟩ = some (.slice x_q1 n_q1 c_q1) ∧ w'.cell? ⟨w.heap.size + 1, 0, none⟩ = some (.slice x_q2 n_q2 c_q2) ∧ Below w.heap.size w w') _ from ⟨Row.kc KS3.out.1 hbr, Row.kc KS3.out.2.1 hbr, KS3.out.2.2.trans (hbr.mono KS3.out.2.2.size)⟩)) | (go_at_call 23; refine (Row.toNK _ l2 _ (((Q2.out.on BB.out).on hb0).on hb1) (by omega)).mono ?_; rintro e w6 ⟨v3, rfl, ho2, hb2⟩; obtain ⟨x_v3, n_v3, c_v3, rfl, ho2⟩ := Row.kN_shape ho2; have KS3 := Lib.hid (show (fun w' => w'.cell? ⟨w.heap.size, 0, none⟩ = some (.slice x_q1 n_q1 c_q1) ∧ w'.cell? ⟨w.heap.size + 1, 0, none⟩ = some (.slice x_q2 n_q2 c_q2) ∧ Below w.heap.size w w') _ from ⟨Row.kc KS2.out.1 hb2, Row.kc KS2.out.2.1 hb2, KS2.out.2.2.trans (hb2.mono KS2.out.2.2.size)⟩)) | (go_at_call 23; refine (Row.toNK _ l1 _ ((Q1.out.on BB.out).on hb0) (by omega)).mono ?_; rintro e w5 ⟨v2, rfl, ho1, hb1⟩; obtain ⟨x_v2, n_v2, c_v2, rfl, ho1⟩ := Row.kN_shape ho1; have KS2 := Lib.hid (show (fun w' => w'.cell? ⟨w.heap.size, 0, none⟩ = some (.slice x_q1 n_q1 c_q1) ∧ w'.cell? ⟨w.heap.size + 1, 0, none⟩ = some (.slice x_q2 n_q2 c_q2) ∧ Below w.heap.size w w') _ from ⟨Row.kc KS1.out.1 hb1, Row.kc KS1.out.2.1 hb1, KS1.out.2.2.trans (hb1.mono KS1.out.2.2.size)⟩)) | (go_at_call 18; refine (Row.toLRlK _ l0 _ (Q0.out.on BB.out) (by omega)).mono ?_; rintro e w4 ⟨v1, rfl, ho0, hb0⟩; obtain ⟨x_v1, n_v1, c_v1, rfl, ho0⟩ := Row.kLRl_shape ho0; have KS1 := Lib.hid (show (fun w' => w'.cell? ⟨w.heap.size, 0, none⟩ = some (.slice x_q1 n_q1 c_q1) ∧ w'.cell? ⟨w.heap.size + 1, 0, none⟩ = some (.slice x_q2 n_q2 c_q2) ∧ Below w.heap.size w w') _ from ⟨Row.kc KS0.out.1 hb0, Row.kc KS0.out.2.1 hb0, KS0.out.2.2.trans (hb0.mono KS0.out.2.2.size)⟩))))
        clear KS0 KS1 KS2 KS3 KS4 ho0 ho1 ho2
        replace C_aN := Lib.hid (C_aN.out.on hb0)
        replace C_aKey := Lib.hid (C_aKey.out.on hb0)
        replace BB := Lib.hid (BB.out.trans (hb0.mono BB.out.size))
        have S6 := Lib.hid (show w3.heap.size ≤ w4.heap.size from (by have h := hb0.size; exact h))
        replace C_aN := Lib.hid (C_aN.out.on hb1)
        replace C_aKey := Lib.hid (C_aKey.out.on hb1)
        replace BB := Lib.hid (BB.out.trans (hb1.mono BB.out.size))
        have S7 := Lib.hid (show w4.heap.size ≤ w5.heap.size from (by have h := hb1.size; exact h))
        replace C_aN := Lib.hid (C_aN.out.on hb2)
        replace C_aKey := Lib.hid (C_aKey.out.on hb2)
        replace BB := Lib.hid (BB.out.trans (hb2.mono BB.out.size))
        have S8 := Lib.hid (show w5.heap.size ≤ w6.heap.size from (by have h := hb2.size; exact h))
        clear hb0 hb1 hb2
        replace C_aN := Lib.hid (C_aN.out.on hbr)
        replace C_aKey := Lib.hid (C_aKey.out.on hbr)
        replace BB := Lib.hid (BB.out.trans (hbr.mono BB.out.size))
        have S9 := Lib.hid (show w6.heap.size ≤ w7.heap.size from (by have h := hbr.size; exact h))
        clear hbr
        have c0_aN : w7.cell? ⟨w.heap.size, 0, none⟩ = some (.slice x_q1 n_q1 c_q1) := C_aN.out.cell 0
        have c0_aKey : w7.cell? ⟨w.heap.size + 1, 0, none⟩ = some (.slice x_q2 n_q2 c_q2) := C_aKey.out.cell 0
        go_wp2_with fail
        clear c0_aN c0_aKey
        refine (Row.toLRlK _ l0 _ (Q0.out.on BB.out) (by omega)).mono ?_
        rintro e w8 ⟨v4, rfl, ho, hb⟩
        obtain ⟨x_v4, n_v4, c_v4, rfl, ho⟩ := Row.kLRl_shape ho
        replace C_aN := Lib.hid (C_aN.out.on hb)
        replace C_aKey := Lib.hid (C_aKey.out.on hb)
        replace BB := Lib.hid (BB.out.trans (hb.mono BB.out.size))
        have S10 := Lib.hid (show w7.heap.size ≤ w8.heap.size from (by have h := hb.size; exact h))
        have O_v4 := Lib.hid (show Row.kLRl.In w7.heap.size w8.heap.size w8 (.slice x_v4 n_v4 c_v4) (l0) from ho); clear ho
        clear hb
        have c0_aN : w8.cell? ⟨w.heap.size, 0, none⟩ = some (.slice x_q1 n_q1 c_q1) := C_aN.out.cell 0
        have c0_aKey : w8.cell? ⟨w.heap.size + 1, 0, none⟩ = some (.slice x_q2 n_q2 c_q2) := C_aKey.out.cell 0
        go_wp2_with fail
        clear c0_aN c0_aKey
        refine (Row.toNK _ l1 _ (Q1.out.on BB.out) (by omega)).mono ?_
        rintro e w9 ⟨v5, rfl, ho, hb⟩
        obtain ⟨x_v5, n_v5, c_v5, rfl, ho⟩ := Row.kN_shape ho
        replace C_aN := Lib.hid (C_aN.out.on hb)
        replace C_aKey := Lib.hid (C_aKey.out.on hb)
        replace O_v4 := Lib.hid (O_v4.out.on hb)
        replace BB := Lib.hid (BB.out.trans (hb.mono BB.out.size))
        have S11 := Lib.hid (show w8.heap.size ≤ w9.heap.size from (by have h := hb.size; exact h))
        have O_v5 := Lib.hid (show Row.kN.In w8.heap.size w9.heap.size w9 (.agg #[.slice x_v5 n_v5 c_v5]) (l1) from ho); clear ho
        clear hb
        have hal := (Below.refl w9.heap.size w9).alloc (Nat.le_refl _) (.cells #[.slice x_v5 n_v5 c_v5] 45)
        replace C_aN := Lib.hid (C_aN.out.on hal)
        replace C_aKey := Lib.hid (C_aKey.out.on hal)
        replace O_v4 := Lib.hid (O_v4.out.on hal)
        replace O_v5 := Lib.hid (O_v5.out.on hal)
        replace BB := Lib.hid (BB.out.trans (hal.mono BB.out.size))
        have S12 := Lib.hid (show (w9.alloc (.cells #[.slice x_v5 n_v5 c_v5] 45)).heap.size = w9.heap.size + 1 from World.size_alloc _ _)
        have C_x1 := Lib.hid (Ret.Blk.new w9 #[.slice x_v5 n_v5 c_v5] 45); clear hal
        have c0_aN : (w9.alloc (.cells #[.slice x_v5 n_v5 c_v5] 45)).cell? ⟨w.heap.size, 0, none⟩ = some (.slice x_q1 n_q1 c_q1) := C_aN.out.cell 0
        have c0_aKey : (w9.alloc (.cells #[.slice x_v5 n_v5 c_v5] 45)).cell? ⟨w.heap.size + 1, 0, none⟩ = some (.slice x_q2 n_q2 c_q2) := C_aKey.out.cell 0
        have c0_x1 : (w9.alloc (.cells #[.slice x_v5 n_v5 c_v5] 45)).cell? ⟨w9.heap.size, 0, none⟩ = some (.slice x_v5 n_v5 c_v5) := C_x1.out.cell 0
        go_wp2_with fail
        clear c0_aN c0_aKey c0_x1
        refine (Row.toNK _ l2 _ (Q2.out.on BB.out) (by omega)).mono ?_
        rintro e w10 ⟨v6, rfl, ho, hb⟩
        obtain ⟨x_v6, n_v6, c_v6, rfl, ho⟩ := Row.kN_shape ho
        replace C_aN := Lib.hid (C_aN.out.on hb)
        replace C_aKey := Lib.hid (C_aKey.out.on hb)
        replace C_x1 := Lib.hid (C_x1.out.on hb)
        replace O_v4 := Lib.hid (O_v4.out.on hb)
        replace O_v5 := Lib.hid (O_v5.out.on hb)
        replace BB := Lib.hid (BB.out.trans (hb.mono BB.out.size))
        have S13 := Lib.hid (show (w9.alloc (.cells #[.slice x_v5 n_v5 c_v5] 45)).heap.size ≤ w10.heap.size from (by have h := hb.size; exact h))
        have O_v6 := Lib.hid (show Row.kN.In (w9.alloc (.cells #[.slice x_v5 n_v5 c_v5] 45)).heap.size w10.heap.size w10 (.agg #[.slice x_v6 n_v6 c_v6]) (l2) from ho); clear ho
        clear hb
        have hal := (Below.refl w10.heap.size w10).alloc (Nat.le_refl _) (.cells #[.slice x_v6 n_v6 c_v6] 45)
        replace C_aN := Lib.hid (C_aN.out.on hal)
        replace C_aKey := Lib.hid (C_aKey.out.on hal)
        replace C_x1 := Lib.hid (C_x1.out.on hal)
        replace O_v4 := Lib.hid (O_v4.out.on hal)
        replace O_v5 := Lib.hid (O_v5.out.on hal)
        replace O_v6 := Lib.hid (O_v6.out.on hal)
        replace BB := Lib.hid (BB.out.trans (hal.mono BB.out.size))
        have S14 := Lib.hid (show (w10.alloc (.cells #[.slice x_v6 n_v6 c_v6] 45)).heap.size = w10.heap.size + 1 from World.size_alloc _ _)
        have C_x2 := Lib.hid (Ret.Blk.new w10 #[.slice x_v6 n_v6 c_v6] 45); clear hal
        have c0_aN : (w10.alloc (.cells #[.slice x_v6 n_v6 c_v6] 45)).cell? ⟨w.heap.size, 0, none⟩ = some (.slice x_q1 n_q1 c_q1) := C_aN.out.cell 0
        have c0_aKey : (w10.alloc (.cells #[.slice x_v6 n_v6 c_v6] 45)).cell? ⟨w.heap.size + 1, 0, none⟩ = some (.slice x_q2 n_q2 c_q2) := C_aKey.out.cell 0
        have c0_x1 : (w10.alloc (.cells #[.slice x_v6 n_v6 c_v6] 45)).cell? ⟨w9.heap.size, 0, none⟩ = some (.slice x_v5 n_v5 c_v5) := C_x1.out.cell 0
        have c0_x2 : (w10.alloc (.cells #[.slice x_v6 n_v6 c_v6] 45)).cell? ⟨w10.heap.size, 0, none⟩ = some (.slice x_v6 n_v6 c_v6) := C_x2.out.cell 0
        go_wp2_with fail
        clear c0_aN c0_aKey c0_x1 c0_x2
        refine (Row.implAllowed _ _ _ (l0) (l1) (l2) _ (O_v4.out.at) (O_v5.out.at) (O_v6.out.at) (Nat.le_trans (Row.bulkK_len Row.wtRl (l0)) (by omega)) (fun x hx => Nat.le_trans (Row.bulkK_mem hx) (by omega)) (by omega) (by omega)).mono ?_
        rintro e w11 ⟨rfl, hb⟩
        replace C_aN := Lib.hid (C_aN.out.on hb)
        replace C_aKey := Lib.hid (C_aKey.out.on hb)
        replace C_x1 := Lib.hid (C_x1.out.on hb)
        replace C_x2 := Lib.hid (C_x2.out.on hb)
        replace O_v4 := Lib.hid (O_v4.out.on hb)
        replace O_v5 := Lib.hid (O_v5.out.on hb)
        replace O_v6 := Lib.hid (O_v6.out.on hb)
        replace BB := Lib.hid (BB.out.trans (hb.mono BB.out.size))
        have S15 := Lib.hid (show (w10.alloc (.cells #[.slice x_v6 n_v6 c_v6] 45)).heap.size ≤ w11.heap.size from (by have h := hb.size; exact h))
        clear hb
        have c0_aN : w11.cell? ⟨w.heap.size, 0, none⟩ = some (.slice x_q1 n_q1 c_q1) := C_aN.out.cell 0
        have c0_aKey : w11.cell? ⟨w.heap.size + 1, 0, none⟩ = some (.slice x_q2 n_q2 c_q2) := C_aKey.out.cell 0
        have c0_x1 : w11.cell? ⟨w9.heap.size, 0, none⟩ = some (.slice x_v5 n_v5 c_v5) := C_x1.out.cell 0
        have c0_x2 : w11.cell? ⟨w10.heap.size, 0, none⟩ = some (.slice x_v6 n_v6 c_v6) := C_x2.out.cell 0
        go_wp2_with fail
        clear c0_aN c0_aKey c0_x1 c0_x2
        refine (Row.toLRlK _ l0 _ (Q0.out.on BB.out) (by omega)).mono ?_
        rintro e w12 ⟨v7, rfl, ho, hb⟩
        obtain ⟨x_v7, n_v7, c_v7, rfl, ho⟩ := Row.kLRl_shape ho
        replace C_aN := Lib.hid (C_aN.out.on hb)
        replace C_aKey := Lib.hid (C_aKey.out.on hb)
        replace C_x1 := Lib.hid (C_x1.out.on hb)
        replace C_x2 := Lib.hid (C_x2.out.on hb)
        replace O_v4 := Lib.hid (O_v4.out.on hb)
        replace O_v5 := Lib.hid (O_v5.out.on hb)
        replace O_v6 := Lib.hid (O_v6.out.on hb)
        replace BB := Lib.hid (BB.out.trans (hb.mono BB.out.size))
        have S16 := Lib.hid (show w11.heap.size ≤ w12.heap.size from (by have h := hb.size; exact h))
        have O_v7 := Lib.hid (show Row.kLRl.In w11.heap.size w12.heap.size w12 (.slice x_v7 n_v7 c_v7) (l0) from ho); clear ho
        clear hb
        have c0_aN : w12.cell? ⟨w.heap.size, 0, none⟩ = some (.slice x_q1 n_q1 c_q1) := C_aN.out.cell 0
        have c0_aKey : w12.cell? ⟨w.heap.size + 1, 0, none⟩ = some (.slice x_q2 n_q2 c_q2) := C_aKey.out.cell 0
        have c0_x1 : w12.cell? ⟨w9.heap.size, 0, none⟩ = some (.slice x_v5 n_v5 c_v5) := C_x1.out.cell 0
        have c0_x2 : w12.cell? ⟨w10.heap.size, 0, none⟩ = some (.slice x_v6 n_v6 c_v6) := C_x2.out.cell 0
        go_wp2_with fail
        clear c0_aN c0_aKey c0_x1 c0_x2
        refine (Row.eqLRlK _ _ (l0) _ (O_v4.out.at) (O_v7.out.at) (by first | omega | (simp; omega) | (simp [Row.marks_length, Sl.marks_length, Row.mkW]; omega))).mono ?_
        rintro e w13 ⟨rfl, hb⟩
        replace C_aN := Lib.hid (C_aN.out.on hb)
        replace C_aKey := Lib.hid (C_aKey.out.on hb)
        replace C_x1 := Lib.hid (C_x1.out.on hb)
        replace C_x2 := Lib.hid (C_x2.out.on hb)
        replace O_v4 := Lib.hid (O_v4.out.on hb)
        replace O_v5 := Lib.hid (O_v5.out.on hb)
        replace O_v6 := Lib.hid (O_v6.out.on hb)
        replace O_v7 := Lib.hid (O_v7.out.on hb)
        replace BB := Lib.hid (BB.out.trans (hb.mono BB.out.size))
        have S17 := Lib.hid (show w12.heap.size ≤ w13.heap.size from (by have h := hb.size; exact h))
        clear hb
        have c0_aN : w13.cell? ⟨w.heap.size, 0, none⟩ = some (.slice x_q1 n_q1 c_q1) := C_aN.out.cell 0
        have c0_aKey : w13.cell? ⟨w.heap.size + 1, 0, none⟩ = some (.slice x_q2 n_q2 c_q2) := C_aKey.out.cell 0
        have c0_x1 : w13.cell? ⟨w9.heap.size, 0, none⟩ = some (.slice x_v5 n_v5 c_v5) := C_x1.out.cell 0
        have c0_x2 : w13.cell? ⟨w10.heap.size, 0, none⟩ = some (.slice x_v6 n_v6 c_v6) := C_x2.out.cell 0
        go_wp2_with fail
        clear c0_aN c0_aKey c0_x1 c0_x2
        clear O_v7
        have hdr : Below w13.heap.size w13 w13.drew := (Below.refl _ _).drew
        replace C_aN := Lib.hid (C_aN.out.on hdr)
        replace C_aKey := Lib.hid (C_aKey.out.on hdr)
        replace C_x1 := Lib.hid (C_x1.out.on hdr)
        replace C_x2 := Lib.hid (C_x2.out.on hdr)
        replace O_v4 := Lib.hid (O_v4.out.on hdr)
        replace O_v5 := Lib.hid (O_v5.out.on hdr)
        replace O_v6 := Lib.hid (O_v6.out.on hdr)
        replace BB := Lib.hid (BB.out.trans (hdr.mono BB.out.size))
        clear hdr
        have KS0 := Lib.hid (show w13.drew.cell? ⟨w9.heap.size, 0, none⟩ = some (.slice x_v5 n_v5 c_v5) ∧ w13.drew.cell? ⟨w.heap.size, 0, none⟩ = some (.slice x_q1 n_q1 c_q1) ∧ Below w.heap.size w w13.drew from ⟨C_x1.out.cell 0, C_aN.out.cell 0, BB.out⟩)
        go_region_held3 (fun w' => w'.cell? ⟨w9.heap.size, 0, none⟩ = some (.slice x_v5 n_v5 c_v5) ∧ w'.cell? ⟨w.heap.size, 0, none⟩ = some (.slice x_q1 n_q1 c_q1) ∧ Below w.heap.size w w') (first | exact KS0.out | exact KS1.out | exact KS2.out) ((first | (go_at_call 25; refine (Row.sameNK _ _ (l1) _ ((O_v5.out.at).on hba) hoa.at (by first | omega | (simp; omega) | (simp [Row.marks_length, Sl.marks_length, Row.mkW]; omega))).mono ?_; rintro e w15 ⟨rfl, hbb⟩; have KS2 := Lib.hid (show (fun w' => w'.cell? ⟨w9.heap.size, 0, none⟩ = some (.slice x_v5 n_v5 c_v5) ∧ w'.cell? ⟨w.heap.size, 0, none⟩ = some (.slice x_q1 n_q1 c_q1) ∧ Below w.heap.size w w') _ from ⟨Row.kc KS1.out.1 hbb, Row.kc KS1.out.2.1 hbb, KS1.out.2.2.trans (hbb.mono KS1.out.2.2.size)⟩)) | (go_at_call 23; refine (Row.toNK _ l1 _ (Q1.out.on BB.out) (by omega)).mono ?_; rintro e w14 ⟨v8, rfl, hoa, hba⟩; obtain ⟨x_v8, n_v8, c_v8, rfl, hoa⟩ := Row.kN_shape hoa; have KS1 := Lib.hid (show (fun w' => w'.cell? ⟨w9.heap.size, 0, none⟩ = some (.slice x_v5 n_v5 c_v5) ∧ w'.cell? ⟨w.heap.size, 0, none⟩ = some (.slice x_q1 n_q1 c_q1) ∧ Below w.heap.size w w') _ from ⟨Row.kc KS0.out.1 hba, Row.kc KS0.out.2.1 hba, KS0.out.2.2.trans (hba.mono KS0.out.2.2.size)⟩))))
        clear KS0 KS1 KS2 hoa
        replace C_aN := Lib.hid (C_aN.out.on hba)
        replace C_aKey := Lib.hid (C_aKey.out.on hba)
        replace C_x1 := Lib.hid (C_x1.out.on hba)
        replace C_x2 := Lib.hid (C_x2.out.on hba)
        replace O_v4 := Lib.hid (O_v4.out.on hba)
        replace O_v5 := Lib.hid (O_v5.out.on hba)
        replace O_v6 := Lib.hid (O_v6.out.on hba)
        replace BB := Lib.hid (BB.out.trans (hba.mono BB.out.size))
        have S18 := Lib.hid (show w13.heap.size ≤ w14.heap.size from (by have h := hba.size; exact h))
        replace C_aN := Lib.hid (C_aN.out.on hbb)
        replace C_aKey := Lib.hid (C_aKey.out.on hbb)
        replace C_x1 := Lib.hid (C_x1.out.on hbb)
        replace C_x2 := Lib.hid (C_x2.out.on hbb)
        replace O_v4 := Lib.hid (O_v4.out.on hbb)
        replace O_v5 := Lib.hid (O_v5.out.on hbb)
        replace O_v6 := Lib.hid (O_v6.out.on hbb)
        replace BB := Lib.hid (BB.out.trans (hbb.mono BB.out.size))
        have S19 := Lib.hid (show w14.heap.size ≤ w15.heap.size from (by have h := hbb.size; exact h))
        clear hba hbb
        have c0_aN : w15.cell? ⟨w.heap.size, 0, none⟩ = some (.slice x_q1 n_q1 c_q1) := C_aN.out.cell 0
        have c0_aKey : w15.cell? ⟨w.heap.size + 1, 0, none⟩ = some (.slice x_q2 n_q2 c_q2) := C_aKey.out.cell 0
        have c0_x1 : w15.cell? ⟨w9.heap.size, 0, none⟩ = some (.slice x_v5 n_v5 c_v5) := C_x1.out.cell 0
        have c0_x2 : w15.cell? ⟨w10.heap.size, 0, none⟩ = some (.slice x_v6 n_v6 c_v6) := C_x2.out.cell 0
        go_wp2_with fail
        clear c0_aN c0_aKey c0_x1 c0_x2
        have hdr : Below w15.heap.size w15 w15.drew := (Below.refl _ _).drew
        replace C_aN := Lib.hid (C_aN.out.on hdr)
        replace C_aKey := Lib.hid (C_aKey.out.on hdr)
        replace C_x1 := Lib.hid (C_x1.out.on hdr)
        replace C_x2 := Lib.hid (C_x2.out.on hdr)
        replace O_v4 := Lib.hid (O_v4.out.on hdr)
        replace O_v5 := Lib.hid (O_v5.out.on hdr)
        replace O_v6 := Lib.hid (O_v6.out.on hdr)
        replace BB := Lib.hid (BB.out.trans (hdr.mono BB.out.size))
        clear hdr
        have KS0 := Lib.hid (show w15.drew.cell? ⟨w10.heap.size, 0, none⟩ = some (.slice x_v6 n_v6 c_v6) ∧ w15.drew.cell? ⟨w.heap.size + 1, 0, none⟩ = some (.slice x_q2 n_q2 c_q2) ∧ Below w.heap.size w w15.drew from ⟨C_x2.out.cell 0, C_aKey.out.cell 0, BB.out⟩)
        go_region_held3 (fun w' => w'.cell? ⟨w10.heap.size, 0, none⟩ = some (.slice x_v6 n_v6 c_v6) ∧ w'.cell? ⟨w.heap.size + 1, 0, none⟩ = some (.slice x_q2 n_q2 c_q2) ∧ Below w.heap.size w w') (first | exact KS0.out | exact KS1.out | exact KS2.out) ((first | (go_at_call 25; refine (Row.sameNK _ _ (l2) _ ((O_v6.out.at).on hba) hoa.at (by first | omega | (simp; omega) | (simp [Row.marks_length, Sl.marks_length, Row.mkW]; omega))).mono ?_; rintro e w17 ⟨rfl, hbb⟩; have KS2 := Lib.hid (show (fun w' => w'.cell? ⟨w10.heap.size, 0, none⟩ = some (.slice x_v6 n_v6 c_v6) ∧ w'.cell? ⟨w.heap.size + 1, 0, none⟩ = some (.slice x_q2 n_q2 c_q2) ∧ Below w.heap.size w w') _ from ⟨Row.kc KS1.out.1 hbb, Row.kc KS1.out.2.1 hbb, KS1.out.2.2.trans (hbb.mono KS1.out.2.2.size)⟩)) | (go_at_call 23; refine (Row.toNK _ l2 _ (Q2.out.on BB.out) (by omega)).mono ?_; rintro e w16 ⟨v9, rfl, hoa, hba⟩; obtain ⟨x_v9, n_v9, c_v9, rfl, hoa⟩ := Row.kN_shape hoa; have KS1 := Lib.hid (show (fun w' => w'.cell? ⟨w10.heap.size, 0, none⟩ = some (.slice x_v6 n_v6 c_v6) ∧ w'.cell? ⟨w.heap.size + 1, 0, none⟩ = some (.slice x_q2 n_q2 c_q2) ∧ Below w.heap.size w w') _ from ⟨Row.kc KS0.out.1 hba, Row.kc KS0.out.2.1 hba, KS0.out.2.2.trans (hba.mono KS0.out.2.2.size)⟩))))
        clear KS0 KS1 KS2 hoa
        replace C_aN := Lib.hid (C_aN.out.on hba)
        replace C_aKey := Lib.hid (C_aKey.out.on hba)
        replace C_x1 := Lib.hid (C_x1.out.on hba)
        replace C_x2 := Lib.hid (C_x2.out.on hba)
        replace O_v4 := Lib.hid (O_v4.out.on hba)
        replace O_v5 := Lib.hid (O_v5.out.on hba)
        replace O_v6 := Lib.hid (O_v6.out.on hba)
        replace BB := Lib.hid (BB.out.trans (hba.mono BB.out.size))
        have S20 := Lib.hid (show w15.heap.size ≤ w16.heap.size from (by have h := hba.size; exact h))
        replace C_aN := Lib.hid (C_aN.out.on hbb)
        replace C_aKey := Lib.hid (C_aKey.out.on hbb)
        replace C_x1 := Lib.hid (C_x1.out.on hbb)
        replace C_x2 := Lib.hid (C_x2.out.on hbb)
        replace O_v4 := Lib.hid (O_v4.out.on hbb)
        replace O_v5 := Lib.hid (O_v5.out.on hbb)
        replace O_v6 := Lib.hid (O_v6.out.on hbb)
        replace BB := Lib.hid (BB.out.trans (hbb.mono BB.out.size))
        have S21 := Lib.hid (show w16.heap.size ≤ w17.heap.size from (by have h := hbb.size; exact h))
        clear hba hbb
        have c0_aN : w17.cell? ⟨w.heap.size, 0, none⟩ = some (.slice x_q1 n_q1 c_q1) := C_aN.out.cell 0
        have c0_aKey : w17.cell? ⟨w.heap.size + 1, 0, none⟩ = some (.slice x_q2 n_q2 c_q2) := C_aKey.out.cell 0
        have c0_x1 : w17.cell? ⟨w9.heap.size, 0, none⟩ = some (.slice x_v5 n_v5 c_v5) := C_x1.out.cell 0
        have c0_x2 : w17.cell? ⟨w10.heap.size, 0, none⟩ = some (.slice x_v6 n_v6 c_v6) := C_x2.out.cell 0
        go_wp2_with fail
        clear c0_aN c0_aKey c0_x1 c0_x2
        go_ret
        exact ⟨rfl, BB.out⟩
      · -- out
        rw [Row.szL_not (by omega)]
        go_wp2
        go_ret
        exact ⟨rfl, BB.out⟩
    · -- out
      rw [Row.szL_not (by omega)]
      go_wp2
      go_ret
      exact ⟨rfl, BB.out⟩
  · -- out
    rw [Row.szW_not (by omega)]
    go_wp2
    go_ret
    exact ⟨rfl, BB.out⟩

set_option maxRecDepth 100000 in
theorem lifted (os : Os) (started : os.Started) (H : Type) (enc : TypeId × Value → H) :
    ReturnsInHanded {} Try.checked os 6 .any (Rows.fnExactAllowedSpec.pre6 enc Try.prog Try.f6 Rows.fnExactAllowedRow.domain false) (Rows.fnExactAllowedSpec.post enc Try.prog Try.f6 false true false false) := by
  refine returnsInHanded_of_change_sized (C := Try.checked) own started (by kernel_rfl) Try.func6
    (ChangeSpec.witness6 (enc := enc) (C := Try.checked) false ⟨#[], #[.slice none 0 0, .agg #[.slice none 0 0], .agg #[.slice none 0 0]], []⟩ 8 (by kernel_rfl) (by kernel_rfl) (by kernel_rfl) (by kernel_rfl)) ?_
  intro W base args ds gs before hval0 hW _ hsz0 _
  have hval : ∀ (j : Nat) t v, Try.f6.params[j]? = some t → args[j]? = some v → Value.okWide Try.prog W .any base t v := hval0
  have hsz : (DataW.weightsEach Try.prog (Try.f6.params.toList ++ Rows.fnExactAllowedSpec.plain.varTypes Try.prog) (ds ++ gs)).all (· ≤ reachBytes) = true := hsz0
  clear hsz0
  have hW' := hW
  obtain ⟨p, q, hA0, hV, rfl, hfz, hnd⟩ := hW
  have hA : DataW.TrodAll enc Try.prog W 0 (fun _ => true) true Try.f6.params.toList args.toList ds p := hA0
  rw [Try.params6] at hA hval hsz
  obtain ⟨v0, vs0, d0, ds0, p0, q0, hargs, rfl, rfl, h0, r0⟩ := trodAll_cons hA
  obtain ⟨v1, vs1, d1, ds1, p1, q1, rfl, rfl, rfl, h1, r1⟩ := trodAll_cons r0
  obtain ⟨v2, vs2, d2, ds2, p2, q2, rfl, rfl, rfl, h2, r2⟩ := trodAll_cons r1
  obtain ⟨rfl, rfl, rfl⟩ := trodAll_nil r2
  obtain rfl : args = #[v0, v1, v2] := by cases args; simp_all
  obtain ⟨rfl, rfl⟩ := trodVars_none hV
  obtain ⟨l0, q0, n0⟩ := Row.open_sliceK Row.opens_RuleS Try.underlying35 (hval 0 35 v0 rfl rfl) h0
  obtain ⟨y1, l1, rfl, q1, n1, m1⟩ := Row.open_name (t := 42) (e := 22) (s := 9) Try.underlying42 rfl rfl (by kernel_rfl) (by kernel_rfl) Try.underlying22 Try.underlying9 (by kernel_rfl) (hval 1 42 v1 rfl rfl) h1
  obtain ⟨y2, l2, rfl, q2, n2, m2⟩ := Row.open_name (t := 42) (e := 22) (s := 9) Try.underlying42 rfl rfl (by kernel_rfl) (by kernel_rfl) Try.underlying22 Try.underlying9 (by kernel_rfl) (hval 2 42 v2 rfl rfl) h2
  clear hA0 hval0
  refine (walk W _ _ q0 n0 n0 _ _ q1 n1 m1 _ _ q2 n2 m2).mono fun e W' ⟨he, hb⟩ => ?_
  subst he
  exact ⟨_, rfl, Frame.law_post laidOut (by kernel_rfl) rfl Try.underlying4 rfl rfl hW' hb⟩

theorem said : Rows.FnExactAllowedSaid :=
  OpenClaim.holds_of_wide 6 Try.f6 rfl rfl rfl rfl rfl rfl rfl ⟨rfl, rfl, rfl, rfl, rfl⟩ rfl rfl rfl rfl rfl (by kernel_rfl) Try.func6 (by kernel_rfl)
    (of_decide_eq_true (by kernel_rfl)) (by unfold Func.isWrapper; first | (rw [if_pos (by decide +kernel)]; kernel_rfl) | (rw [if_neg (by decide +kernel)]; exact ⟨rfl, rfl⟩))
    (fun os started H enc _ => lifted os started H enc)

#print axioms said
end Go.Proofs.Ytkojeajjappchaa.fnExactAllowed
