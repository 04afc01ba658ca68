/- Lists of keys: what signs, verifies, finds and adds agrees with the model, and each key signs for itself. -/
import Derived.Test.YtnblopilgfdjkaaGreatRows
import Derived.WalkKit
import Derived.ProofKit
import Derived.OpenShut
import Derived.SizedLaws
import Derived.Test.YtnblopilgfdjkaaGreatB1
import Derived.Test.YtnblopilgfdjkaaGreatB22
import Derived.Test.YtnblopilgfdjkaaGreatB23
import Derived.Test.YtnblopilgfdjkaaGreatB24
import Derived.Test.YtnblopilgfdjkaaGreatB25
import Derived.Test.YtnblopilgfdjkaaGreatB26
namespace Go.Proofs.YtnblopilgfdjkaaGreat.fnKeys
open Go.ChangeShapes Go.WideShapes Go.ChangeAt Go.RowKit
open Go.ChangeMaps (open_string shut_string)
set_option linter.unusedVariables false

theorem own : ownKnob Tryz.prog.godebug = none := by kernel_rfl
theorem laidOut : laidOutB Tryz.prog = true := by kernel_rfl

set_option maxRecDepth 100000 in
set_option maxHeartbeats 80000000 in
theorem walk (w : World) (y0 : Value) (l0 : List UInt8) (q0 : Frame.Bytes w y0 l0) :
    Calls Tryz.prog 3 #[y0] w fun e w' => e = .returned (.bool true) ∧ Below w.heap.size w w' := by
  by_cases hlen : (l0.length : Int) ≤ 1048576
  · obtain ⟨x, cap, rfl, -⟩ := Draw.bytes_at q0
    have hl : decide ((1048576 : Int) < (l0.length : Int)) = false := by simpa using hlen
    have Q0 := Lib.hid q0; clear q0 hlen
    obtain ⟨n0, hn0⟩ : ∃ n0, n0 = l0.length := ⟨_, rfl⟩
    rw [← hn0] at hl Q0 ⊢
    have HN0 := Lib.hid hn0; clear hn0
    have BB := Lib.hid (Below.refl w.heap.size w)
    go_enter Tryz.func3, Tryz.ntmps3
    go_wp2_with fail
    refine (Draw.big_no x n0 cap w hl).mono ?_
    rintro e w' ⟨rfl, rfl⟩
    go_wp2_with fail
    refine (Draw.dDrawSignWithKey _ _ l0 (Q0.out.on BB.out)).mono ?_
    rintro e w1 ⟨tl, me, mn, eb, til, U_l, U_e, U_n, U_b, rfl, ho_l, z_l, s_l, ho_e, b_e, ho_n, b_n, ho_b, y_b, l_b, hb⟩
    have HYB := Lib.hid y_b; clear y_b
    have HKl := Lib.hid (Row.Ring.KL.of z_l s_l)
    clear z_l s_l
    obtain ⟨x_l, n_l, c_l, rfl, ho_l⟩ := Row.Ring.kK_shapeA ho_l
    obtain ⟨x_e, n_e, c_e, rfl, ho_e⟩ := Row.kN_shapeA ho_e
    obtain ⟨x_n, n_n, c_n, rfl, ho_n⟩ := Row.kN_shapeA ho_n
    obtain ⟨x_b, n_b, c_b, rfl, ho_b⟩ := Row.kB_shapeA ho_b
    replace BB := Lib.hid (BB.out.trans (hb.mono BB.out.size))
    clear hb
    have H_l := Lib.hid ho_l; clear ho_l
    have H_e := Lib.hid ho_e; clear ho_e
    have H_n := Lib.hid ho_n; clear ho_n
    have H_b := Lib.hid ho_b; clear ho_b
    have hal := (Below.refl (w1).heap.size (w1)).alloc (Nat.le_refl _) (.cells #[.slice x_e n_e c_e] 27)
    replace H_l := Lib.hid (H_l.out.on hal)
    replace H_e := Lib.hid (H_e.out.on hal)
    replace H_n := Lib.hid (H_n.out.on hal)
    replace H_b := Lib.hid (H_b.out.on hal)
    replace BB := Lib.hid (BB.out.trans (hal.mono BB.out.size))
    have C_e := Lib.hid (Ret.Blk.new' (w := w1) #[.slice x_e n_e c_e] 27 (n := w1.heap.size) (by first | rfl | simp)); clear hal
    have hal := (Below.refl ((w1.alloc (.cells #[.slice x_e n_e c_e] 27))).heap.size ((w1.alloc (.cells #[.slice x_e n_e c_e] 27)))).alloc (Nat.le_refl _) (.cells #[.slice x_n n_n c_n] 27)
    replace C_e := Lib.hid (C_e.out.on hal)
    replace H_l := Lib.hid (H_l.out.on hal)
    replace H_e := Lib.hid (H_e.out.on hal)
    replace H_n := Lib.hid (H_n.out.on hal)
    replace H_b := Lib.hid (H_b.out.on hal)
    replace BB := Lib.hid (BB.out.trans (hal.mono BB.out.size))
    have C_n := Lib.hid (Ret.Blk.new' (w := (w1.alloc (.cells #[.slice x_e n_e c_e] 27))) #[.slice x_n n_n c_n] 27 (n := w1.heap.size + 1) (by first | rfl | simp)); clear hal
    have c0_e : ((w1.alloc (.cells #[.slice x_e n_e c_e] 27)).alloc (.cells #[.slice x_n n_n c_n] 27)).cell? ⟨w1.heap.size, 0, none⟩ = some (.slice x_e n_e c_e) := C_e.out.cell 0
    have c0_n : ((w1.alloc (.cells #[.slice x_e n_e c_e] 27)).alloc (.cells #[.slice x_n n_n c_n] 27)).cell? ⟨w1.heap.size + 1, 0, none⟩ = some (.slice x_n n_n c_n) := C_n.out.cell 0
    go_wp2_with fail
    clear c0_e c0_n
    obtain ⟨xx, h_xx⟩ : ∃ z, z = Row.Ring.sgK tl me mn eb til := ⟨_, rfl⟩
    have HXX := Lib.hid h_xx; clear h_xx
    obtain ⟨ok, h_ok⟩ : ∃ z, z = Row.Ring.sgOk tl me mn eb til := ⟨_, rfl⟩
    have HOK := Lib.hid h_ok; clear h_ok
    have b_x : Row.bulkD xx ≤ 3000 := by rw [HXX.out]; exact Row.Ring.sgK_bulk b_e b_n l_b
    have HYX := Lib.hid (show Sl.Byt xx.2.1 by rw [HXX.out]; exact Row.Ring.sgK_byt HYB.out)
    refine (Row.Ring.implSignWithKeyK _ _ _ _ tl me mn eb til _ H_l.out H_e.out H_n.out H_b.out HYB.out HKl.out.bulk (by omega) (by omega) (by omega)).mono ?_
    rintro e w2 ⟨U_x, rfl, ho_x, hb⟩
    rw [← HXX.out] at ho_x
    rw [← HOK.out]
    obtain ⟨x_xa, n_xa, c_xa, x_xb, n_xb, c_xb, x_xc, n_xc, c_xc, rfl, ho_x⟩ := Row.kD_shape ho_x
    replace C_e := Lib.hid (C_e.out.on hb)
    replace C_n := Lib.hid (C_n.out.on hb)
    replace H_l := Lib.hid (H_l.out.on hb)
    replace H_e := Lib.hid (H_e.out.on hb)
    replace H_n := Lib.hid (H_n.out.on hb)
    replace H_b := Lib.hid (H_b.out.on hb)
    replace BB := Lib.hid (BB.out.trans (hb.mono BB.out.size))
    clear hb
    have H_x := Lib.hid ho_x.at; clear ho_x
    have hal := (Below.refl (w2).heap.size (w2)).alloc (Nat.le_refl _) (.cells #[.slice x_xa n_xa c_xa, .slice x_xb n_xb c_xb, .slice x_xc n_xc c_xc, .int .i64 xx.2.2.2.1, .int .i64 xx.2.2.2.2] 31)
    replace C_e := Lib.hid (C_e.out.on hal)
    replace C_n := Lib.hid (C_n.out.on hal)
    replace H_l := Lib.hid (H_l.out.on hal)
    replace H_e := Lib.hid (H_e.out.on hal)
    replace H_n := Lib.hid (H_n.out.on hal)
    replace H_b := Lib.hid (H_b.out.on hal)
    replace H_x := Lib.hid (H_x.out.on hal)
    replace BB := Lib.hid (BB.out.trans (hal.mono BB.out.size))
    have C_x := Lib.hid (Ret.Blk.new' (w := w2) #[.slice x_xa n_xa c_xa, .slice x_xb n_xb c_xb, .slice x_xc n_xc c_xc, .int .i64 xx.2.2.2.1, .int .i64 xx.2.2.2.2] 31 (n := w2.heap.size) (by first | rfl | simp)); clear hal
    have c0_e : (w2.alloc (.cells #[.slice x_xa n_xa c_xa, .slice x_xb n_xb c_xb, .slice x_xc n_xc c_xc, .int .i64 xx.2.2.2.1, .int .i64 xx.2.2.2.2] 31)).cell? ⟨w1.heap.size, 0, none⟩ = some (.slice x_e n_e c_e) := C_e.out.cell 0
    have c0_n : (w2.alloc (.cells #[.slice x_xa n_xa c_xa, .slice x_xb n_xb c_xb, .slice x_xc n_xc c_xc, .int .i64 xx.2.2.2.1, .int .i64 xx.2.2.2.2] 31)).cell? ⟨w1.heap.size + 1, 0, none⟩ = some (.slice x_n n_n c_n) := C_n.out.cell 0
    go_wp2_with fail
    clear c0_e c0_n
    refine (Row.Ring.specSignWithKeyK _ _ _ _ tl me mn eb til _ H_l.out H_e.out H_n.out H_b.out HYB.out HKl.out.bulk (by omega) (by omega) (by omega)).mono ?_
    rintro e w3 ⟨U_y, rfl, ho_y, hb⟩
    rw [← HXX.out] at ho_y
    rw [← HOK.out]
    obtain ⟨x_ya, n_ya, c_ya, x_yb, n_yb, c_yb, x_yc, n_yc, c_yc, rfl, ho_y⟩ := Row.kD_shape ho_y
    replace C_e := Lib.hid (C_e.out.on hb)
    replace C_n := Lib.hid (C_n.out.on hb)
    replace C_x := Lib.hid (C_x.out.on hb)
    replace H_l := Lib.hid (H_l.out.on hb)
    replace H_e := Lib.hid (H_e.out.on hb)
    replace H_n := Lib.hid (H_n.out.on hb)
    replace H_b := Lib.hid (H_b.out.on hb)
    replace H_x := Lib.hid (H_x.out.on hb)
    replace BB := Lib.hid (BB.out.trans (hb.mono BB.out.size))
    clear hb
    have H_y := Lib.hid ho_y.at; clear ho_y
    have hal := (Below.refl (w3).heap.size (w3)).alloc (Nat.le_refl _) (.cells #[.slice x_ya n_ya c_ya, .slice x_yb n_yb c_yb, .slice x_yc n_yc c_yc, .int .i64 xx.2.2.2.1, .int .i64 xx.2.2.2.2] 31)
    replace C_e := Lib.hid (C_e.out.on hal)
    replace C_n := Lib.hid (C_n.out.on hal)
    replace C_x := Lib.hid (C_x.out.on hal)
    replace H_l := Lib.hid (H_l.out.on hal)
    replace H_e := Lib.hid (H_e.out.on hal)
    replace H_n := Lib.hid (H_n.out.on hal)
    replace H_b := Lib.hid (H_b.out.on hal)
    replace H_x := Lib.hid (H_x.out.on hal)
    replace H_y := Lib.hid (H_y.out.on hal)
    replace BB := Lib.hid (BB.out.trans (hal.mono BB.out.size))
    have C_y := Lib.hid (Ret.Blk.new' (w := w3) #[.slice x_ya n_ya c_ya, .slice x_yb n_yb c_yb, .slice x_yc n_yc c_yc, .int .i64 xx.2.2.2.1, .int .i64 xx.2.2.2.2] 31 (n := w3.heap.size) (by first | rfl | simp)); clear hal
    go_wp2_with fail
    clear H_e
    clear C_e
    clear H_n
    clear C_n
    refine (Draw.dDrawVerifySignature _ _ l0 (Q0.out.on BB.out)).mono ?_
    rintro e w4 ⟨tp, xq, U_p, U_q, rfl, ho_p, z_p, s_p, ho_q, b_q, f_q, hb⟩
    have HWq := Lib.hid f_q; clear f_q
    have HKp := Lib.hid (Row.Ring.KL.of z_p s_p)
    clear z_p s_p
    obtain ⟨x_p, n_p, c_p, rfl, ho_p⟩ := Row.Ring.kK_shapeA ho_p
    obtain ⟨x_qa, n_qa, c_qa, x_qb, n_qb, c_qb, x_qc, n_qc, c_qc, rfl, ho_q⟩ := Row.kD_shapeA ho_q
    replace C_x := Lib.hid (C_x.out.on hb)
    replace C_y := Lib.hid (C_y.out.on hb)
    replace H_l := Lib.hid (H_l.out.on hb)
    replace H_b := Lib.hid (H_b.out.on hb)
    replace H_x := Lib.hid (H_x.out.on hb)
    replace H_y := Lib.hid (H_y.out.on hb)
    replace BB := Lib.hid (BB.out.trans (hb.mono BB.out.size))
    clear hb
    have H_p := Lib.hid ho_p; clear ho_p
    have H_q := Lib.hid ho_q; clear ho_q
    have hal := (Below.refl (w4).heap.size (w4)).alloc (Nat.le_refl _) (.cells #[.slice x_qa n_qa c_qa, .slice x_qb n_qb c_qb, .slice x_qc n_qc c_qc, .int .i64 xq.2.2.2.1, .int .i64 xq.2.2.2.2] 31)
    replace C_x := Lib.hid (C_x.out.on hal)
    replace C_y := Lib.hid (C_y.out.on hal)
    replace H_l := Lib.hid (H_l.out.on hal)
    replace H_b := Lib.hid (H_b.out.on hal)
    replace H_x := Lib.hid (H_x.out.on hal)
    replace H_y := Lib.hid (H_y.out.on hal)
    replace H_p := Lib.hid (H_p.out.on hal)
    replace H_q := Lib.hid (H_q.out.on hal)
    replace BB := Lib.hid (BB.out.trans (hal.mono BB.out.size))
    have C_q := Lib.hid (Ret.Blk.new' (w := w4) #[.slice x_qa n_qa c_qa, .slice x_qb n_qb c_qb, .slice x_qc n_qc c_qc, .int .i64 xq.2.2.2.1, .int .i64 xq.2.2.2.2] 31 (n := w4.heap.size) (by first | rfl | simp)); clear hal
    go_wp2_with fail
    refine (Draw.dDrawAddKey _ _ l0 (Q0.out.on BB.out)).mono ?_
    rintro e w5 ⟨ta, xk, U_a, U_k, rfl, ho_a, z_a, s_a, ho_k, b_k, f_k, hb⟩
    have HWk := Lib.hid f_k; clear f_k
    have HKa := Lib.hid (Row.Ring.KL.of z_a s_a)
    have HK0 := Lib.hid (Row.Ring.KL.add z_a s_a b_k HWk.out)
    clear z_a s_a
    obtain ⟨x_a, n_a, c_a, rfl, ho_a⟩ := Row.Ring.kK_shapeA ho_a
    obtain ⟨x_k, n_k, c_k, rfl, ho_k⟩ := Row.Ring.k1_shapeA ho_k
    replace C_x := Lib.hid (C_x.out.on hb)
    replace C_y := Lib.hid (C_y.out.on hb)
    replace C_q := Lib.hid (C_q.out.on hb)
    replace H_l := Lib.hid (H_l.out.on hb)
    replace H_b := Lib.hid (H_b.out.on hb)
    replace H_x := Lib.hid (H_x.out.on hb)
    replace H_y := Lib.hid (H_y.out.on hb)
    replace H_p := Lib.hid (H_p.out.on hb)
    replace H_q := Lib.hid (H_q.out.on hb)
    replace BB := Lib.hid (BB.out.trans (hb.mono BB.out.size))
    clear hb
    have H_a := Lib.hid ho_a; clear ho_a
    have H_k := Lib.hid ho_k; clear ho_k
    have hal := (Below.refl (w5).heap.size (w5)).alloc (Nat.le_refl _) (.cells #[.slice x_k n_k c_k, .int .i64 xk.2] 37)
    replace C_x := Lib.hid (C_x.out.on hal)
    replace C_y := Lib.hid (C_y.out.on hal)
    replace C_q := Lib.hid (C_q.out.on hal)
    replace H_l := Lib.hid (H_l.out.on hal)
    replace H_b := Lib.hid (H_b.out.on hal)
    replace H_x := Lib.hid (H_x.out.on hal)
    replace H_y := Lib.hid (H_y.out.on hal)
    replace H_p := Lib.hid (H_p.out.on hal)
    replace H_q := Lib.hid (H_q.out.on hal)
    replace H_a := Lib.hid (H_a.out.on hal)
    replace H_k := Lib.hid (H_k.out.on hal)
    replace BB := Lib.hid (BB.out.trans (hal.mono BB.out.size))
    have C_k := Lib.hid (Ret.Blk.new' (w := w5) #[.slice x_k n_k c_k, .int .i64 xk.2] 37 (n := w5.heap.size) (by first | rfl | simp)); clear hal
    have c0_k : (w5.alloc (.cells #[.slice x_k n_k c_k, .int .i64 xk.2] 37)).cell? ⟨w5.heap.size, 0, none⟩ = some (.slice x_k n_k c_k) := C_k.out.cell 0
    have c1_k : (w5.alloc (.cells #[.slice x_k n_k c_k, .int .i64 xk.2] 37)).cell? ⟨w5.heap.size, 1, none⟩ = some (.int .i64 xk.2) := C_k.out.cell 1
    go_wp2_with fail
    clear c0_k c1_k
    obtain ⟨tc, h_tc⟩ : ∃ z, z = Row.Ring.addK ta xk := ⟨_, rfl⟩
    have HTC := Lib.hid h_tc; clear h_tc
    obtain ⟨may, h_may⟩ : ∃ z, z = Row.Ring.validK (ta ++ [xk]) := ⟨_, rfl⟩
    have HMAY := Lib.hid h_may; clear h_may
    have HKc := Lib.hid (show Row.Ring.KL tc by rw [HTC.out]; exact HK0.out); clear HK0
    refine (Row.Ring.implAddKeyK _ _ ta xk _ H_a.out H_k.out HKa.out.fits (Row.Ring.wfk1 b_k HWk.out) HKa.out.bulk (by omega)).mono ?_
    rintro e w6 ⟨U_c, rfl, ho_c, hb⟩
    rw [← HTC.out] at ho_c
    rw [← HMAY.out]
    obtain ⟨x_c, n_c, c_c, rfl, ho_c⟩ := Row.Ring.kK_shape ho_c
    replace C_x := Lib.hid (C_x.out.on hb)
    replace C_y := Lib.hid (C_y.out.on hb)
    replace C_q := Lib.hid (C_q.out.on hb)
    replace C_k := Lib.hid (C_k.out.on hb)
    replace H_l := Lib.hid (H_l.out.on hb)
    replace H_b := Lib.hid (H_b.out.on hb)
    replace H_x := Lib.hid (H_x.out.on hb)
    replace H_y := Lib.hid (H_y.out.on hb)
    replace H_p := Lib.hid (H_p.out.on hb)
    replace H_q := Lib.hid (H_q.out.on hb)
    replace H_a := Lib.hid (H_a.out.on hb)
    replace H_k := Lib.hid (H_k.out.on hb)
    replace BB := Lib.hid (BB.out.trans (hb.mono BB.out.size))
    clear hb
    have H_c := Lib.hid ho_c.at; clear ho_c
    have c0_k : w6.cell? ⟨w5.heap.size, 0, none⟩ = some (.slice x_k n_k c_k) := C_k.out.cell 0
    have c1_k : w6.cell? ⟨w5.heap.size, 1, none⟩ = some (.int .i64 xk.2) := C_k.out.cell 1
    go_wp2_with fail
    clear c0_k c1_k
    refine (Row.Ring.specAddKeyK _ _ ta xk _ H_a.out H_k.out HKa.out.bulk (by omega)).mono ?_
    rintro e w7 ⟨U_d, rfl, ho_d, hb⟩
    rw [← HTC.out] at ho_d
    rw [← HMAY.out]
    obtain ⟨x_d, n_d, c_d, rfl, ho_d⟩ := Row.Ring.kK_shape ho_d
    replace C_x := Lib.hid (C_x.out.on hb)
    replace C_y := Lib.hid (C_y.out.on hb)
    replace C_q := Lib.hid (C_q.out.on hb)
    replace C_k := Lib.hid (C_k.out.on hb)
    replace H_l := Lib.hid (H_l.out.on hb)
    replace H_b := Lib.hid (H_b.out.on hb)
    replace H_x := Lib.hid (H_x.out.on hb)
    replace H_y := Lib.hid (H_y.out.on hb)
    replace H_p := Lib.hid (H_p.out.on hb)
    replace H_q := Lib.hid (H_q.out.on hb)
    replace H_a := Lib.hid (H_a.out.on hb)
    replace H_k := Lib.hid (H_k.out.on hb)
    replace H_c := Lib.hid (H_c.out.on hb)
    replace BB := Lib.hid (BB.out.trans (hb.mono BB.out.size))
    clear hb
    have H_d := Lib.hid ho_d.at; clear ho_d
    go_wp2_with fail
    clear H_a
    refine (Draw.dDrawSecretOf _ _ l0 (Q0.out.on BB.out)).mono ?_
    rintro e w8 ⟨ts, ms, U_s, U_m, rfl, ho_s, z_s, s_s, ho_m, b_m, hb⟩
    have HKs := Lib.hid (Row.Ring.KL.of z_s s_s)
    clear z_s s_s
    obtain ⟨x_s, n_s, c_s, rfl, ho_s⟩ := Row.Ring.kK_shapeA ho_s
    obtain ⟨x_m, n_m, c_m, rfl, ho_m⟩ := Row.kN_shapeA ho_m
    replace C_x := Lib.hid (C_x.out.on hb)
    replace C_y := Lib.hid (C_y.out.on hb)
    replace C_q := Lib.hid (C_q.out.on hb)
    replace C_k := Lib.hid (C_k.out.on hb)
    replace H_l := Lib.hid (H_l.out.on hb)
    replace H_b := Lib.hid (H_b.out.on hb)
    replace H_x := Lib.hid (H_x.out.on hb)
    replace H_y := Lib.hid (H_y.out.on hb)
    replace H_p := Lib.hid (H_p.out.on hb)
    replace H_q := Lib.hid (H_q.out.on hb)
    replace H_k := Lib.hid (H_k.out.on hb)
    replace H_c := Lib.hid (H_c.out.on hb)
    replace H_d := Lib.hid (H_d.out.on hb)
    replace BB := Lib.hid (BB.out.trans (hb.mono BB.out.size))
    clear hb
    have H_s := Lib.hid ho_s; clear ho_s
    have H_m := Lib.hid ho_m; clear ho_m
    have hal := (Below.refl (w8).heap.size (w8)).alloc (Nat.le_refl _) (.cells #[.slice x_m n_m c_m] 27)
    replace C_x := Lib.hid (C_x.out.on hal)
    replace C_y := Lib.hid (C_y.out.on hal)
    replace C_q := Lib.hid (C_q.out.on hal)
    replace C_k := Lib.hid (C_k.out.on hal)
    replace H_l := Lib.hid (H_l.out.on hal)
    replace H_b := Lib.hid (H_b.out.on hal)
    replace H_x := Lib.hid (H_x.out.on hal)
    replace H_y := Lib.hid (H_y.out.on hal)
    replace H_p := Lib.hid (H_p.out.on hal)
    replace H_q := Lib.hid (H_q.out.on hal)
    replace H_k := Lib.hid (H_k.out.on hal)
    replace H_c := Lib.hid (H_c.out.on hal)
    replace H_d := Lib.hid (H_d.out.on hal)
    replace H_s := Lib.hid (H_s.out.on hal)
    replace H_m := Lib.hid (H_m.out.on hal)
    replace BB := Lib.hid (BB.out.trans (hal.mono BB.out.size))
    have C_m := Lib.hid (Ret.Blk.new' (w := w8) #[.slice x_m n_m c_m] 27 (n := w8.heap.size) (by first | rfl | simp)); clear hal
    go_wp2_with fail
    obtain ⟨q1, h_q1⟩ : ∃ z, Row.verD (Row.Ring.lkN tp xq.2.2.1) xq = z := ⟨_, rfl⟩
    have HQ1 := Lib.hid h_q1; clear h_q1
    obtain ⟨mt, h_mt⟩ : ∃ z, Row.Ring.matK tp xq = z := ⟨_, rfl⟩
    have HMT := Lib.hid h_mt; clear h_mt
    obtain ⟨q2, h_q2⟩ : ∃ z, Row.Ring.lkN ts ms = z := ⟨_, rfl⟩
    have HQ2 := Lib.hid h_q2; clear h_q2
    obtain ⟨q3, h_q3⟩ : ∃ z, Row.Ring.validK tp = z := ⟨_, rfl⟩
    have HQ3 := Lib.hid h_q3; clear h_q3
    obtain ⟨q4, h_q4⟩ : ∃ z, Row.Ring.fmtK tp = z := ⟨_, rfl⟩
    have HQ4 := Lib.hid h_q4; clear h_q4
    (try dsimp only [List.append])
    refine Row.Ring.regK11 H_x H_y H_q H_p H_c H_d H_s H_m HYX HWq HKp HKc HKs HQ1 HMT HQ2 HQ3 HQ4 b_x b_q b_m (Lib.hid (C_x.out.cell 0)) (Lib.hid (C_x.out.cell 1)) (Lib.hid (C_x.out.cell 2)) (Lib.hid (C_x.out.cell 3)) (Lib.hid (C_x.out.cell 4)) (Lib.hid (C_y.out.cell 0)) (Lib.hid (C_y.out.cell 1)) (Lib.hid (C_y.out.cell 2)) (Lib.hid (C_y.out.cell 3)) (Lib.hid (C_y.out.cell 4)) (Lib.hid (C_q.out.cell 0)) (Lib.hid (C_q.out.cell 1)) (Lib.hid (C_q.out.cell 2)) (Lib.hid (C_q.out.cell 3)) (Lib.hid (C_q.out.cell 4)) (Lib.hid (C_m.out.cell 0)) ?_
    intro u77 u78 u79 u80 u81 u82 u83 u84 u85 u86 u87 u88 u89 u90 u91 u92 u93 u94 u95 u96 u97 u98 u99 u100 u101 u102 u103 u104 u105 u106 u107 u108 u109 u110 u111 u112 u113 u114 u115 u116 u117 u118 u119 u120 u121 u122 u123 u124 u125 u126 u127 u128 u129 u130 u131 u132 u133 u134 u135 u136 u137 wx hb
    replace C_x := Lib.hid (C_x.out.on hb)
    replace C_y := Lib.hid (C_y.out.on hb)
    replace C_q := Lib.hid (C_q.out.on hb)
    replace C_k := Lib.hid (C_k.out.on hb)
    replace C_m := Lib.hid (C_m.out.on hb)
    replace H_l := Lib.hid (H_l.out.on hb)
    replace H_b := Lib.hid (H_b.out.on hb)
    replace H_x := Lib.hid (H_x.out.on hb)
    replace H_y := Lib.hid (H_y.out.on hb)
    replace H_p := Lib.hid (H_p.out.on hb)
    replace H_q := Lib.hid (H_q.out.on hb)
    replace H_k := Lib.hid (H_k.out.on hb)
    replace H_c := Lib.hid (H_c.out.on hb)
    replace H_d := Lib.hid (H_d.out.on hb)
    replace H_s := Lib.hid (H_s.out.on hb)
    replace H_m := Lib.hid (H_m.out.on hb)
    replace BB := Lib.hid (BB.out.trans (hb.mono BB.out.size))
    clear hb
    clear H_y
    clear C_y
    clear H_q
    clear C_q
    clear H_p
    clear H_d
    clear H_s
    clear H_m
    clear C_m
    clear HQ1 HMT HQ2 HQ3 HQ4 HWq HKp HKs
    cases may with
    | false =>
      go_wp2_with fail
      refine Row.Ring.regK13f ?_
      intro u139 u140 u141 u142 u143 u144 u145 u146 u147 u148 u149 u150 u151 u152 wy hb
      replace C_x := Lib.hid (C_x.out.on hb)
      replace C_k := Lib.hid (C_k.out.on hb)
      replace H_l := Lib.hid (H_l.out.on hb)
      replace H_b := Lib.hid (H_b.out.on hb)
      replace H_x := Lib.hid (H_x.out.on hb)
      replace H_k := Lib.hid (H_k.out.on hb)
      replace H_c := Lib.hid (H_c.out.on hb)
      replace BB := Lib.hid (BB.out.trans (hb.mono BB.out.size))
      clear hb
      clear H_c
      clear H_k
      clear C_k
      cases ok with
      | false =>
        have hzx : xx = Row.Ring.zD := by rw [HXX.out]; exact Row.Ring.sgK_no HOK.out.symm
        have HZX := Lib.hid hzx; clear hzx
        have c0_x : wy.cell? ⟨w2.heap.size, 0, none⟩ = some (.slice x_xa n_xa c_xa) := C_x.out.cell 0
        have c1_x : wy.cell? ⟨w2.heap.size, 1, none⟩ = some (.slice x_xb n_xb c_xb) := C_x.out.cell 1
        have c2_x : wy.cell? ⟨w2.heap.size, 2, none⟩ = some (.slice x_xc n_xc c_xc) := C_x.out.cell 2
        have c3_x : wy.cell? ⟨w2.heap.size, 3, none⟩ = some (.int .i64 xx.2.2.2.1) := C_x.out.cell 3
        have c4_x : wy.cell? ⟨w2.heap.size, 4, none⟩ = some (.int .i64 xx.2.2.2.2) := C_x.out.cell 4
        go_wp2_with fail
        clear c0_x c1_x c2_x c3_x c4_x
        refine (Row.sameDV true (show Row.eqD xx Row.Ring.zD = true by rw [HZX.out]; exact Row.eqD_self _) H_x.out (Row.kD_of (x := Row.Ring.zD) ⟨Row.Holds.nil _ _, Sl.Holds.nil _ _, Row.Holds.nil _ _⟩) HYX.out (HZX.out ▸ HYX.out) (by omega) (by decide)).mono ?_
        rintro e w9 ⟨rfl, hb⟩
        replace C_x := Lib.hid (C_x.out.on hb)
        replace H_l := Lib.hid (H_l.out.on hb)
        replace H_b := Lib.hid (H_b.out.on hb)
        replace H_x := Lib.hid (H_x.out.on hb)
        replace BB := Lib.hid (BB.out.trans (hb.mono BB.out.size))
        clear hb
        go_wp2_with fail
        go_ret
        exact ⟨rfl, BB.out⟩
      | true =>
        obtain ⟨q5, h_q5⟩ : ∃ z, Row.Ring.validK tl = z := ⟨_, rfl⟩
        have HQ5 := Lib.hid h_q5; clear h_q5
        go_wp2_with fail
        refine (Row.Ring.iVkV q5 HQ5.out H_l.out HKl.out).mono ?_
        rintro e w10 ⟨rfl, hb⟩
        replace C_x := Lib.hid (C_x.out.on hb)
        replace H_l := Lib.hid (H_l.out.on hb)
        replace H_b := Lib.hid (H_b.out.on hb)
        replace H_x := Lib.hid (H_x.out.on hb)
        replace BB := Lib.hid (BB.out.trans (hb.mono BB.out.size))
        clear hb
        cases q5 with
        | false =>
          go_wp2_with fail
          go_ret
          exact ⟨rfl, BB.out⟩
        | true =>
          have HSV := Lib.hid (show Row.verD (Row.Ring.lkN tl xx.2.2.1) xx = true by rw [HXX.out]; exact Row.Ring.sgK_ver HOK.out.symm HQ5.out)
          have HVX := Lib.hid (show Row.validD xx = true by rw [HXX.out]; exact Row.Ring.sgK_val HOK.out.symm)
          have HCN := Lib.hid (show xx.2.1 = eb by rw [HXX.out]; exact Row.Ring.sgK_con HOK.out.symm)
          have HWx := Lib.hid (Row.Ring.val_wf HVX.out HYX.out b_x)
          have hmx := Row.Ring.sgK_mat HOK.out.symm HQ5.out
          rw [← HXX.out] at hmx
          obtain ⟨mx, h_mx⟩ : ∃ z, Row.Ring.matK tl xx = z := ⟨_, rfl⟩
          rw [h_mx] at hmx
          have HMX := Lib.hid h_mx; clear h_mx
          have c0_x : w10.cell? ⟨w2.heap.size, 0, none⟩ = some (.slice x_xa n_xa c_xa) := C_x.out.cell 0
          have c1_x : w10.cell? ⟨w2.heap.size, 1, none⟩ = some (.slice x_xb n_xb c_xb) := C_x.out.cell 1
          have c2_x : w10.cell? ⟨w2.heap.size, 2, none⟩ = some (.slice x_xc n_xc c_xc) := C_x.out.cell 2
          have c3_x : w10.cell? ⟨w2.heap.size, 3, none⟩ = some (.int .i64 xx.2.2.2.1) := C_x.out.cell 3
          have c4_x : w10.cell? ⟨w2.heap.size, 4, none⟩ = some (.int .i64 xx.2.2.2.2) := C_x.out.cell 4
          go_wp2_with fail
          clear c0_x c1_x c2_x c3_x c4_x
          refine (Row.Ring.iVsV true HSV.out H_l.out H_x.out HWx.out HKl.out b_x).mono ?_
          rintro e w11 ⟨rfl, hb⟩
          replace C_x := Lib.hid (C_x.out.on hb)
          replace H_l := Lib.hid (H_l.out.on hb)
          replace H_b := Lib.hid (H_b.out.on hb)
          replace H_x := Lib.hid (H_x.out.on hb)
          replace BB := Lib.hid (BB.out.trans (hb.mono BB.out.size))
          clear hb
          have c0_x : w11.cell? ⟨w2.heap.size, 0, none⟩ = some (.slice x_xa n_xa c_xa) := C_x.out.cell 0
          have c1_x : w11.cell? ⟨w2.heap.size, 1, none⟩ = some (.slice x_xb n_xb c_xb) := C_x.out.cell 1
          have c2_x : w11.cell? ⟨w2.heap.size, 2, none⟩ = some (.slice x_xc n_xc c_xc) := C_x.out.cell 2
          have c3_x : w11.cell? ⟨w2.heap.size, 3, none⟩ = some (.int .i64 xx.2.2.2.1) := C_x.out.cell 3
          have c4_x : w11.cell? ⟨w2.heap.size, 4, none⟩ = some (.int .i64 xx.2.2.2.2) := C_x.out.cell 4
          go_wp2_with fail
          clear c0_x c1_x c2_x c3_x c4_x
          refine (Row.Ring.iMkV mx HMX.out H_l.out H_x.out HWx.out HKl.out b_x).mono ?_
          rintro e w12 ⟨U_i, rfl, ho_i, hb⟩
          obtain ⟨x_i, n_i, c_i, rfl, ho_i⟩ := Row.kI_shape ho_i
          replace C_x := Lib.hid (C_x.out.on hb)
          replace H_l := Lib.hid (H_l.out.on hb)
          replace H_b := Lib.hid (H_b.out.on hb)
          replace H_x := Lib.hid (H_x.out.on hb)
          replace BB := Lib.hid (BB.out.trans (hb.mono BB.out.size))
          clear hb
          have H_i := Lib.hid ho_i.at; clear ho_i
          have hni : n_i = mx.length := (Row.kS_at H_i.out).lenEq
          have hgi : (1 : Int) ≤ (n_i : Int) := by omega
          clear hni hmx
          have c0_x : w12.cell? ⟨w2.heap.size, 0, none⟩ = some (.slice x_xa n_xa c_xa) := C_x.out.cell 0
          have c1_x : w12.cell? ⟨w2.heap.size, 1, none⟩ = some (.slice x_xb n_xb c_xb) := C_x.out.cell 1
          have c2_x : w12.cell? ⟨w2.heap.size, 2, none⟩ = some (.slice x_xc n_xc c_xc) := C_x.out.cell 2
          have c3_x : w12.cell? ⟨w2.heap.size, 3, none⟩ = some (.int .i64 xx.2.2.2.1) := C_x.out.cell 3
          have c4_x : w12.cell? ⟨w2.heap.size, 4, none⟩ = some (.int .i64 xx.2.2.2.2) := C_x.out.cell 4
          go_wp2_with fail
          clear c0_x c1_x c2_x c3_x c4_x
          clear hgi
          refine (Row.iValV true HVX.out H_x.out (by omega)).mono ?_
          rintro e w13 ⟨rfl, hb⟩
          replace C_x := Lib.hid (C_x.out.on hb)
          replace H_l := Lib.hid (H_l.out.on hb)
          replace H_b := Lib.hid (H_b.out.on hb)
          replace H_x := Lib.hid (H_x.out.on hb)
          replace H_i := Lib.hid (H_i.out.on hb)
          replace BB := Lib.hid (BB.out.trans (hb.mono BB.out.size))
          clear hb
          have c0_x : w13.cell? ⟨w2.heap.size, 0, none⟩ = some (.slice x_xa n_xa c_xa) := C_x.out.cell 0
          have c1_x : w13.cell? ⟨w2.heap.size, 1, none⟩ = some (.slice x_xb n_xb c_xb) := C_x.out.cell 1
          have c2_x : w13.cell? ⟨w2.heap.size, 2, none⟩ = some (.slice x_xc n_xc c_xc) := C_x.out.cell 2
          have c3_x : w13.cell? ⟨w2.heap.size, 3, none⟩ = some (.int .i64 xx.2.2.2.1) := C_x.out.cell 3
          have c4_x : w13.cell? ⟨w2.heap.size, 4, none⟩ = some (.int .i64 xx.2.2.2.2) := C_x.out.cell 4
          go_wp2_with fail
          clear c0_x c1_x c2_x c3_x c4_x
          refine (Row.sameBV8 HCN.out (Row.kB_of (Row.kD_parts H_x.out).2.1) H_b.out (by unfold Row.bulkD at b_x; omega)).mono ?_
          rintro e w14 ⟨rfl, hb⟩
          replace C_x := Lib.hid (C_x.out.on hb)
          replace H_l := Lib.hid (H_l.out.on hb)
          replace H_b := Lib.hid (H_b.out.on hb)
          replace H_x := Lib.hid (H_x.out.on hb)
          replace H_i := Lib.hid (H_i.out.on hb)
          replace BB := Lib.hid (BB.out.trans (hb.mono BB.out.size))
          clear hb
          go_wp2_with fail
          go_ret
          exact ⟨rfl, BB.out⟩
    | true =>
      go_wp2_with fail
      have HAD := Lib.hid (show Row.Ring.lkN tc xk.1 = xk.2 by rw [HTC.out]; exact Row.Ring.may_lk HMAY.out.symm)
      have HAV := Lib.hid (show Row.Ring.validK tc = true by rw [HTC.out]; exact Row.Ring.may_val HMAY.out.symm)
      refine Row.Ring.regK13t H_c H_k HKc HAD HAV b_k (Lib.hid (C_k.out.cell 0)) (Lib.hid (C_k.out.cell 1)) ?_
      intro u139 u140 u141 u142 u143 u144 u145 u146 u147 u148 u149 u150 u151 u152 wy hb
      replace C_x := Lib.hid (C_x.out.on hb)
      replace C_k := Lib.hid (C_k.out.on hb)
      replace H_l := Lib.hid (H_l.out.on hb)
      replace H_b := Lib.hid (H_b.out.on hb)
      replace H_x := Lib.hid (H_x.out.on hb)
      replace H_k := Lib.hid (H_k.out.on hb)
      replace H_c := Lib.hid (H_c.out.on hb)
      replace BB := Lib.hid (BB.out.trans (hb.mono BB.out.size))
      clear hb
      clear H_c
      clear H_k
      clear C_k
      cases ok with
      | false =>
        have hzx : xx = Row.Ring.zD := by rw [HXX.out]; exact Row.Ring.sgK_no HOK.out.symm
        have HZX := Lib.hid hzx; clear hzx
        have c0_x : wy.cell? ⟨w2.heap.size, 0, none⟩ = some (.slice x_xa n_xa c_xa) := C_x.out.cell 0
        have c1_x : wy.cell? ⟨w2.heap.size, 1, none⟩ = some (.slice x_xb n_xb c_xb) := C_x.out.cell 1
        have c2_x : wy.cell? ⟨w2.heap.size, 2, none⟩ = some (.slice x_xc n_xc c_xc) := C_x.out.cell 2
        have c3_x : wy.cell? ⟨w2.heap.size, 3, none⟩ = some (.int .i64 xx.2.2.2.1) := C_x.out.cell 3
        have c4_x : wy.cell? ⟨w2.heap.size, 4, none⟩ = some (.int .i64 xx.2.2.2.2) := C_x.out.cell 4
        go_wp2_with fail
        clear c0_x c1_x c2_x c3_x c4_x
        refine (Row.sameDV true (show Row.eqD xx Row.Ring.zD = true by rw [HZX.out]; exact Row.eqD_self _) H_x.out (Row.kD_of (x := Row.Ring.zD) ⟨Row.Holds.nil _ _, Sl.Holds.nil _ _, Row.Holds.nil _ _⟩) HYX.out (HZX.out ▸ HYX.out) (by omega) (by decide)).mono ?_
        rintro e w15 ⟨rfl, hb⟩
        replace C_x := Lib.hid (C_x.out.on hb)
        replace H_l := Lib.hid (H_l.out.on hb)
        replace H_b := Lib.hid (H_b.out.on hb)
        replace H_x := Lib.hid (H_x.out.on hb)
        replace BB := Lib.hid (BB.out.trans (hb.mono BB.out.size))
        clear hb
        go_wp2_with fail
        go_ret
        exact ⟨rfl, BB.out⟩
      | true =>
        obtain ⟨q5, h_q5⟩ : ∃ z, Row.Ring.validK tl = z := ⟨_, rfl⟩
        have HQ5 := Lib.hid h_q5; clear h_q5
        go_wp2_with fail
        refine (Row.Ring.iVkV q5 HQ5.out H_l.out HKl.out).mono ?_
        rintro e w16 ⟨rfl, hb⟩
        replace C_x := Lib.hid (C_x.out.on hb)
        replace H_l := Lib.hid (H_l.out.on hb)
        replace H_b := Lib.hid (H_b.out.on hb)
        replace H_x := Lib.hid (H_x.out.on hb)
        replace BB := Lib.hid (BB.out.trans (hb.mono BB.out.size))
        clear hb
        cases q5 with
        | false =>
          go_wp2_with fail
          go_ret
          exact ⟨rfl, BB.out⟩
        | true =>
          have HSV := Lib.hid (show Row.verD (Row.Ring.lkN tl xx.2.2.1) xx = true by rw [HXX.out]; exact Row.Ring.sgK_ver HOK.out.symm HQ5.out)
          have HVX := Lib.hid (show Row.validD xx = true by rw [HXX.out]; exact Row.Ring.sgK_val HOK.out.symm)
          have HCN := Lib.hid (show xx.2.1 = eb by rw [HXX.out]; exact Row.Ring.sgK_con HOK.out.symm)
          have HWx := Lib.hid (Row.Ring.val_wf HVX.out HYX.out b_x)
          have hmx := Row.Ring.sgK_mat HOK.out.symm HQ5.out
          rw [← HXX.out] at hmx
          obtain ⟨mx, h_mx⟩ : ∃ z, Row.Ring.matK tl xx = z := ⟨_, rfl⟩
          rw [h_mx] at hmx
          have HMX := Lib.hid h_mx; clear h_mx
          have c0_x : w16.cell? ⟨w2.heap.size, 0, none⟩ = some (.slice x_xa n_xa c_xa) := C_x.out.cell 0
          have c1_x : w16.cell? ⟨w2.heap.size, 1, none⟩ = some (.slice x_xb n_xb c_xb) := C_x.out.cell 1
          have c2_x : w16.cell? ⟨w2.heap.size, 2, none⟩ = some (.slice x_xc n_xc c_xc) := C_x.out.cell 2
          have c3_x : w16.cell? ⟨w2.heap.size, 3, none⟩ = some (.int .i64 xx.2.2.2.1) := C_x.out.cell 3
          have c4_x : w16.cell? ⟨w2.heap.size, 4, none⟩ = some (.int .i64 xx.2.2.2.2) := C_x.out.cell 4
          go_wp2_with fail
          clear c0_x c1_x c2_x c3_x c4_x
          refine (Row.Ring.iVsV true HSV.out H_l.out H_x.out HWx.out HKl.out b_x).mono ?_
          rintro e w17 ⟨rfl, hb⟩
          replace C_x := Lib.hid (C_x.out.on hb)
          replace H_l := Lib.hid (H_l.out.on hb)
          replace H_b := Lib.hid (H_b.out.on hb)
          replace H_x := Lib.hid (H_x.out.on hb)
          replace BB := Lib.hid (BB.out.trans (hb.mono BB.out.size))
          clear hb
          have c0_x : w17.cell? ⟨w2.heap.size, 0, none⟩ = some (.slice x_xa n_xa c_xa) := C_x.out.cell 0
          have c1_x : w17.cell? ⟨w2.heap.size, 1, none⟩ = some (.slice x_xb n_xb c_xb) := C_x.out.cell 1
          have c2_x : w17.cell? ⟨w2.heap.size, 2, none⟩ = some (.slice x_xc n_xc c_xc) := C_x.out.cell 2
          have c3_x : w17.cell? ⟨w2.heap.size, 3, none⟩ = some (.int .i64 xx.2.2.2.1) := C_x.out.cell 3
          have c4_x : w17.cell? ⟨w2.heap.size, 4, none⟩ = some (.int .i64 xx.2.2.2.2) := C_x.out.cell 4
          go_wp2_with fail
          clear c0_x c1_x c2_x c3_x c4_x
          refine (Row.Ring.iMkV mx HMX.out H_l.out H_x.out HWx.out HKl.out b_x).mono ?_
          rintro e w18 ⟨U_i, rfl, ho_i, hb⟩
          obtain ⟨x_i, n_i, c_i, rfl, ho_i⟩ := Row.kI_shape ho_i
          replace C_x := Lib.hid (C_x.out.on hb)
          replace H_l := Lib.hid (H_l.out.on hb)
          replace H_b := Lib.hid (H_b.out.on hb)
          replace H_x := Lib.hid (H_x.out.on hb)
          replace BB := Lib.hid (BB.out.trans (hb.mono BB.out.size))
          clear hb
          have H_i := Lib.hid ho_i.at; clear ho_i
          have hni : n_i = mx.length := (Row.kS_at H_i.out).lenEq
          have hgi : (1 : Int) ≤ (n_i : Int) := by omega
          clear hni hmx
          have c0_x : w18.cell? ⟨w2.heap.size, 0, none⟩ = some (.slice x_xa n_xa c_xa) := C_x.out.cell 0
          have c1_x : w18.cell? ⟨w2.heap.size, 1, none⟩ = some (.slice x_xb n_xb c_xb) := C_x.out.cell 1
          have c2_x : w18.cell? ⟨w2.heap.size, 2, none⟩ = some (.slice x_xc n_xc c_xc) := C_x.out.cell 2
          have c3_x : w18.cell? ⟨w2.heap.size, 3, none⟩ = some (.int .i64 xx.2.2.2.1) := C_x.out.cell 3
          have c4_x : w18.cell? ⟨w2.heap.size, 4, none⟩ = some (.int .i64 xx.2.2.2.2) := C_x.out.cell 4
          go_wp2_with fail
          clear c0_x c1_x c2_x c3_x c4_x
          clear hgi
          refine (Row.iValV true HVX.out H_x.out (by omega)).mono ?_
          rintro e w19 ⟨rfl, hb⟩
          replace C_x := Lib.hid (C_x.out.on hb)
          replace H_l := Lib.hid (H_l.out.on hb)
          replace H_b := Lib.hid (H_b.out.on hb)
          replace H_x := Lib.hid (H_x.out.on hb)
          replace H_i := Lib.hid (H_i.out.on hb)
          replace BB := Lib.hid (BB.out.trans (hb.mono BB.out.size))
          clear hb
          have c0_x : w19.cell? ⟨w2.heap.size, 0, none⟩ = some (.slice x_xa n_xa c_xa) := C_x.out.cell 0
          have c1_x : w19.cell? ⟨w2.heap.size, 1, none⟩ = some (.slice x_xb n_xb c_xb) := C_x.out.cell 1
          have c2_x : w19.cell? ⟨w2.heap.size, 2, none⟩ = some (.slice x_xc n_xc c_xc) := C_x.out.cell 2
          have c3_x : w19.cell? ⟨w2.heap.size, 3, none⟩ = some (.int .i64 xx.2.2.2.1) := C_x.out.cell 3
          have c4_x : w19.cell? ⟨w2.heap.size, 4, none⟩ = some (.int .i64 xx.2.2.2.2) := C_x.out.cell 4
          go_wp2_with fail
          clear c0_x c1_x c2_x c3_x c4_x
          refine (Row.sameBV8 HCN.out (Row.kB_of (Row.kD_parts H_x.out).2.1) H_b.out (by unfold Row.bulkD at b_x; omega)).mono ?_
          rintro e w20 ⟨rfl, hb⟩
          replace C_x := Lib.hid (C_x.out.on hb)
          replace H_l := Lib.hid (H_l.out.on hb)
          replace H_b := Lib.hid (H_b.out.on hb)
          replace H_x := Lib.hid (H_x.out.on hb)
          replace H_i := Lib.hid (H_i.out.on hb)
          replace BB := Lib.hid (BB.out.trans (hb.mono BB.out.size))
          clear hb
          go_wp2_with fail
          go_ret
          exact ⟨rfl, BB.out⟩
  · obtain ⟨x, cap, rfl, -⟩ := Draw.bytes_at q0
    have hl : decide ((1048576 : Int) < (l0.length : Int)) = true := by simpa using hlen
    clear hlen q0
    obtain ⟨n0, hn0⟩ : ∃ n0, n0 = l0.length := ⟨_, rfl⟩
    rw [← hn0] at hl ⊢
    clear hn0
    go_enter Tryz.func3, Tryz.ntmps3
    go_wp2_with fail
    refine (Draw.big_yes x n0 cap w hl).mono ?_
    rintro e w' ⟨rfl, rfl⟩
    go_wp2_with fail
    go_ret
    exact ⟨rfl, Below.refl _ _⟩

set_option maxRecDepth 100000 in
theorem lifted (os : Os) (started : os.Started) (H : Type) (enc : TypeId × Value → H) :
    ReturnsInHanded {} Tryz.checked os 3 .any (Rows.fnKeysSpec.pre6 enc Tryz.prog Tryz.f3 Rows.fnKeysRow.domain false) (Rows.fnKeysSpec.post enc Tryz.prog Tryz.f3 false true false false) := by
  refine returnsInHanded_of_change_sized (C := Tryz.checked) own started (by kernel_rfl) Tryz.func3
    (ChangeSpec.witness6 (enc := enc) (C := Tryz.checked) false ⟨#[], #[.slice none 0 0], []⟩ 8 (by kernel_rfl) (by kernel_rfl) (by kernel_rfl) (by kernel_rfl)) ?_
  intro W base args ds gs before hval0 hW _ hsz0 _
  have hval : ∀ (j : Nat) t v, Tryz.f3.params[j]? = some t → args[j]? = some v → Value.okWide Tryz.prog W .any base t v := hval0
  have hsz : (DataW.weightsEach Tryz.prog (Tryz.f3.params.toList ++ Rows.fnKeysSpec.plain.varTypes Tryz.prog) (ds ++ gs)).all (· ≤ reachBytes) = true := hsz0
  clear hsz0
  have hW' := hW
  obtain ⟨p, q, hA0, hV, rfl, hfz, hnd⟩ := hW
  have hA : DataW.TrodAll enc Tryz.prog W 0 (fun _ => true) true Tryz.f3.params.toList args.toList ds p := hA0
  rw [Tryz.params3] at hA hval hsz
  obtain ⟨v0, vs0, d0, ds0, p0, q0, hargs, rfl, rfl, h0, r0⟩ := trodAll_cons hA
  obtain ⟨rfl, rfl, rfl⟩ := trodAll_nil r0
  obtain rfl : args = #[v0] := by cases args; simp_all
  obtain ⟨rfl, rfl⟩ := trodVars_none hV
  obtain ⟨l0, q0⟩ := Frame.open_bytes (j := 0) Tryz.underlying22 Tryz.underlying5 (by kernel_rfl) (by kernel_rfl) (hval 0 22 v0 rfl rfl) h0 hsz rfl rfl
  clear hA0 hval0
  refine (walk W _ _ q0).mono fun e W' ⟨he, hb⟩ => ?_
  subst he
  exact ⟨_, rfl, Frame.law_post laidOut (by kernel_rfl) rfl Tryz.underlying4 rfl rfl hW' hb⟩

theorem said : Rows.FnKeysSaid :=
  OpenClaim.holds_of_wide 3 Tryz.f3 rfl rfl rfl rfl rfl rfl rfl ⟨rfl, rfl, rfl, rfl, rfl⟩ rfl rfl rfl rfl rfl (by kernel_rfl) Tryz.func3 (by kernel_rfl)
    (of_decide_eq_true (by kernel_rfl)) (by unfold Func.isWrapper; first | (rw [if_pos (by decide +kernel)]; kernel_rfl) | (rw [if_neg (by decide +kernel)]; exact ⟨rfl, rfl⟩))
    (fun os started H enc _ => lifted os started H enc)

#print axioms said
end Go.Proofs.YtnblopilgfdjkaaGreat.fnKeys
