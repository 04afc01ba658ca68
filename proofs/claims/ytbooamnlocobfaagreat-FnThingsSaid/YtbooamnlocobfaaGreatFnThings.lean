/- Data are decoded from their encodings, and no other bytes are accepted; a signature verifies exactly for what was signed, for a valid secret. No conditions. -/
import Derived.Test.YtbooamnlocobfaaGreatRows
import Derived.WalkKit
import Derived.ProofKit
import Derived.OpenShut
import Derived.SizedLaws
import Derived.Test.YtbooamnlocobfaaGreatB1
import Derived.Test.YtbooamnlocobfaaGreatB12
import Derived.Test.YtbooamnlocobfaaGreatB13
import Derived.Test.YtbooamnlocobfaaGreatB11
namespace Go.Proofs.YtbooamnlocobfaaGreat.fnThings
open Go.ChangeShapes Go.WideShapes Go.ChangeAt Go.RowKit
open Go.ChangeMaps (open_string shut_string)
set_option linter.unusedVariables false

theorem own : ownKnob Tryz.prog.godebug = none := by kernel_rfl
theorem laidOut : laidOutB Tryz.prog = true := by kernel_rfl

set_option maxRecDepth 100000 in
set_option maxHeartbeats 80000000 in
theorem walk (w : World) (y0 : Value) (l0 : List UInt8) (q0 : Frame.Bytes w y0 l0) :
    Calls Tryz.prog 3 #[y0] w fun e w' => e = .returned (.bool true) ∧ Below w.heap.size w w' := by
  by_cases hlen : (l0.length : Int) ≤ 1048576
  · obtain ⟨x, cap, rfl, -⟩ := Draw.bytes_at q0
    have hl : decide ((1048576 : Int) < (l0.length : Int)) = false := by simpa using hlen
    have Q0 := Lib.hid q0; clear q0 hlen
    obtain ⟨n0, hn0⟩ : ∃ n0, n0 = l0.length := ⟨_, rfl⟩
    rw [← hn0] at hl Q0 ⊢
    have HN0 := Lib.hid hn0; clear hn0
    have BB := Lib.hid (Below.refl w.heap.size w)
    go_enter Tryz.func3, Tryz.ntmps3
    go_wp2_with fail
    refine (Draw.big_no x n0 cap w hl).mono ?_
    rintro e w' ⟨rfl, rfl⟩
    go_wp2_with fail
    refine (Draw.drawEncodeData _ _ l0 (Q0.out.on BB.out)).mono ?_
    rintro e w1 ⟨U_w, xw, rfl, ho_w, b_w, f_w, hb⟩
    have HWw := Lib.hid f_w; clear f_w
    obtain ⟨x_wa, n_wa, c_wa, x_wb, n_wb, c_wb, x_wc, n_wc, c_wc, rfl, ho_w⟩ := Row.kD_shapeA ho_w
    replace BB := Lib.hid (BB.out.trans (hb.mono BB.out.size))
    clear hb
    have H_w := Lib.hid ho_w; clear ho_w
    have hal := (Below.refl (w1).heap.size (w1)).alloc (Nat.le_refl _) (.cells #[.slice x_wa n_wa c_wa, .slice x_wb n_wb c_wb, .slice x_wc n_wc c_wc, .int .i64 xw.2.2.2.1, .int .i64 xw.2.2.2.2] 28)
    replace H_w := Lib.hid (H_w.out.on hal)
    replace BB := Lib.hid (BB.out.trans (hal.mono BB.out.size))
    have C_w := Lib.hid (Ret.Blk.new' (w := w1) #[.slice x_wa n_wa c_wa, .slice x_wb n_wb c_wb, .slice x_wc n_wc c_wc, .int .i64 xw.2.2.2.1, .int .i64 xw.2.2.2.2] 28 (n := w1.heap.size) (by first | rfl | simp)); clear hal
    have c0_w : (w1.alloc (.cells #[.slice x_wa n_wa c_wa, .slice x_wb n_wb c_wb, .slice x_wc n_wc c_wc, .int .i64 xw.2.2.2.1, .int .i64 xw.2.2.2.2] 28)).cell? ⟨w1.heap.size, 0, none⟩ = some (.slice x_wa n_wa c_wa) := C_w.out.cell 0
    have c1_w : (w1.alloc (.cells #[.slice x_wa n_wa c_wa, .slice x_wb n_wb c_wb, .slice x_wc n_wc c_wc, .int .i64 xw.2.2.2.1, .int .i64 xw.2.2.2.2] 28)).cell? ⟨w1.heap.size, 1, none⟩ = some (.slice x_wb n_wb c_wb) := C_w.out.cell 1
    have c2_w : (w1.alloc (.cells #[.slice x_wa n_wa c_wa, .slice x_wb n_wb c_wb, .slice x_wc n_wc c_wc, .int .i64 xw.2.2.2.1, .int .i64 xw.2.2.2.2] 28)).cell? ⟨w1.heap.size, 2, none⟩ = some (.slice x_wc n_wc c_wc) := C_w.out.cell 2
    have c3_w : (w1.alloc (.cells #[.slice x_wa n_wa c_wa, .slice x_wb n_wb c_wb, .slice x_wc n_wc c_wc, .int .i64 xw.2.2.2.1, .int .i64 xw.2.2.2.2] 28)).cell? ⟨w1.heap.size, 3, none⟩ = some (.int .i64 xw.2.2.2.1) := C_w.out.cell 3
    have c4_w : (w1.alloc (.cells #[.slice x_wa n_wa c_wa, .slice x_wb n_wb c_wb, .slice x_wc n_wc c_wc, .int .i64 xw.2.2.2.1, .int .i64 xw.2.2.2.2] 28)).cell? ⟨w1.heap.size, 4, none⟩ = some (.int .i64 xw.2.2.2.2) := C_w.out.cell 4
    go_wp2_with fail
    clear c0_w c1_w c2_w c3_w c4_w
    refine (Row.implEncodeDataK _ xw _ H_w.out (by omega)).mono ?_
    rintro e w2 ⟨U_b, rfl, ho_b, hb⟩
    obtain ⟨eb, h_eb⟩ : ∃ z, z = Row.encD xw := ⟨_, rfl⟩
    rw [← h_eb] at ho_b
    have l_b : eb.length ≤ 1000000 := by rw [h_eb]; have := Row.encD_len xw; omega
    have HEB := Lib.hid h_eb; clear h_eb
    obtain ⟨x_b, n_b, c_b, rfl, ho_b⟩ := Row.kB_shape ho_b
    replace C_w := Lib.hid (C_w.out.on hb)
    replace H_w := Lib.hid (H_w.out.on hb)
    replace BB := Lib.hid (BB.out.trans (hb.mono BB.out.size))
    clear hb
    have H_b := Lib.hid ho_b.at; clear ho_b
    go_wp2_with fail
    refine (Draw.drawDecodeData _ _ l0 (Q0.out.on BB.out)).mono ?_
    rintro e w3 ⟨U_c, ec, rfl, ho_c, y_c, l_c, hb⟩
    have HYC := Lib.hid y_c; clear y_c
    obtain ⟨x_c, n_c, c_c, rfl, ho_c⟩ := Row.kB_shapeA ho_c
    replace C_w := Lib.hid (C_w.out.on hb)
    replace H_w := Lib.hid (H_w.out.on hb)
    replace H_b := Lib.hid (H_b.out.on hb)
    replace BB := Lib.hid (BB.out.trans (hb.mono BB.out.size))
    clear hb
    have H_c := Lib.hid ho_c; clear ho_c
    go_wp2_with fail
    obtain ⟨xx, h_xx⟩ : ∃ z, z = (Row.dcD ec).1 := ⟨_, rfl⟩
    have HXX := Lib.hid h_xx; clear h_xx
    obtain ⟨ok, h_ok⟩ : ∃ z, z = (Row.dcD ec).2 := ⟨_, rfl⟩
    have HOK := Lib.hid h_ok; clear h_ok
    have b_x : Row.bulkD xx ≤ 3000 := by rw [HXX.out]; exact Nat.le_trans (Row.dcD_bulk ec) (by decide)
    have HYX := Lib.hid (show Sl.Byt xx.2.1 by rw [HXX.out]; exact Row.dcD_byt HYC.out)
    refine (Row.implDecodeDataK _ ec _ H_c.out HYC.out (by omega)).mono ?_
    rintro e w4 ⟨U_x, rfl, ho_x, hb⟩
    rw [← HXX.out] at ho_x
    rw [← HOK.out]
    obtain ⟨x_xa, n_xa, c_xa, x_xb, n_xb, c_xb, x_xc, n_xc, c_xc, rfl, ho_x⟩ := Row.kD_shape ho_x
    replace C_w := Lib.hid (C_w.out.on hb)
    replace H_w := Lib.hid (H_w.out.on hb)
    replace H_b := Lib.hid (H_b.out.on hb)
    replace H_c := Lib.hid (H_c.out.on hb)
    replace BB := Lib.hid (BB.out.trans (hb.mono BB.out.size))
    clear hb
    have H_x := Lib.hid ho_x.at; clear ho_x
    have hal := (Below.refl (w4).heap.size (w4)).alloc (Nat.le_refl _) (.cells #[.slice x_xa n_xa c_xa, .slice x_xb n_xb c_xb, .slice x_xc n_xc c_xc, .int .i64 xx.2.2.2.1, .int .i64 xx.2.2.2.2] 28)
    replace C_w := Lib.hid (C_w.out.on hal)
    replace H_w := Lib.hid (H_w.out.on hal)
    replace H_b := Lib.hid (H_b.out.on hal)
    replace H_c := Lib.hid (H_c.out.on hal)
    replace H_x := Lib.hid (H_x.out.on hal)
    replace BB := Lib.hid (BB.out.trans (hal.mono BB.out.size))
    have C_x := Lib.hid (Ret.Blk.new' (w := w4) #[.slice x_xa n_xa c_xa, .slice x_xb n_xb c_xb, .slice x_xc n_xc c_xc, .int .i64 xx.2.2.2.1, .int .i64 xx.2.2.2.2] 28 (n := w4.heap.size) (by first | rfl | simp)); clear hal
    go_wp2_with fail
    refine (Row.specDecodeDataK _ ec _ H_c.out HYC.out (by omega)).mono ?_
    rintro e w5 ⟨U_y, rfl, ho_y, hb⟩
    rw [← HXX.out] at ho_y
    rw [← HOK.out]
    obtain ⟨x_ya, n_ya, c_ya, x_yb, n_yb, c_yb, x_yc, n_yc, c_yc, rfl, ho_y⟩ := Row.kD_shape ho_y
    replace C_w := Lib.hid (C_w.out.on hb)
    replace C_x := Lib.hid (C_x.out.on hb)
    replace H_w := Lib.hid (H_w.out.on hb)
    replace H_b := Lib.hid (H_b.out.on hb)
    replace H_c := Lib.hid (H_c.out.on hb)
    replace H_x := Lib.hid (H_x.out.on hb)
    replace BB := Lib.hid (BB.out.trans (hb.mono BB.out.size))
    clear hb
    have H_y := Lib.hid ho_y.at; clear ho_y
    have hal := (Below.refl (w5).heap.size (w5)).alloc (Nat.le_refl _) (.cells #[.slice x_ya n_ya c_ya, .slice x_yb n_yb c_yb, .slice x_yc n_yc c_yc, .int .i64 xx.2.2.2.1, .int .i64 xx.2.2.2.2] 28)
    replace C_w := Lib.hid (C_w.out.on hal)
    replace C_x := Lib.hid (C_x.out.on hal)
    replace H_w := Lib.hid (H_w.out.on hal)
    replace H_b := Lib.hid (H_b.out.on hal)
    replace H_c := Lib.hid (H_c.out.on hal)
    replace H_x := Lib.hid (H_x.out.on hal)
    replace H_y := Lib.hid (H_y.out.on hal)
    replace BB := Lib.hid (BB.out.trans (hal.mono BB.out.size))
    have C_y := Lib.hid (Ret.Blk.new' (w := w5) #[.slice x_ya n_ya c_ya, .slice x_yb n_yb c_yb, .slice x_yc n_yc c_yc, .int .i64 xx.2.2.2.1, .int .i64 xx.2.2.2.2] 28 (n := w5.heap.size) (by first | rfl | simp)); clear hal
    go_wp2_with fail
    refine (Draw.drawSignData _ _ l0 (Q0.out.on BB.out)).mono ?_
    rintro e w6 ⟨tk, U_s, xs, rfl, ho_s, b_s, f_s, hb⟩
    have HWs := Lib.hid f_s; clear f_s
    obtain ⟨x_sa, n_sa, c_sa, x_sb, n_sb, c_sb, x_sc, n_sc, c_sc, rfl, ho_s⟩ := Row.kD_shapeA ho_s
    replace C_w := Lib.hid (C_w.out.on hb)
    replace C_x := Lib.hid (C_x.out.on hb)
    replace C_y := Lib.hid (C_y.out.on hb)
    replace H_w := Lib.hid (H_w.out.on hb)
    replace H_b := Lib.hid (H_b.out.on hb)
    replace H_c := Lib.hid (H_c.out.on hb)
    replace H_x := Lib.hid (H_x.out.on hb)
    replace H_y := Lib.hid (H_y.out.on hb)
    replace BB := Lib.hid (BB.out.trans (hb.mono BB.out.size))
    clear hb
    have H_s := Lib.hid ho_s; clear ho_s
    have hal := (Below.refl (w6).heap.size (w6)).alloc (Nat.le_refl _) (.cells #[.slice x_sa n_sa c_sa, .slice x_sb n_sb c_sb, .slice x_sc n_sc c_sc, .int .i64 xs.2.2.2.1, .int .i64 xs.2.2.2.2] 28)
    replace C_w := Lib.hid (C_w.out.on hal)
    replace C_x := Lib.hid (C_x.out.on hal)
    replace C_y := Lib.hid (C_y.out.on hal)
    replace H_w := Lib.hid (H_w.out.on hal)
    replace H_b := Lib.hid (H_b.out.on hal)
    replace H_c := Lib.hid (H_c.out.on hal)
    replace H_x := Lib.hid (H_x.out.on hal)
    replace H_y := Lib.hid (H_y.out.on hal)
    replace H_s := Lib.hid (H_s.out.on hal)
    replace BB := Lib.hid (BB.out.trans (hal.mono BB.out.size))
    have C_s := Lib.hid (Ret.Blk.new' (w := w6) #[.slice x_sa n_sa c_sa, .slice x_sb n_sb c_sb, .slice x_sc n_sc c_sc, .int .i64 xs.2.2.2.1, .int .i64 xs.2.2.2.2] 28 (n := w6.heap.size) (by first | rfl | simp)); clear hal
    go_wp2_with fail
    refine (Draw.drawVerifyData _ _ l0 (Q0.out.on BB.out)).mono ?_
    rintro e w7 ⟨tg, U_r, xr, rfl, ho_r, b_r, f_r, hb⟩
    have HWr := Lib.hid f_r; clear f_r
    obtain ⟨x_ra, n_ra, c_ra, x_rb, n_rb, c_rb, x_rc, n_rc, c_rc, rfl, ho_r⟩ := Row.kD_shapeA ho_r
    replace C_w := Lib.hid (C_w.out.on hb)
    replace C_x := Lib.hid (C_x.out.on hb)
    replace C_y := Lib.hid (C_y.out.on hb)
    replace C_s := Lib.hid (C_s.out.on hb)
    replace H_w := Lib.hid (H_w.out.on hb)
    replace H_b := Lib.hid (H_b.out.on hb)
    replace H_c := Lib.hid (H_c.out.on hb)
    replace H_x := Lib.hid (H_x.out.on hb)
    replace H_y := Lib.hid (H_y.out.on hb)
    replace H_s := Lib.hid (H_s.out.on hb)
    replace BB := Lib.hid (BB.out.trans (hb.mono BB.out.size))
    clear hb
    have H_r := Lib.hid ho_r; clear ho_r
    have hal := (Below.refl (w7).heap.size (w7)).alloc (Nat.le_refl _) (.cells #[.slice x_ra n_ra c_ra, .slice x_rb n_rb c_rb, .slice x_rc n_rc c_rc, .int .i64 xr.2.2.2.1, .int .i64 xr.2.2.2.2] 28)
    replace C_w := Lib.hid (C_w.out.on hal)
    replace C_x := Lib.hid (C_x.out.on hal)
    replace C_y := Lib.hid (C_y.out.on hal)
    replace C_s := Lib.hid (C_s.out.on hal)
    replace H_w := Lib.hid (H_w.out.on hal)
    replace H_b := Lib.hid (H_b.out.on hal)
    replace H_c := Lib.hid (H_c.out.on hal)
    replace H_x := Lib.hid (H_x.out.on hal)
    replace H_y := Lib.hid (H_y.out.on hal)
    replace H_s := Lib.hid (H_s.out.on hal)
    replace H_r := Lib.hid (H_r.out.on hal)
    replace BB := Lib.hid (BB.out.trans (hal.mono BB.out.size))
    have C_r := Lib.hid (Ret.Blk.new' (w := w7) #[.slice x_ra n_ra c_ra, .slice x_rb n_rb c_rb, .slice x_rc n_rc c_rc, .int .i64 xr.2.2.2.1, .int .i64 xr.2.2.2.2] 28 (n := w7.heap.size) (by first | rfl | simp)); clear hal
    go_wp2_with fail
    refine (Draw.drawEqualData _ _ l0 (Q0.out.on BB.out)).mono ?_
    rintro e w8 ⟨U_a, xa, U_d, xd, rfl, ho_a, b_a, f_a, ho_d, b_d, f_d, hb⟩
    have HWa := Lib.hid f_a; have HWd := Lib.hid f_d; clear f_a f_d
    obtain ⟨x_aa, n_aa, c_aa, x_ab, n_ab, c_ab, x_ac, n_ac, c_ac, rfl, ho_a⟩ := Row.kD_shapeA ho_a
    obtain ⟨x_da, n_da, c_da, x_db, n_db, c_db, x_dc, n_dc, c_dc, rfl, ho_d⟩ := Row.kD_shapeA ho_d
    replace C_w := Lib.hid (C_w.out.on hb)
    replace C_x := Lib.hid (C_x.out.on hb)
    replace C_y := Lib.hid (C_y.out.on hb)
    replace C_s := Lib.hid (C_s.out.on hb)
    replace C_r := Lib.hid (C_r.out.on hb)
    replace H_w := Lib.hid (H_w.out.on hb)
    replace H_b := Lib.hid (H_b.out.on hb)
    replace H_c := Lib.hid (H_c.out.on hb)
    replace H_x := Lib.hid (H_x.out.on hb)
    replace H_y := Lib.hid (H_y.out.on hb)
    replace H_s := Lib.hid (H_s.out.on hb)
    replace H_r := Lib.hid (H_r.out.on hb)
    replace BB := Lib.hid (BB.out.trans (hb.mono BB.out.size))
    clear hb
    have H_a := Lib.hid ho_a; clear ho_a
    have H_d := Lib.hid ho_d; clear ho_d
    have hal := (Below.refl (w8).heap.size (w8)).alloc (Nat.le_refl _) (.cells #[.slice x_aa n_aa c_aa, .slice x_ab n_ab c_ab, .slice x_ac n_ac c_ac, .int .i64 xa.2.2.2.1, .int .i64 xa.2.2.2.2] 28)
    replace C_w := Lib.hid (C_w.out.on hal)
    replace C_x := Lib.hid (C_x.out.on hal)
    replace C_y := Lib.hid (C_y.out.on hal)
    replace C_s := Lib.hid (C_s.out.on hal)
    replace C_r := Lib.hid (C_r.out.on hal)
    replace H_w := Lib.hid (H_w.out.on hal)
    replace H_b := Lib.hid (H_b.out.on hal)
    replace H_c := Lib.hid (H_c.out.on hal)
    replace H_x := Lib.hid (H_x.out.on hal)
    replace H_y := Lib.hid (H_y.out.on hal)
    replace H_s := Lib.hid (H_s.out.on hal)
    replace H_r := Lib.hid (H_r.out.on hal)
    replace H_a := Lib.hid (H_a.out.on hal)
    replace H_d := Lib.hid (H_d.out.on hal)
    replace BB := Lib.hid (BB.out.trans (hal.mono BB.out.size))
    have C_a := Lib.hid (Ret.Blk.new' (w := w8) #[.slice x_aa n_aa c_aa, .slice x_ab n_ab c_ab, .slice x_ac n_ac c_ac, .int .i64 xa.2.2.2.1, .int .i64 xa.2.2.2.2] 28 (n := w8.heap.size) (by first | rfl | simp)); clear hal
    have hal := (Below.refl ((w8.alloc (.cells #[.slice x_aa n_aa c_aa, .slice x_ab n_ab c_ab, .slice x_ac n_ac c_ac, .int .i64 xa.2.2.2.1, .int .i64 xa.2.2.2.2] 28))).heap.size ((w8.alloc (.cells #[.slice x_aa n_aa c_aa, .slice x_ab n_ab c_ab, .slice x_ac n_ac c_ac, .int .i64 xa.2.2.2.1, .int .i64 xa.2.2.2.2] 28)))).alloc (Nat.le_refl _) (.cells #[.slice x_da n_da c_da, .slice x_db n_db c_db, .slice x_dc n_dc c_dc, .int .i64 xd.2.2.2.1, .int .i64 xd.2.2.2.2] 28)
    replace C_w := Lib.hid (C_w.out.on hal)
    replace C_x := Lib.hid (C_x.out.on hal)
    replace C_y := Lib.hid (C_y.out.on hal)
    replace C_s := Lib.hid (C_s.out.on hal)
    replace C_r := Lib.hid (C_r.out.on hal)
    replace C_a := Lib.hid (C_a.out.on hal)
    replace H_w := Lib.hid (H_w.out.on hal)
    replace H_b := Lib.hid (H_b.out.on hal)
    replace H_c := Lib.hid (H_c.out.on hal)
    replace H_x := Lib.hid (H_x.out.on hal)
    replace H_y := Lib.hid (H_y.out.on hal)
    replace H_s := Lib.hid (H_s.out.on hal)
    replace H_r := Lib.hid (H_r.out.on hal)
    replace H_a := Lib.hid (H_a.out.on hal)
    replace H_d := Lib.hid (H_d.out.on hal)
    replace BB := Lib.hid (BB.out.trans (hal.mono BB.out.size))
    have C_d := Lib.hid (Ret.Blk.new' (w := (w8.alloc (.cells #[.slice x_aa n_aa c_aa, .slice x_ab n_ab c_ab, .slice x_ac n_ac c_ac, .int .i64 xa.2.2.2.1, .int .i64 xa.2.2.2.2] 28))) #[.slice x_da n_da c_da, .slice x_db n_db c_db, .slice x_dc n_dc c_dc, .int .i64 xd.2.2.2.1, .int .i64 xd.2.2.2.2] 28 (n := w8.heap.size + 1) (by first | rfl | simp)); clear hal
    go_wp2_with fail
    refine (Draw.drawFreshAt _ _ l0 (Q0.out.on BB.out)).mono ?_
    rintro e w9 ⟨now, U_f, xf, rfl, ho_f, b_f, f_f, hb⟩
    have HWf := Lib.hid f_f; clear f_f
    obtain ⟨x_fa, n_fa, c_fa, x_fb, n_fb, c_fb, x_fc, n_fc, c_fc, rfl, ho_f⟩ := Row.kD_shapeA ho_f
    replace C_w := Lib.hid (C_w.out.on hb)
    replace C_x := Lib.hid (C_x.out.on hb)
    replace C_y := Lib.hid (C_y.out.on hb)
    replace C_s := Lib.hid (C_s.out.on hb)
    replace C_r := Lib.hid (C_r.out.on hb)
    replace C_a := Lib.hid (C_a.out.on hb)
    replace C_d := Lib.hid (C_d.out.on hb)
    replace H_w := Lib.hid (H_w.out.on hb)
    replace H_b := Lib.hid (H_b.out.on hb)
    replace H_c := Lib.hid (H_c.out.on hb)
    replace H_x := Lib.hid (H_x.out.on hb)
    replace H_y := Lib.hid (H_y.out.on hb)
    replace H_s := Lib.hid (H_s.out.on hb)
    replace H_r := Lib.hid (H_r.out.on hb)
    replace H_a := Lib.hid (H_a.out.on hb)
    replace H_d := Lib.hid (H_d.out.on hb)
    replace BB := Lib.hid (BB.out.trans (hb.mono BB.out.size))
    clear hb
    have H_f := Lib.hid ho_f; clear ho_f
    have hal := (Below.refl (w9).heap.size (w9)).alloc (Nat.le_refl _) (.cells #[.slice x_fa n_fa c_fa, .slice x_fb n_fb c_fb, .slice x_fc n_fc c_fc, .int .i64 xf.2.2.2.1, .int .i64 xf.2.2.2.2] 28)
    replace C_w := Lib.hid (C_w.out.on hal)
    replace C_x := Lib.hid (C_x.out.on hal)
    replace C_y := Lib.hid (C_y.out.on hal)
    replace C_s := Lib.hid (C_s.out.on hal)
    replace C_r := Lib.hid (C_r.out.on hal)
    replace C_a := Lib.hid (C_a.out.on hal)
    replace C_d := Lib.hid (C_d.out.on hal)
    replace H_w := Lib.hid (H_w.out.on hal)
    replace H_b := Lib.hid (H_b.out.on hal)
    replace H_c := Lib.hid (H_c.out.on hal)
    replace H_x := Lib.hid (H_x.out.on hal)
    replace H_y := Lib.hid (H_y.out.on hal)
    replace H_s := Lib.hid (H_s.out.on hal)
    replace H_r := Lib.hid (H_r.out.on hal)
    replace H_a := Lib.hid (H_a.out.on hal)
    replace H_d := Lib.hid (H_d.out.on hal)
    replace H_f := Lib.hid (H_f.out.on hal)
    replace BB := Lib.hid (BB.out.trans (hal.mono BB.out.size))
    have C_f := Lib.hid (Ret.Blk.new' (w := w9) #[.slice x_fa n_fa c_fa, .slice x_fb n_fb c_fb, .slice x_fc n_fc c_fc, .int .i64 xf.2.2.2.1, .int .i64 xf.2.2.2.2] 28 (n := w9.heap.size) (by first | rfl | simp)); clear hal
    go_wp2_with fail
    obtain ⟨q1, h_q1⟩ : ∃ z, Row.verD tg xr = z := ⟨_, rfl⟩
    have HQ1 := Lib.hid h_q1; clear h_q1
    obtain ⟨q2, h_q2⟩ : ∃ z, Row.eqD xa xd = z := ⟨_, rfl⟩
    have HQ2 := Lib.hid h_q2; clear h_q2
    obtain ⟨q3, h_q3⟩ : ∃ z, decide (now ≤ xf.2.2.2.1) = z := ⟨_, rfl⟩
    have HQ3 := Lib.hid h_q3; clear h_q3
    obtain ⟨q4, h_q4⟩ : ∃ z, Row.validD xw = z := ⟨_, rfl⟩
    have HQ4 := Lib.hid h_q4; clear h_q4
    (try dsimp only [List.append])
    refine Row.regT12 H_w H_x H_y H_s H_r H_a H_d H_f H_b HEB HYX HWw HWs HWr HWa HWd HQ1 HQ2 HQ3 HQ4 b_w b_x b_s b_r b_a b_d l_b (Lib.hid (C_w.out.cell 0)) (Lib.hid (C_w.out.cell 1)) (Lib.hid (C_w.out.cell 2)) (Lib.hid (C_w.out.cell 3)) (Lib.hid (C_w.out.cell 4)) (Lib.hid (C_x.out.cell 0)) (Lib.hid (C_x.out.cell 1)) (Lib.hid (C_x.out.cell 2)) (Lib.hid (C_x.out.cell 3)) (Lib.hid (C_x.out.cell 4)) (Lib.hid (C_y.out.cell 0)) (Lib.hid (C_y.out.cell 1)) (Lib.hid (C_y.out.cell 2)) (Lib.hid (C_y.out.cell 3)) (Lib.hid (C_y.out.cell 4)) (Lib.hid (C_s.out.cell 0)) (Lib.hid (C_s.out.cell 1)) (Lib.hid (C_s.out.cell 2)) (Lib.hid (C_s.out.cell 3)) (Lib.hid (C_s.out.cell 4)) (Lib.hid (C_r.out.cell 0)) (Lib.hid (C_r.out.cell 1)) (Lib.hid (C_r.out.cell 2)) (Lib.hid (C_r.out.cell 3)) (Lib.hid (C_r.out.cell 4)) (Lib.hid (C_a.out.cell 0)) (Lib.hid (C_a.out.cell 1)) (Lib.hid (C_a.out.cell 2)) (Lib.hid (C_a.out.cell 3)) (Lib.hid (C_a.out.cell 4)) (Lib.hid (C_d.out.cell 0)) (Lib.hid (C_d.out.cell 1)) (Lib.hid (C_d.out.cell 2)) (Lib.hid (C_d.out.cell 3)) (Lib.hid (C_d.out.cell 4)) (Lib.hid (C_f.out.cell 0)) (Lib.hid (C_f.out.cell 1)) (Lib.hid (C_f.out.cell 2)) (Lib.hid (C_f.out.cell 3)) (Lib.hid (C_f.out.cell 4)) ?_
    intro u63 u64 u65 u66 u67 u68 u69 u70 u71 u72 u73 u74 u75 u76 u77 u78 u79 u80 u81 u82 u83 u84 u85 u86 u87 u88 u89 u90 u91 u92 u93 u94 u95 u96 u97 u98 u99 u100 u101 u102 u103 u104 u105 u106 u107 u108 u109 u110 u111 u112 u113 u114 u115 u116 u117 u118 u119 u120 u121 u122 u123 u124 u125 u126 u127 u128 u129 wx hb
    replace C_w := Lib.hid (C_w.out.on hb)
    replace C_x := Lib.hid (C_x.out.on hb)
    replace C_y := Lib.hid (C_y.out.on hb)
    replace C_s := Lib.hid (C_s.out.on hb)
    replace C_r := Lib.hid (C_r.out.on hb)
    replace C_a := Lib.hid (C_a.out.on hb)
    replace C_d := Lib.hid (C_d.out.on hb)
    replace C_f := Lib.hid (C_f.out.on hb)
    replace H_w := Lib.hid (H_w.out.on hb)
    replace H_b := Lib.hid (H_b.out.on hb)
    replace H_c := Lib.hid (H_c.out.on hb)
    replace H_x := Lib.hid (H_x.out.on hb)
    replace H_y := Lib.hid (H_y.out.on hb)
    replace H_s := Lib.hid (H_s.out.on hb)
    replace H_r := Lib.hid (H_r.out.on hb)
    replace H_a := Lib.hid (H_a.out.on hb)
    replace H_d := Lib.hid (H_d.out.on hb)
    replace H_f := Lib.hid (H_f.out.on hb)
    replace BB := Lib.hid (BB.out.trans (hb.mono BB.out.size))
    clear hb
    clear H_y
    clear C_y
    clear H_s
    clear C_s
    clear H_a
    clear C_a
    clear H_d
    clear C_d
    clear H_f
    clear C_f
    clear HQ1 HQ2 HQ3
    have hbk : ok = true → Row.validD xx = true ∧ Row.encD xx = ec := fun e => by rw [HXX.out]; exact Row.dcD_back HYC.out (by rw [← HOK.out]; exact e)
    have HBK0 := Lib.hid hbk; clear hbk
    obtain ⟨xz, h_xz⟩ : ∃ z, z = (Row.dcD eb).1 := ⟨_, rfl⟩
    have HXZ := Lib.hid h_xz; clear h_xz
    obtain ⟨back, h_back⟩ : ∃ z, z = (Row.dcD eb).2 := ⟨_, rfl⟩
    have HBK := Lib.hid h_back; clear h_back
    have hen := Row.dcD_enc xw
    rw [← HEB.out] at hen
    have HEN := Lib.hid hen; clear hen
    have HYE := Lib.hid (show Sl.Byt eb by rw [HEB.out]; exact Row.encD_byt xw HWw.out.byt)
    have HYZ := Lib.hid (show Sl.Byt xz.2.1 by rw [HXZ.out]; exact Row.dcD_byt HYE.out)
    have b_z : Row.bulkD xz ≤ 3000 := by rw [HXZ.out]; exact Nat.le_trans (Row.dcD_bulk eb) (by decide)
    cases ok with
    | false =>
      clear H_x
      clear C_x
      clear H_c
      clear HBK0
      go_wp2_with fail
      refine (Row.implDecodeDataK _ eb _ H_b.out HYE.out (by omega)).mono ?_
      rintro e w10 ⟨U_z, rfl, ho_z, hb⟩
      rw [← HXZ.out] at ho_z
      rw [← HBK.out]
      obtain ⟨x_za, n_za, c_za, x_zb, n_zb, c_zb, x_zc, n_zc, c_zc, rfl, ho_z⟩ := Row.kD_shape ho_z
      replace C_w := Lib.hid (C_w.out.on hb)
      replace C_r := Lib.hid (C_r.out.on hb)
      replace H_w := Lib.hid (H_w.out.on hb)
      replace H_b := Lib.hid (H_b.out.on hb)
      replace H_r := Lib.hid (H_r.out.on hb)
      replace BB := Lib.hid (BB.out.trans (hb.mono BB.out.size))
      clear hb
      have H_z := Lib.hid ho_z.at; clear ho_z
      have hal := (Below.refl (w10).heap.size (w10)).alloc (Nat.le_refl _) (.cells #[.slice x_za n_za c_za, .slice x_zb n_zb c_zb, .slice x_zc n_zc c_zc, .int .i64 xz.2.2.2.1, .int .i64 xz.2.2.2.2] 28)
      replace C_w := Lib.hid (C_w.out.on hal)
      replace C_r := Lib.hid (C_r.out.on hal)
      replace H_w := Lib.hid (H_w.out.on hal)
      replace H_b := Lib.hid (H_b.out.on hal)
      replace H_r := Lib.hid (H_r.out.on hal)
      replace H_z := Lib.hid (H_z.out.on hal)
      replace BB := Lib.hid (BB.out.trans (hal.mono BB.out.size))
      have C_z := Lib.hid (Ret.Blk.new' (w := w10) #[.slice x_za n_za c_za, .slice x_zb n_zb c_zb, .slice x_zc n_zc c_zc, .int .i64 xz.2.2.2.1, .int .i64 xz.2.2.2.2] 28 (n := w10.heap.size) (by first | rfl | simp)); clear hal
      clear H_b
      have c0_w : (w10.alloc (.cells #[.slice x_za n_za c_za, .slice x_zb n_zb c_zb, .slice x_zc n_zc c_zc, .int .i64 xz.2.2.2.1, .int .i64 xz.2.2.2.2] 28)).cell? ⟨w1.heap.size, 0, none⟩ = some (.slice x_wa n_wa c_wa) := C_w.out.cell 0
      have c1_w : (w10.alloc (.cells #[.slice x_za n_za c_za, .slice x_zb n_zb c_zb, .slice x_zc n_zc c_zc, .int .i64 xz.2.2.2.1, .int .i64 xz.2.2.2.2] 28)).cell? ⟨w1.heap.size, 1, none⟩ = some (.slice x_wb n_wb c_wb) := C_w.out.cell 1
      have c2_w : (w10.alloc (.cells #[.slice x_za n_za c_za, .slice x_zb n_zb c_zb, .slice x_zc n_zc c_zc, .int .i64 xz.2.2.2.1, .int .i64 xz.2.2.2.2] 28)).cell? ⟨w1.heap.size, 2, none⟩ = some (.slice x_wc n_wc c_wc) := C_w.out.cell 2
      have c3_w : (w10.alloc (.cells #[.slice x_za n_za c_za, .slice x_zb n_zb c_zb, .slice x_zc n_zc c_zc, .int .i64 xz.2.2.2.1, .int .i64 xz.2.2.2.2] 28)).cell? ⟨w1.heap.size, 3, none⟩ = some (.int .i64 xw.2.2.2.1) := C_w.out.cell 3
      have c4_w : (w10.alloc (.cells #[.slice x_za n_za c_za, .slice x_zb n_zb c_zb, .slice x_zc n_zc c_zc, .int .i64 xz.2.2.2.1, .int .i64 xz.2.2.2.2] 28)).cell? ⟨w1.heap.size, 4, none⟩ = some (.int .i64 xw.2.2.2.2) := C_w.out.cell 4
      go_wp2_with fail
      clear c0_w c1_w c2_w c3_w c4_w
      cases q4 with
      | false =>
        have hen := HEN.out
        rw [if_neg (by rw [HQ4.out]; simp)] at hen
        obtain rfl : back = false := by rw [HBK.out, hen]
        clear hen
        refine (Row.iValV false HQ4.out H_w.out (by omega)).mono ?_
        rintro e w11 ⟨rfl, hb⟩
        replace C_w := Lib.hid (C_w.out.on hb)
        replace C_r := Lib.hid (C_r.out.on hb)
        replace C_z := Lib.hid (C_z.out.on hb)
        replace H_w := Lib.hid (H_w.out.on hb)
        replace H_r := Lib.hid (H_r.out.on hb)
        replace H_z := Lib.hid (H_z.out.on hb)
        replace BB := Lib.hid (BB.out.trans (hb.mono BB.out.size))
        clear hb
        clear H_w
        clear C_w
        clear H_z
        clear C_z
        have c0_r : w11.cell? ⟨w7.heap.size, 0, none⟩ = some (.slice x_ra n_ra c_ra) := C_r.out.cell 0
        have c1_r : w11.cell? ⟨w7.heap.size, 1, none⟩ = some (.slice x_rb n_rb c_rb) := C_r.out.cell 1
        have c2_r : w11.cell? ⟨w7.heap.size, 2, none⟩ = some (.slice x_rc n_rc c_rc) := C_r.out.cell 2
        have c3_r : w11.cell? ⟨w7.heap.size, 3, none⟩ = some (.int .i64 xr.2.2.2.1) := C_r.out.cell 3
        have c4_r : w11.cell? ⟨w7.heap.size, 4, none⟩ = some (.int .i64 xr.2.2.2.2) := C_r.out.cell 4
        go_wp2_with fail
        clear c0_r c1_r c2_r c3_r c4_r
        obtain ⟨ra, rb, rc, rf, rs⟩ := xr
        obtain ⟨M, hM⟩ : ∃ M, M = Seal.mac tg (Row.portD (ra, rb, rc, rf, rs)) := ⟨_, rfl⟩
        have HM := Lib.hid hM
        have hM2 := Seal.mac_in tg (Row.portD (ra, rb, rc, rf, rs))
        rw [← hM] at hM2
        obtain ⟨hM0, hM1⟩ := hM2
        clear hM
        refine (Row.implSignDataK _ tg (ra, rb, rc, rf, rs) _ H_r.out HWr.out (by omega)).mono ?_
        rintro e w12 ⟨U_t, rfl, ho_t, hb⟩
        replace ho_t := ho_t.at
        have ho_t : Row.kD.At w12 U_t (ra, rb, rc, rf, M) := by rw [HM.out]; exact ho_t
        obtain ⟨x_ta, n_ta, c_ta, x_tb, n_tb, c_tb, x_tc, n_tc, c_tc, rfl, ho_t⟩ := Row.kD_shapeA ho_t
        dsimp only at ho_t ⊢
        replace C_r := Lib.hid (C_r.out.on hb)
        replace H_r := Lib.hid (H_r.out.on hb)
        replace BB := Lib.hid (BB.out.trans (hb.mono BB.out.size))
        clear hb
        have H_t := Lib.hid ho_t; clear ho_t
        clear H_r
        clear C_r
        have hal := (Below.refl w12.heap.size w12).alloc (Nat.le_refl _) (.cells #[.slice x_ta n_ta c_ta, .slice x_tb n_tb c_tb, .slice x_tc n_tc c_tc, .int .i64 rf, .int .i64 M] 28)
        replace H_t := Lib.hid (H_t.out.on hal)
        replace BB := Lib.hid (BB.out.trans (hal.mono BB.out.size))
        have X_t := Lib.hid (Ret.Blk.new w12 #[.slice x_ta n_ta c_ta, .slice x_tb n_tb c_tb, .slice x_tc n_tc c_tc, .int .i64 rf, .int .i64 M] 28)
        clear hal
        go_upto_region 20 with fail
        generalize w12.alloc (.cells #[.slice x_ta n_ta c_ta, .slice x_tb n_tb c_tb, .slice x_tc n_tc c_tc, .int .i64 rf, .int .i64 M] 28) = Wt at *
        generalize w12.heap.size = bt at *
        have HWT := Lib.hid (show (Lit.int .i64 rf).wf = true from HWr.out.2.2.2.1)
        have HYB := Lib.hid (show Sl.Byt rb from HWr.out.byt)
        have b_t : Row.bulk ra + rb.length + Row.bulk rc ≤ 3000 := b_r
        have HTV := Lib.hid (show Row.verD tg (ra, rb, rc, rf, M) = Num.inB tg 1 2147483646 by rw [HM.out]; exact Row.verD_sg tg (ra, rb, rc, rf, rs))
        obtain ⟨fu, hfu⟩ : ∃ z, z = IntKind.i64.wrap (rf + 1) := ⟨_, rfl⟩
        obtain ⟨sv, hsv⟩ : ∃ z, z = (M + 1) % 2147483647 := ⟨_, rfl⟩
        have HFU := Lib.hid hfu; have HSV := Lib.hid hsv; clear hfu hsv
        have HUV := Lib.hid (show Row.verD tg (ra, rb, rc, fu, M) = false by rw [HFU.out, HM.out]; exact Row.verD_until tg (ra, rb, rc, rf, rs) HWT.out)
        have HVV := Lib.hid (show Row.verD tg (ra, rb, rc, rf, sv) = false by rw [HSV.out, HM.out]; exact Row.verD_sig tg (ra, rb, rc, rf, rs))
        cases hs : Num.inB tg 1 2147483646 with
        | false =>
          rw [hs] at HTV
          have HSB := Lib.hid hs; clear hs
          go_wp2_with fail
          refine (Row.iSecV false HSB.out).mono ?_
          rintro e w13 ⟨rfl, hb⟩
          replace X_t := Lib.hid (X_t.out.on hb)
          replace H_t := Lib.hid (H_t.out.on hb)
          replace BB := Lib.hid (BB.out.trans (hb.mono BB.out.size))
          clear hb
          obtain ⟨k0, k1, k2, k3, k4⟩ := Draw.keepC5 X_t.out
          go_wp2_with fail
          clear k0 k1 k2 k3 k4
          refine (Row.iVerV false HTV.out H_t.out HYB.out (show Row.bulk ra + rb.length + Row.bulk rc ≤ 1200000 by omega)).mono ?_
          rintro e w14 ⟨rfl, hb⟩
          replace H_t := Lib.hid (H_t.out.on hb)
          replace BB := Lib.hid (BB.out.trans (hb.mono BB.out.size))
          clear hb
          go_wp2_with fail
          go_ret
          exact ⟨rfl, BB.out⟩
        | true =>
          rw [hs] at HTV
          have HSB := Lib.hid hs; clear hs
          go_wp2_with fail
          refine (Row.iSecV true HSB.out).mono ?_
          rintro e w15 ⟨rfl, hb⟩
          replace X_t := Lib.hid (X_t.out.on hb)
          replace H_t := Lib.hid (H_t.out.on hb)
          replace BB := Lib.hid (BB.out.trans (hb.mono BB.out.size))
          clear hb
          obtain ⟨k0, k1, k2, k3, k4⟩ := Draw.keepC5 X_t.out
          clear k0 k1 k2 k3 k4
          have HNT := Lib.hid (show n_tb = rb.length from (Row.kD_parts (x := (ra, rb, rc, rf, M)) H_t.out).2.1.lenEq)
          have BA := Lib.hid (Below.refl w15.heap.size w15)
          have K_t := Lib.hid X_t.out
          have hal := (Below.refl w15.heap.size w15).alloc (Nat.le_refl _) (.cells #[.slice x_ta n_ta c_ta, .slice x_tb n_tb c_tb, .slice x_tc n_tc c_tc, .int .i64 rf, .int .i64 M] 28)
          have G_u := Lib.hid (show w15.heap.size ≤ w15.heap.size from BA.out.size)
          replace BA := Lib.hid (BA.out.trans (hal.mono BA.out.size))
          have X_u := Lib.hid (Ret.Blk.new w15 #[.slice x_ta n_ta c_ta, .slice x_tb n_tb c_tb, .slice x_tc n_tc c_tc, .int .i64 rf, .int .i64 M] 28); clear hal
          obtain ⟨k0, k1, k2, k3, k4⟩ := Draw.keepC5 K_t.out
          go_upto_region 23 with fail
          clear k0 k1 k2 k3 k4 K_t
          generalize w15.alloc (.cells #[.slice x_ta n_ta c_ta, .slice x_tb n_tb c_tb, .slice x_tc n_tc c_tc, .int .i64 rf, .int .i64 M] 28) = Wu at *
          obtain ⟨bu, hbu⟩ : ∃ z, z = w15.heap.size := ⟨_, rfl⟩
          rw [← hbu] at X_u ⊢
          replace G_u := Lib.hid (show w15.heap.size ≤ bu by rw [hbu]; exact Nat.le_refl _); clear hbu
          have K_t := Lib.hid (X_t.out.on BA.out)
          have L_u := Lib.hid X_u.out.lt
          have hw1 : wrap64 (rf + 1) = fu := (Go.IntWalk.i64_left (rf + 1)).symm.trans HFU.out.symm
          have hw2 : IntKind.i64.wrap (rf + 1) = fu := HFU.out.symm
          obtain ⟨k0, k1, k2, k3, k4⟩ := Draw.keepC5 K_t.out
          obtain ⟨f0, f1, f2, f3, f4⟩ := Draw.keepC5 X_u.out
          have fz := X_u.out.frozen 3
          go_upto_region 24 with fail
          clear k0 k1 k2 k3 k4 f0 f1 f2 f3 f4 fz K_t
          replace X_u := Lib.hid (X_u.out.set 3 (.int .i64 fu))
          replace BA := Lib.hid (BA.out.setCell (p := ⟨bu, 3, none⟩) G_u.out (.int .i64 fu))
          generalize Wu.setCell ⟨bu, 3, none⟩ (.int .i64 fu) = Wus at *
          have K_t := Lib.hid (X_t.out.on BA.out)
          replace L_u := Lib.hid X_u.out.lt
          clear hw1 hw2
          have hal := (Below.refl Wus.heap.size Wus).alloc (Nat.le_refl _) (.cells #[.slice x_ta n_ta c_ta, .slice x_tb n_tb c_tb, .slice x_tc n_tc c_tc, .int .i64 rf, .int .i64 M] 28)
          replace X_u := Lib.hid (X_u.out.on hal)
          have G_v := Lib.hid (show w15.heap.size ≤ Wus.heap.size from BA.out.size)
          have D_uv := Lib.hid (show bu ≠ Wus.heap.size from Nat.ne_of_lt L_u.out)
          replace BA := Lib.hid (BA.out.trans (hal.mono BA.out.size))
          have X_v := Lib.hid (Ret.Blk.new Wus #[.slice x_ta n_ta c_ta, .slice x_tb n_tb c_tb, .slice x_tc n_tc c_tc, .int .i64 rf, .int .i64 M] 28); clear hal
          obtain ⟨k0, k1, k2, k3, k4⟩ := Draw.keepC5 K_t.out
          go_upto_region 25 with fail
          clear k0 k1 k2 k3 k4 K_t
          generalize Wus.alloc (.cells #[.slice x_ta n_ta c_ta, .slice x_tb n_tb c_tb, .slice x_tc n_tc c_tc, .int .i64 rf, .int .i64 M] 28) = Wv at *
          generalize Wus.heap.size = bv at *
          have K_t := Lib.hid (X_t.out.on BA.out)
          replace L_u := Lib.hid X_u.out.lt
          have L_v := Lib.hid X_v.out.lt
          have hw1 : (M + 1) % 2147483647 = sv := HSV.out.symm
          have hw2 : (M + 1).tmod 2147483647 = sv := by rw [Int.tmod_eq_emod_of_nonneg (by omega)]; exact HSV.out.symm
          obtain ⟨k0, k1, k2, k3, k4⟩ := Draw.keepC5 K_t.out
          obtain ⟨f0, f1, f2, f3, f4⟩ := Draw.keepC5 X_v.out
          have fz := X_v.out.frozen 4
          go_upto_region 26 with fail
          clear k0 k1 k2 k3 k4 f0 f1 f2 f3 f4 fz K_t
          replace X_u := Lib.hid (X_u.out.other (a := ⟨bv, 4, none⟩) (fun e => D_uv.out e.symm) (.int .i64 sv))
          replace X_v := Lib.hid (X_v.out.set 4 (.int .i64 sv))
          replace BA := Lib.hid (BA.out.setCell (p := ⟨bv, 4, none⟩) G_v.out (.int .i64 sv))
          generalize Wv.setCell ⟨bv, 4, none⟩ (.int .i64 sv) = Wvs at *
          have K_t := Lib.hid (X_t.out.on BA.out)
          replace L_u := Lib.hid X_u.out.lt
          replace L_v := Lib.hid X_v.out.lt
          clear hw1 hw2
          have hal := (Below.refl Wvs.heap.size Wvs).alloc (Nat.le_refl _) (.cells #[.slice x_ta n_ta c_ta, .slice x_tb n_tb c_tb, .slice x_tc n_tc c_tc, .int .i64 rf, .int .i64 M] 28)
          replace X_u := Lib.hid (X_u.out.on hal)
          replace X_v := Lib.hid (X_v.out.on hal)
          have G_x := Lib.hid (show w15.heap.size ≤ Wvs.heap.size from BA.out.size)
          have D_ux := Lib.hid (show bu ≠ Wvs.heap.size from Nat.ne_of_lt L_u.out)
          have D_vx := Lib.hid (show bv ≠ Wvs.heap.size from Nat.ne_of_lt L_v.out)
          replace BA := Lib.hid (BA.out.trans (hal.mono BA.out.size))
          have X_x := Lib.hid (Ret.Blk.new Wvs #[.slice x_ta n_ta c_ta, .slice x_tb n_tb c_tb, .slice x_tc n_tc c_tc, .int .i64 rf, .int .i64 M] 28); clear hal
          obtain ⟨k0, k1, k2, k3, k4⟩ := Draw.keepC5 K_t.out
          go_upto_region 27 with fail
          clear k0 k1 k2 k3 k4 K_t
          generalize Wvs.alloc (.cells #[.slice x_ta n_ta c_ta, .slice x_tb n_tb c_tb, .slice x_tc n_tc c_tc, .int .i64 rf, .int .i64 M] 28) = Wx at *
          generalize Wvs.heap.size = bx at *
          have K_t := Lib.hid (X_t.out.on BA.out)
          replace L_u := Lib.hid X_u.out.lt
          replace L_v := Lib.hid X_v.out.lt
          have L_x := Lib.hid X_x.out.lt
          have hal : Below Wx.heap.size Wx (Wx.alloc (.cells #[] 5)) := (Below.refl _ _).alloc (Nat.le_refl _) _
          obtain ⟨k0, k1, k2, k3, k4⟩ := Draw.keepC5 K_t.out
          obtain ⟨j0, j1, j2, j3, j4⟩ := Draw.keepC5 (K_t.out.on hal)
          have E0 := Lib.hid (Sl.own_empty .u8 5 Wx)
          have HS := Lib.hid (((Row.kD_parts (x := (ra, rb, rc, rf, M)) H_t.out).2.1.on BA.out).on hal)
          have HAL := Lib.hid hal; clear hal
          go_wp2_with (at_builtin; refine Sl.wpList_app_nn (k := .u8) (B := Wx.heap.size) (l := []) (m := rb) rfl _ _ rfl Tryz.underlying22 Sl.elemBYTE rfl rfl rfl E0.out HS.out ?_ (by decide) ?_ ?_)
          · have h5 := b_t; first | omega | (simp; omega)
          intro v19 wa ho hg hnn
          clear k0 k1 k2 k3 k4 j0 j1 j2 j3 j4 HS
          obtain ⟨g, cap1, rfl, g1, g2, g3⟩ := Sl.Own.block ho hnn
          have ho2 : Sl.Own 5 .u8 Wx.heap.size wa (.slice (some ⟨g, 0, none⟩) n_tb cap1) rb := by rw [HNT.out]; exact ho
          have hln : rb.length = n_tb := HNT.out.symm
          rw [hln] at g3 ⊢
          have hba : Below Wx.heap.size Wx wa := HAL.out.grown hg (by simp) (fun g hh => by cases hh; exact Nat.le_refl _)
          replace X_u := Lib.hid (X_u.out.on hba)
          replace X_v := Lib.hid (X_v.out.on hba)
          replace X_x := Lib.hid (X_x.out.on hba)
          replace BA := Lib.hid (BA.out.trans (hba.mono BA.out.size))
          have GX := Lib.hid (show bx ≠ g by have := L_x.out; omega)
          have GW := Lib.hid (show w15.heap.size ≤ g by have h5 := L_x.out; have h6 := G_x.out; omega)
          have OC := Lib.hid ho2
          have GU := Lib.hid (show bu ≠ g ∧ bv ≠ g by have h5 := L_u.out; have h6 := L_v.out; omega)
          clear ho hg hnn ho2 hba hln E0 HAL K_t
          obtain ⟨f0, f1, f2, f3, f4⟩ := Draw.keepC5 X_x.out
          have fz := X_x.out.frozen 1
          go_upto_region 28 with fail
          clear f0 f1 f2 f3 f4 fz
          replace X_u := Lib.hid (X_u.out.other (a := ⟨bx, 1, none⟩) (fun e => D_ux.out e.symm) (.slice (some ⟨g, 0, none⟩) n_tb cap1))
          replace X_v := Lib.hid (X_v.out.other (a := ⟨bx, 1, none⟩) (fun e => D_vx.out e.symm) (.slice (some ⟨g, 0, none⟩) n_tb cap1))
          replace X_x := Lib.hid (X_x.out.set 1 (.slice (some ⟨g, 0, none⟩) n_tb cap1))
          replace BA := Lib.hid (BA.out.setCell (p := ⟨bx, 1, none⟩) G_x.out (.slice (some ⟨g, 0, none⟩) n_tb cap1))
          have hbg : ∀ q, (.slice (some ⟨g, 0, none⟩) n_tb cap1 : Value).ownBlock = some q → q ≠ bx := fun q e e2 => GX.out (by have h5 : q = g := (Option.some.inj e).symm; rw [← e2, h5])
          replace OC := Lib.hid (OC.out.grown (Ret.grownBy_set _ ⟨bx, 1, none⟩ (.slice (some ⟨g, 0, none⟩) n_tb cap1)) (Or.inr (fun e => GX.out (Option.some.inj e).symm)))
          generalize wa.setCell ⟨bx, 1, none⟩ (.slice (some ⟨g, 0, none⟩) n_tb cap1) = Wc at *
          have LX := Lib.hid (show Ret.Blk Wc bx #[.slice x_ta n_ta c_ta, .slice (some ⟨g, 0, none⟩) n_tb cap1, .slice x_tc n_tc c_tc, .int .i64 rf, .int .i64 M] 28 from X_x.out)
          have LU := Lib.hid (show Ret.Blk Wc bu #[.slice x_ta n_ta c_ta, .slice x_tb n_tb c_tb, .slice x_tc n_tc c_tc, .int .i64 fu, .int .i64 M] 28 from X_u.out)
          have LV := Lib.hid (show Ret.Blk Wc bv #[.slice x_ta n_ta c_ta, .slice x_tb n_tb c_tb, .slice x_tc n_tc c_tc, .int .i64 rf, .int .i64 sv] 28 from X_v.out)
          clear X_u X_v X_x hbg
          have z1 : Wc.cell? ⟨bx, 1, none⟩ = some (.slice (some ⟨g, 0, none⟩) n_tb cap1) := LX.out.cell 1
          by_cases hz : n_tb = 0
          · subst hz
            have hrb : rb = [] := List.eq_nil_of_length_eq_zero HNT.out.symm
            go_wp2_with fail
            clear z1
            have HXV := Lib.hid (show Row.verD tg (ra, rb, rc, rf, M) = true from HTV.out)
            have P_t := Lib.hid ((H_t.out).on BA.out)
            have PH := Lib.hid (Row.kD_parts (x := (ra, rb, rc, rf, M)) P_t.out)
            have P_u := Lib.hid (Row.kD_ints (x := (ra, rb, rc, rf, M)) P_t.out fu M)
            have P_v := Lib.hid (Row.kD_ints (x := (ra, rb, rc, rf, M)) P_t.out rf sv)
            have P_x := Lib.hid (Row.kD_of (x := (ra, rb, rc, rf, M)) ⟨PH.out.1, OC.out.holds, PH.out.2.2⟩)
            have LT := Lib.hid (X_t.out.on BA.out)
            have HBE := Lib.hid (BB.out.trans (BA.out.mono BB.out.size))
            refine Row.regT31 P_t P_u P_v P_x HTV HUV HVV HXV HYB HYB (Lib.hid (show ((((0 : Nat) : Int) == 0) = true) by decide)) b_t b_t (Lib.hid (LT.out.cell 0)) (Lib.hid (LT.out.cell 1)) (Lib.hid (LT.out.cell 2)) (Lib.hid (LT.out.cell 3)) (Lib.hid (LT.out.cell 4)) (Lib.hid (LU.out.cell 0)) (Lib.hid (LU.out.cell 1)) (Lib.hid (LU.out.cell 2)) (Lib.hid (LU.out.cell 3)) (Lib.hid (LU.out.cell 4)) (Lib.hid (LV.out.cell 0)) (Lib.hid (LV.out.cell 1)) (Lib.hid (LV.out.cell 2)) (Lib.hid (LV.out.cell 3)) (Lib.hid (LV.out.cell 4)) (Lib.hid (LX.out.cell 0)) (Lib.hid (LX.out.cell 1)) (Lib.hid (LX.out.cell 2)) (Lib.hid (LX.out.cell 3)) (Lib.hid (LX.out.cell 4)) ?_
            intro u214 u215 u216 u217 u218 u219 u220 u221 u222 u223 u224 u225 u226 u227 u228 u229 u230 u231 u232 u233 u234 u235 u236 u237 u238 wy hb
            have HBF := Lib.hid (HBE.out.trans (hb.mono HBE.out.size)); clear hb
            go_wp2_with fail
            go_ret
            exact ⟨rfl, HBF.out⟩
          · have hpos : 0 < n_tb := by omega
            have hpz : (0 : Int) < (n_tb : Int) := by omega
            clear hz
            go_wp2_with fail
            clear z1
            have HQ1 := Lib.hid ((Q0.out.on BB.out).on BA.out)
            refine Row.regT29 HQ1 HN0 hpos (Lib.hid (LX.out.cell 1)) ?_
            intro u193 u194 u195 u196 u197 u198 ii wd hii hb
            replace LX := Lib.hid (LX.out.on hb); replace LU := Lib.hid (LU.out.on hb); replace LV := Lib.hid (LV.out.on hb); replace OC := Lib.hid (OC.out.on hb); replace BA := Lib.hid (BA.out.trans (hb.mono BA.out.size)); replace HQ1 := Lib.hid (HQ1.out.on hb); clear hb
            have hii2 : (ii : Int) < (n_tb : Int) := by omega
            obtain ⟨hc2, hf2⟩ := Sl.own_cell OC.out HNT.out (j := ii) (by have h5 := HNT.out; omega)
            have HKC := Lib.hid hc2; have HKF := Lib.hid hf2; clear hc2 hf2
            have hyb := Sl.Byt.at HYB.out (j := ii) (by have := HNT.out; omega)
            go_wp2_with fail
            refine Row.regT30 HQ1 HN0 GX HKF hii hii2 hyb.1 hyb.2 HKC (Lib.hid (LX.out.cell 1)) ?_
            intro u199 u200 u201 u202 u203 u204 u205 u206 u207 u208 u209 u210 u211 u212 u213 y2 we hy2 hyn hb
            replace LX := Lib.hid (LX.out.on hb); replace LU := Lib.hid (LU.out.on hb); replace LV := Lib.hid (LV.out.on hb); replace OC := Lib.hid (OC.out.on hb); replace BA := Lib.hid (BA.out.trans (hb.mono BA.out.size)); clear hb
            have hst := Sl.own_store OC.out HNT.out ii y2
            replace LX := Lib.hid (LX.out.other (a := ⟨g, ii, none⟩) (fun e => GX.out e.symm) (.int .u8 y2)); replace LU := Lib.hid (LU.out.other (a := ⟨g, ii, none⟩) (fun e => GU.out.1 e.symm) (.int .u8 y2)); replace LV := Lib.hid (LV.out.other (a := ⟨g, ii, none⟩) (fun e => GU.out.2 e.symm) (.int .u8 y2))
            replace BA := Lib.hid (BA.out.setCell (p := ⟨g, ii, none⟩) GW.out (.int .u8 y2))
            replace OC := Lib.hid hst.1; clear hst
            generalize we.setCell ⟨g, ii, none⟩ (.int .u8 y2) = Wf at *
            have HXV := Lib.hid (show Row.verD tg (ra, rb.set ii y2, rc, rf, M) = false by rw [HM.out]; exact Row.verD_content tg (ra, rb, rc, rf, rs) (i := ii) (by show ii < rb.length; have := HNT.out; omega) y2 hy2 hyb hyn)
            have HY2 := Lib.hid (show Sl.Byt (rb.set ii y2) from fun z hz => by rcases List.mem_or_eq_of_mem_set hz with h5 | h5; exact HYB.out z h5; exact h5 ▸ hy2)
            have hl2 : Row.bulk ra + (rb.set ii y2).length + Row.bulk rc ≤ 3000 := by rw [List.length_set]; exact b_t
            have hzf : (((n_tb : Nat) : Int) == 0) = false := by simp; omega
            have HZF := Lib.hid hzf; clear hzf
            go_wp2_with fail
            have P_t := Lib.hid ((H_t.out).on BA.out)
            have PH := Lib.hid (Row.kD_parts (x := (ra, rb, rc, rf, M)) P_t.out)
            have P_u := Lib.hid (Row.kD_ints (x := (ra, rb, rc, rf, M)) P_t.out fu M)
            have P_v := Lib.hid (Row.kD_ints (x := (ra, rb, rc, rf, M)) P_t.out rf sv)
            have P_x := Lib.hid (Row.kD_of (x := (ra, rb.set ii y2, rc, rf, M)) ⟨PH.out.1, OC.out.holds, PH.out.2.2⟩)
            have LT := Lib.hid (X_t.out.on BA.out)
            have HBE := Lib.hid (BB.out.trans (BA.out.mono BB.out.size))
            refine Row.regT31 P_t P_u P_v P_x HTV HUV HVV HXV HYB HY2 HZF b_t hl2 (Lib.hid (LT.out.cell 0)) (Lib.hid (LT.out.cell 1)) (Lib.hid (LT.out.cell 2)) (Lib.hid (LT.out.cell 3)) (Lib.hid (LT.out.cell 4)) (Lib.hid (LU.out.cell 0)) (Lib.hid (LU.out.cell 1)) (Lib.hid (LU.out.cell 2)) (Lib.hid (LU.out.cell 3)) (Lib.hid (LU.out.cell 4)) (Lib.hid (LV.out.cell 0)) (Lib.hid (LV.out.cell 1)) (Lib.hid (LV.out.cell 2)) (Lib.hid (LV.out.cell 3)) (Lib.hid (LV.out.cell 4)) (Lib.hid (LX.out.cell 0)) (Lib.hid (LX.out.cell 1)) (Lib.hid (LX.out.cell 2)) (Lib.hid (LX.out.cell 3)) (Lib.hid (LX.out.cell 4)) ?_
            intro u214 u215 u216 u217 u218 u219 u220 u221 u222 u223 u224 u225 u226 u227 u228 u229 u230 u231 u232 u233 u234 u235 u236 u237 u238 wy hb
            have HBF := Lib.hid (HBE.out.trans (hb.mono HBE.out.size)); clear hb
            go_wp2_with fail
            go_ret
            exact ⟨rfl, HBF.out⟩
      | true =>
        have hen := HEN.out
        rw [if_pos HQ4.out] at hen
        obtain rfl : back = true := by rw [HBK.out, hen]
        have hxz : xz = xw := by rw [HXZ.out, hen]
        have HXW := Lib.hid (show Row.eqD xz xw = true by rw [hxz]; exact Row.eqD_self xw); clear hxz
        clear hen
        refine (Row.iValV true HQ4.out H_w.out (by omega)).mono ?_
        rintro e w16 ⟨rfl, hb⟩
        replace C_w := Lib.hid (C_w.out.on hb)
        replace C_r := Lib.hid (C_r.out.on hb)
        replace C_z := Lib.hid (C_z.out.on hb)
        replace H_w := Lib.hid (H_w.out.on hb)
        replace H_r := Lib.hid (H_r.out.on hb)
        replace H_z := Lib.hid (H_z.out.on hb)
        replace BB := Lib.hid (BB.out.trans (hb.mono BB.out.size))
        clear hb
        have c0_w : w16.cell? ⟨w1.heap.size, 0, none⟩ = some (.slice x_wa n_wa c_wa) := C_w.out.cell 0
        have c1_w : w16.cell? ⟨w1.heap.size, 1, none⟩ = some (.slice x_wb n_wb c_wb) := C_w.out.cell 1
        have c2_w : w16.cell? ⟨w1.heap.size, 2, none⟩ = some (.slice x_wc n_wc c_wc) := C_w.out.cell 2
        have c3_w : w16.cell? ⟨w1.heap.size, 3, none⟩ = some (.int .i64 xw.2.2.2.1) := C_w.out.cell 3
        have c4_w : w16.cell? ⟨w1.heap.size, 4, none⟩ = some (.int .i64 xw.2.2.2.2) := C_w.out.cell 4
        have c0_z : w16.cell? ⟨w10.heap.size, 0, none⟩ = some (.slice x_za n_za c_za) := C_z.out.cell 0
        have c1_z : w16.cell? ⟨w10.heap.size, 1, none⟩ = some (.slice x_zb n_zb c_zb) := C_z.out.cell 1
        have c2_z : w16.cell? ⟨w10.heap.size, 2, none⟩ = some (.slice x_zc n_zc c_zc) := C_z.out.cell 2
        have c3_z : w16.cell? ⟨w10.heap.size, 3, none⟩ = some (.int .i64 xz.2.2.2.1) := C_z.out.cell 3
        have c4_z : w16.cell? ⟨w10.heap.size, 4, none⟩ = some (.int .i64 xz.2.2.2.2) := C_z.out.cell 4
        go_wp2_with fail
        clear c0_w c1_w c2_w c3_w c4_w c0_z c1_z c2_z c3_z c4_z
        refine (Row.sameDV true HXW.out H_z.out H_w.out HYZ.out HWw.out.byt (by omega) (by omega)).mono ?_
        rintro e w17 ⟨rfl, hb⟩
        replace C_w := Lib.hid (C_w.out.on hb)
        replace C_r := Lib.hid (C_r.out.on hb)
        replace C_z := Lib.hid (C_z.out.on hb)
        replace H_w := Lib.hid (H_w.out.on hb)
        replace H_r := Lib.hid (H_r.out.on hb)
        replace H_z := Lib.hid (H_z.out.on hb)
        replace BB := Lib.hid (BB.out.trans (hb.mono BB.out.size))
        clear hb
        clear H_w
        clear C_w
        clear H_z
        clear C_z
        have c0_r : w17.cell? ⟨w7.heap.size, 0, none⟩ = some (.slice x_ra n_ra c_ra) := C_r.out.cell 0
        have c1_r : w17.cell? ⟨w7.heap.size, 1, none⟩ = some (.slice x_rb n_rb c_rb) := C_r.out.cell 1
        have c2_r : w17.cell? ⟨w7.heap.size, 2, none⟩ = some (.slice x_rc n_rc c_rc) := C_r.out.cell 2
        have c3_r : w17.cell? ⟨w7.heap.size, 3, none⟩ = some (.int .i64 xr.2.2.2.1) := C_r.out.cell 3
        have c4_r : w17.cell? ⟨w7.heap.size, 4, none⟩ = some (.int .i64 xr.2.2.2.2) := C_r.out.cell 4
        go_wp2_with fail
        clear c0_r c1_r c2_r c3_r c4_r
        obtain ⟨ra, rb, rc, rf, rs⟩ := xr
        obtain ⟨M, hM⟩ : ∃ M, M = Seal.mac tg (Row.portD (ra, rb, rc, rf, rs)) := ⟨_, rfl⟩
        have HM := Lib.hid hM
        have hM2 := Seal.mac_in tg (Row.portD (ra, rb, rc, rf, rs))
        rw [← hM] at hM2
        obtain ⟨hM0, hM1⟩ := hM2
        clear hM
        refine (Row.implSignDataK _ tg (ra, rb, rc, rf, rs) _ H_r.out HWr.out (by omega)).mono ?_
        rintro e w18 ⟨U_t, rfl, ho_t, hb⟩
        replace ho_t := ho_t.at
        have ho_t : Row.kD.At w18 U_t (ra, rb, rc, rf, M) := by rw [HM.out]; exact ho_t
        obtain ⟨x_ta, n_ta, c_ta, x_tb, n_tb, c_tb, x_tc, n_tc, c_tc, rfl, ho_t⟩ := Row.kD_shapeA ho_t
        dsimp only at ho_t ⊢
        replace C_r := Lib.hid (C_r.out.on hb)
        replace H_r := Lib.hid (H_r.out.on hb)
        replace BB := Lib.hid (BB.out.trans (hb.mono BB.out.size))
        clear hb
        have H_t := Lib.hid ho_t; clear ho_t
        clear H_r
        clear C_r
        have hal := (Below.refl w18.heap.size w18).alloc (Nat.le_refl _) (.cells #[.slice x_ta n_ta c_ta, .slice x_tb n_tb c_tb, .slice x_tc n_tc c_tc, .int .i64 rf, .int .i64 M] 28)
        replace H_t := Lib.hid (H_t.out.on hal)
        replace BB := Lib.hid (BB.out.trans (hal.mono BB.out.size))
        have X_t := Lib.hid (Ret.Blk.new w18 #[.slice x_ta n_ta c_ta, .slice x_tb n_tb c_tb, .slice x_tc n_tc c_tc, .int .i64 rf, .int .i64 M] 28)
        clear hal
        go_upto_region 20 with fail
        generalize w18.alloc (.cells #[.slice x_ta n_ta c_ta, .slice x_tb n_tb c_tb, .slice x_tc n_tc c_tc, .int .i64 rf, .int .i64 M] 28) = Wt at *
        generalize w18.heap.size = bt at *
        have HWT := Lib.hid (show (Lit.int .i64 rf).wf = true from HWr.out.2.2.2.1)
        have HYB := Lib.hid (show Sl.Byt rb from HWr.out.byt)
        have b_t : Row.bulk ra + rb.length + Row.bulk rc ≤ 3000 := b_r
        have HTV := Lib.hid (show Row.verD tg (ra, rb, rc, rf, M) = Num.inB tg 1 2147483646 by rw [HM.out]; exact Row.verD_sg tg (ra, rb, rc, rf, rs))
        obtain ⟨fu, hfu⟩ : ∃ z, z = IntKind.i64.wrap (rf + 1) := ⟨_, rfl⟩
        obtain ⟨sv, hsv⟩ : ∃ z, z = (M + 1) % 2147483647 := ⟨_, rfl⟩
        have HFU := Lib.hid hfu; have HSV := Lib.hid hsv; clear hfu hsv
        have HUV := Lib.hid (show Row.verD tg (ra, rb, rc, fu, M) = false by rw [HFU.out, HM.out]; exact Row.verD_until tg (ra, rb, rc, rf, rs) HWT.out)
        have HVV := Lib.hid (show Row.verD tg (ra, rb, rc, rf, sv) = false by rw [HSV.out, HM.out]; exact Row.verD_sig tg (ra, rb, rc, rf, rs))
        cases hs : Num.inB tg 1 2147483646 with
        | false =>
          rw [hs] at HTV
          have HSB := Lib.hid hs; clear hs
          go_wp2_with fail
          refine (Row.iSecV false HSB.out).mono ?_
          rintro e w19 ⟨rfl, hb⟩
          replace X_t := Lib.hid (X_t.out.on hb)
          replace H_t := Lib.hid (H_t.out.on hb)
          replace BB := Lib.hid (BB.out.trans (hb.mono BB.out.size))
          clear hb
          obtain ⟨k0, k1, k2, k3, k4⟩ := Draw.keepC5 X_t.out
          go_wp2_with fail
          clear k0 k1 k2 k3 k4
          refine (Row.iVerV false HTV.out H_t.out HYB.out (show Row.bulk ra + rb.length + Row.bulk rc ≤ 1200000 by omega)).mono ?_
          rintro e w20 ⟨rfl, hb⟩
          replace H_t := Lib.hid (H_t.out.on hb)
          replace BB := Lib.hid (BB.out.trans (hb.mono BB.out.size))
          clear hb
          go_wp2_with fail
          go_ret
          exact ⟨rfl, BB.out⟩
        | true =>
          rw [hs] at HTV
          have HSB := Lib.hid hs; clear hs
          go_wp2_with fail
          refine (Row.iSecV true HSB.out).mono ?_
          rintro e w21 ⟨rfl, hb⟩
          replace X_t := Lib.hid (X_t.out.on hb)
          replace H_t := Lib.hid (H_t.out.on hb)
          replace BB := Lib.hid (BB.out.trans (hb.mono BB.out.size))
          clear hb
          obtain ⟨k0, k1, k2, k3, k4⟩ := Draw.keepC5 X_t.out
          clear k0 k1 k2 k3 k4
          have HNT := Lib.hid (show n_tb = rb.length from (Row.kD_parts (x := (ra, rb, rc, rf, M)) H_t.out).2.1.lenEq)
          have BA := Lib.hid (Below.refl w21.heap.size w21)
          have K_t := Lib.hid X_t.out
          have hal := (Below.refl w21.heap.size w21).alloc (Nat.le_refl _) (.cells #[.slice x_ta n_ta c_ta, .slice x_tb n_tb c_tb, .slice x_tc n_tc c_tc, .int .i64 rf, .int .i64 M] 28)
          have G_u := Lib.hid (show w21.heap.size ≤ w21.heap.size from BA.out.size)
          replace BA := Lib.hid (BA.out.trans (hal.mono BA.out.size))
          have X_u := Lib.hid (Ret.Blk.new w21 #[.slice x_ta n_ta c_ta, .slice x_tb n_tb c_tb, .slice x_tc n_tc c_tc, .int .i64 rf, .int .i64 M] 28); clear hal
          obtain ⟨k0, k1, k2, k3, k4⟩ := Draw.keepC5 K_t.out
          go_upto_region 23 with fail
          clear k0 k1 k2 k3 k4 K_t
          generalize w21.alloc (.cells #[.slice x_ta n_ta c_ta, .slice x_tb n_tb c_tb, .slice x_tc n_tc c_tc, .int .i64 rf, .int .i64 M] 28) = Wu at *
          obtain ⟨bu, hbu⟩ : ∃ z, z = w21.heap.size := ⟨_, rfl⟩
          rw [← hbu] at X_u ⊢
          replace G_u := Lib.hid (show w21.heap.size ≤ bu by rw [hbu]; exact Nat.le_refl _); clear hbu
          have K_t := Lib.hid (X_t.out.on BA.out)
          have L_u := Lib.hid X_u.out.lt
          have hw1 : wrap64 (rf + 1) = fu := (Go.IntWalk.i64_left (rf + 1)).symm.trans HFU.out.symm
          have hw2 : IntKind.i64.wrap (rf + 1) = fu := HFU.out.symm
          obtain ⟨k0, k1, k2, k3, k4⟩ := Draw.keepC5 K_t.out
          obtain ⟨f0, f1, f2, f3, f4⟩ := Draw.keepC5 X_u.out
          have fz := X_u.out.frozen 3
          go_upto_region 24 with fail
          clear k0 k1 k2 k3 k4 f0 f1 f2 f3 f4 fz K_t
          replace X_u := Lib.hid (X_u.out.set 3 (.int .i64 fu))
          replace BA := Lib.hid (BA.out.setCell (p := ⟨bu, 3, none⟩) G_u.out (.int .i64 fu))
          generalize Wu.setCell ⟨bu, 3, none⟩ (.int .i64 fu) = Wus at *
          have K_t := Lib.hid (X_t.out.on BA.out)
          replace L_u := Lib.hid X_u.out.lt
          clear hw1 hw2
          have hal := (Below.refl Wus.heap.size Wus).alloc (Nat.le_refl _) (.cells #[.slice x_ta n_ta c_ta, .slice x_tb n_tb c_tb, .slice x_tc n_tc c_tc, .int .i64 rf, .int .i64 M] 28)
          replace X_u := Lib.hid (X_u.out.on hal)
          have G_v := Lib.hid (show w21.heap.size ≤ Wus.heap.size from BA.out.size)
          have D_uv := Lib.hid (show bu ≠ Wus.heap.size from Nat.ne_of_lt L_u.out)
          replace BA := Lib.hid (BA.out.trans (hal.mono BA.out.size))
          have X_v := Lib.hid (Ret.Blk.new Wus #[.slice x_ta n_ta c_ta, .slice x_tb n_tb c_tb, .slice x_tc n_tc c_tc, .int .i64 rf, .int .i64 M] 28); clear hal
          obtain ⟨k0, k1, k2, k3, k4⟩ := Draw.keepC5 K_t.out
          go_upto_region 25 with fail
          clear k0 k1 k2 k3 k4 K_t
          generalize Wus.alloc (.cells #[.slice x_ta n_ta c_ta, .slice x_tb n_tb c_tb, .slice x_tc n_tc c_tc, .int .i64 rf, .int .i64 M] 28) = Wv at *
          generalize Wus.heap.size = bv at *
          have K_t := Lib.hid (X_t.out.on BA.out)
          replace L_u := Lib.hid X_u.out.lt
          have L_v := Lib.hid X_v.out.lt
          have hw1 : (M + 1) % 2147483647 = sv := HSV.out.symm
          have hw2 : (M + 1).tmod 2147483647 = sv := by rw [Int.tmod_eq_emod_of_nonneg (by omega)]; exact HSV.out.symm
          obtain ⟨k0, k1, k2, k3, k4⟩ := Draw.keepC5 K_t.out
          obtain ⟨f0, f1, f2, f3, f4⟩ := Draw.keepC5 X_v.out
          have fz := X_v.out.frozen 4
          go_upto_region 26 with fail
          clear k0 k1 k2 k3 k4 f0 f1 f2 f3 f4 fz K_t
          replace X_u := Lib.hid (X_u.out.other (a := ⟨bv, 4, none⟩) (fun e => D_uv.out e.symm) (.int .i64 sv))
          replace X_v := Lib.hid (X_v.out.set 4 (.int .i64 sv))
          replace BA := Lib.hid (BA.out.setCell (p := ⟨bv, 4, none⟩) G_v.out (.int .i64 sv))
          generalize Wv.setCell ⟨bv, 4, none⟩ (.int .i64 sv) = Wvs at *
          have K_t := Lib.hid (X_t.out.on BA.out)
          replace L_u := Lib.hid X_u.out.lt
          replace L_v := Lib.hid X_v.out.lt
          clear hw1 hw2
          have hal := (Below.refl Wvs.heap.size Wvs).alloc (Nat.le_refl _) (.cells #[.slice x_ta n_ta c_ta, .slice x_tb n_tb c_tb, .slice x_tc n_tc c_tc, .int .i64 rf, .int .i64 M] 28)
          replace X_u := Lib.hid (X_u.out.on hal)
          replace X_v := Lib.hid (X_v.out.on hal)
          have G_x := Lib.hid (show w21.heap.size ≤ Wvs.heap.size from BA.out.size)
          have D_ux := Lib.hid (show bu ≠ Wvs.heap.size from Nat.ne_of_lt L_u.out)
          have D_vx := Lib.hid (show bv ≠ Wvs.heap.size from Nat.ne_of_lt L_v.out)
          replace BA := Lib.hid (BA.out.trans (hal.mono BA.out.size))
          have X_x := Lib.hid (Ret.Blk.new Wvs #[.slice x_ta n_ta c_ta, .slice x_tb n_tb c_tb, .slice x_tc n_tc c_tc, .int .i64 rf, .int .i64 M] 28); clear hal
          obtain ⟨k0, k1, k2, k3, k4⟩ := Draw.keepC5 K_t.out
          go_upto_region 27 with fail
          clear k0 k1 k2 k3 k4 K_t
          generalize Wvs.alloc (.cells #[.slice x_ta n_ta c_ta, .slice x_tb n_tb c_tb, .slice x_tc n_tc c_tc, .int .i64 rf, .int .i64 M] 28) = Wx at *
          generalize Wvs.heap.size = bx at *
          have K_t := Lib.hid (X_t.out.on BA.out)
          replace L_u := Lib.hid X_u.out.lt
          replace L_v := Lib.hid X_v.out.lt
          have L_x := Lib.hid X_x.out.lt
          have hal : Below Wx.heap.size Wx (Wx.alloc (.cells #[] 5)) := (Below.refl _ _).alloc (Nat.le_refl _) _
          obtain ⟨k0, k1, k2, k3, k4⟩ := Draw.keepC5 K_t.out
          obtain ⟨j0, j1, j2, j3, j4⟩ := Draw.keepC5 (K_t.out.on hal)
          have E0 := Lib.hid (Sl.own_empty .u8 5 Wx)
          have HS := Lib.hid (((Row.kD_parts (x := (ra, rb, rc, rf, M)) H_t.out).2.1.on BA.out).on hal)
          have HAL := Lib.hid hal; clear hal
          go_wp2_with (at_builtin; refine Sl.wpList_app_nn (k := .u8) (B := Wx.heap.size) (l := []) (m := rb) rfl _ _ rfl Tryz.underlying22 Sl.elemBYTE rfl rfl rfl E0.out HS.out ?_ (by decide) ?_ ?_)
          · have h5 := b_t; first | omega | (simp; omega)
          intro v19 wa ho hg hnn
          clear k0 k1 k2 k3 k4 j0 j1 j2 j3 j4 HS
          obtain ⟨g, cap1, rfl, g1, g2, g3⟩ := Sl.Own.block ho hnn
          have ho2 : Sl.Own 5 .u8 Wx.heap.size wa (.slice (some ⟨g, 0, none⟩) n_tb cap1) rb := by rw [HNT.out]; exact ho
          have hln : rb.length = n_tb := HNT.out.symm
          rw [hln] at g3 ⊢
          have hba : Below Wx.heap.size Wx wa := HAL.out.grown hg (by simp) (fun g hh => by cases hh; exact Nat.le_refl _)
          replace X_u := Lib.hid (X_u.out.on hba)
          replace X_v := Lib.hid (X_v.out.on hba)
          replace X_x := Lib.hid (X_x.out.on hba)
          replace BA := Lib.hid (BA.out.trans (hba.mono BA.out.size))
          have GX := Lib.hid (show bx ≠ g by have := L_x.out; omega)
          have GW := Lib.hid (show w21.heap.size ≤ g by have h5 := L_x.out; have h6 := G_x.out; omega)
          have OC := Lib.hid ho2
          have GU := Lib.hid (show bu ≠ g ∧ bv ≠ g by have h5 := L_u.out; have h6 := L_v.out; omega)
          clear ho hg hnn ho2 hba hln E0 HAL K_t
          obtain ⟨f0, f1, f2, f3, f4⟩ := Draw.keepC5 X_x.out
          have fz := X_x.out.frozen 1
          go_upto_region 28 with fail
          clear f0 f1 f2 f3 f4 fz
          replace X_u := Lib.hid (X_u.out.other (a := ⟨bx, 1, none⟩) (fun e => D_ux.out e.symm) (.slice (some ⟨g, 0, none⟩) n_tb cap1))
          replace X_v := Lib.hid (X_v.out.other (a := ⟨bx, 1, none⟩) (fun e => D_vx.out e.symm) (.slice (some ⟨g, 0, none⟩) n_tb cap1))
          replace X_x := Lib.hid (X_x.out.set 1 (.slice (some ⟨g, 0, none⟩) n_tb cap1))
          replace BA := Lib.hid (BA.out.setCell (p := ⟨bx, 1, none⟩) G_x.out (.slice (some ⟨g, 0, none⟩) n_tb cap1))
          have hbg : ∀ q, (.slice (some ⟨g, 0, none⟩) n_tb cap1 : Value).ownBlock = some q → q ≠ bx := fun q e e2 => GX.out (by have h5 : q = g := (Option.some.inj e).symm; rw [← e2, h5])
          replace OC := Lib.hid (OC.out.grown (Ret.grownBy_set _ ⟨bx, 1, none⟩ (.slice (some ⟨g, 0, none⟩) n_tb cap1)) (Or.inr (fun e => GX.out (Option.some.inj e).symm)))
          generalize wa.setCell ⟨bx, 1, none⟩ (.slice (some ⟨g, 0, none⟩) n_tb cap1) = Wc at *
          have LX := Lib.hid (show Ret.Blk Wc bx #[.slice x_ta n_ta c_ta, .slice (some ⟨g, 0, none⟩) n_tb cap1, .slice x_tc n_tc c_tc, .int .i64 rf, .int .i64 M] 28 from X_x.out)
          have LU := Lib.hid (show Ret.Blk Wc bu #[.slice x_ta n_ta c_ta, .slice x_tb n_tb c_tb, .slice x_tc n_tc c_tc, .int .i64 fu, .int .i64 M] 28 from X_u.out)
          have LV := Lib.hid (show Ret.Blk Wc bv #[.slice x_ta n_ta c_ta, .slice x_tb n_tb c_tb, .slice x_tc n_tc c_tc, .int .i64 rf, .int .i64 sv] 28 from X_v.out)
          clear X_u X_v X_x hbg
          have z1 : Wc.cell? ⟨bx, 1, none⟩ = some (.slice (some ⟨g, 0, none⟩) n_tb cap1) := LX.out.cell 1
          by_cases hz : n_tb = 0
          · subst hz
            have hrb : rb = [] := List.eq_nil_of_length_eq_zero HNT.out.symm
            go_wp2_with fail
            clear z1
            have HXV := Lib.hid (show Row.verD tg (ra, rb, rc, rf, M) = true from HTV.out)
            have P_t := Lib.hid ((H_t.out).on BA.out)
            have PH := Lib.hid (Row.kD_parts (x := (ra, rb, rc, rf, M)) P_t.out)
            have P_u := Lib.hid (Row.kD_ints (x := (ra, rb, rc, rf, M)) P_t.out fu M)
            have P_v := Lib.hid (Row.kD_ints (x := (ra, rb, rc, rf, M)) P_t.out rf sv)
            have P_x := Lib.hid (Row.kD_of (x := (ra, rb, rc, rf, M)) ⟨PH.out.1, OC.out.holds, PH.out.2.2⟩)
            have LT := Lib.hid (X_t.out.on BA.out)
            have HBE := Lib.hid (BB.out.trans (BA.out.mono BB.out.size))
            refine Row.regT31 P_t P_u P_v P_x HTV HUV HVV HXV HYB HYB (Lib.hid (show ((((0 : Nat) : Int) == 0) = true) by decide)) b_t b_t (Lib.hid (LT.out.cell 0)) (Lib.hid (LT.out.cell 1)) (Lib.hid (LT.out.cell 2)) (Lib.hid (LT.out.cell 3)) (Lib.hid (LT.out.cell 4)) (Lib.hid (LU.out.cell 0)) (Lib.hid (LU.out.cell 1)) (Lib.hid (LU.out.cell 2)) (Lib.hid (LU.out.cell 3)) (Lib.hid (LU.out.cell 4)) (Lib.hid (LV.out.cell 0)) (Lib.hid (LV.out.cell 1)) (Lib.hid (LV.out.cell 2)) (Lib.hid (LV.out.cell 3)) (Lib.hid (LV.out.cell 4)) (Lib.hid (LX.out.cell 0)) (Lib.hid (LX.out.cell 1)) (Lib.hid (LX.out.cell 2)) (Lib.hid (LX.out.cell 3)) (Lib.hid (LX.out.cell 4)) ?_
            intro u214 u215 u216 u217 u218 u219 u220 u221 u222 u223 u224 u225 u226 u227 u228 u229 u230 u231 u232 u233 u234 u235 u236 u237 u238 wy hb
            have HBF := Lib.hid (HBE.out.trans (hb.mono HBE.out.size)); clear hb
            go_wp2_with fail
            go_ret
            exact ⟨rfl, HBF.out⟩
          · have hpos : 0 < n_tb := by omega
            have hpz : (0 : Int) < (n_tb : Int) := by omega
            clear hz
            go_wp2_with fail
            clear z1
            have HQ1 := Lib.hid ((Q0.out.on BB.out).on BA.out)
            refine Row.regT29 HQ1 HN0 hpos (Lib.hid (LX.out.cell 1)) ?_
            intro u193 u194 u195 u196 u197 u198 ii wd hii hb
            replace LX := Lib.hid (LX.out.on hb); replace LU := Lib.hid (LU.out.on hb); replace LV := Lib.hid (LV.out.on hb); replace OC := Lib.hid (OC.out.on hb); replace BA := Lib.hid (BA.out.trans (hb.mono BA.out.size)); replace HQ1 := Lib.hid (HQ1.out.on hb); clear hb
            have hii2 : (ii : Int) < (n_tb : Int) := by omega
            obtain ⟨hc2, hf2⟩ := Sl.own_cell OC.out HNT.out (j := ii) (by have h5 := HNT.out; omega)
            have HKC := Lib.hid hc2; have HKF := Lib.hid hf2; clear hc2 hf2
            have hyb := Sl.Byt.at HYB.out (j := ii) (by have := HNT.out; omega)
            go_wp2_with fail
            refine Row.regT30 HQ1 HN0 GX HKF hii hii2 hyb.1 hyb.2 HKC (Lib.hid (LX.out.cell 1)) ?_
            intro u199 u200 u201 u202 u203 u204 u205 u206 u207 u208 u209 u210 u211 u212 u213 y2 we hy2 hyn hb
            replace LX := Lib.hid (LX.out.on hb); replace LU := Lib.hid (LU.out.on hb); replace LV := Lib.hid (LV.out.on hb); replace OC := Lib.hid (OC.out.on hb); replace BA := Lib.hid (BA.out.trans (hb.mono BA.out.size)); clear hb
            have hst := Sl.own_store OC.out HNT.out ii y2
            replace LX := Lib.hid (LX.out.other (a := ⟨g, ii, none⟩) (fun e => GX.out e.symm) (.int .u8 y2)); replace LU := Lib.hid (LU.out.other (a := ⟨g, ii, none⟩) (fun e => GU.out.1 e.symm) (.int .u8 y2)); replace LV := Lib.hid (LV.out.other (a := ⟨g, ii, none⟩) (fun e => GU.out.2 e.symm) (.int .u8 y2))
            replace BA := Lib.hid (BA.out.setCell (p := ⟨g, ii, none⟩) GW.out (.int .u8 y2))
            replace OC := Lib.hid hst.1; clear hst
            generalize we.setCell ⟨g, ii, none⟩ (.int .u8 y2) = Wf at *
            have HXV := Lib.hid (show Row.verD tg (ra, rb.set ii y2, rc, rf, M) = false by rw [HM.out]; exact Row.verD_content tg (ra, rb, rc, rf, rs) (i := ii) (by show ii < rb.length; have := HNT.out; omega) y2 hy2 hyb hyn)
            have HY2 := Lib.hid (show Sl.Byt (rb.set ii y2) from fun z hz => by rcases List.mem_or_eq_of_mem_set hz with h5 | h5; exact HYB.out z h5; exact h5 ▸ hy2)
            have hl2 : Row.bulk ra + (rb.set ii y2).length + Row.bulk rc ≤ 3000 := by rw [List.length_set]; exact b_t
            have hzf : (((n_tb : Nat) : Int) == 0) = false := by simp; omega
            have HZF := Lib.hid hzf; clear hzf
            go_wp2_with fail
            have P_t := Lib.hid ((H_t.out).on BA.out)
            have PH := Lib.hid (Row.kD_parts (x := (ra, rb, rc, rf, M)) P_t.out)
            have P_u := Lib.hid (Row.kD_ints (x := (ra, rb, rc, rf, M)) P_t.out fu M)
            have P_v := Lib.hid (Row.kD_ints (x := (ra, rb, rc, rf, M)) P_t.out rf sv)
            have P_x := Lib.hid (Row.kD_of (x := (ra, rb.set ii y2, rc, rf, M)) ⟨PH.out.1, OC.out.holds, PH.out.2.2⟩)
            have LT := Lib.hid (X_t.out.on BA.out)
            have HBE := Lib.hid (BB.out.trans (BA.out.mono BB.out.size))
            refine Row.regT31 P_t P_u P_v P_x HTV HUV HVV HXV HYB HY2 HZF b_t hl2 (Lib.hid (LT.out.cell 0)) (Lib.hid (LT.out.cell 1)) (Lib.hid (LT.out.cell 2)) (Lib.hid (LT.out.cell 3)) (Lib.hid (LT.out.cell 4)) (Lib.hid (LU.out.cell 0)) (Lib.hid (LU.out.cell 1)) (Lib.hid (LU.out.cell 2)) (Lib.hid (LU.out.cell 3)) (Lib.hid (LU.out.cell 4)) (Lib.hid (LV.out.cell 0)) (Lib.hid (LV.out.cell 1)) (Lib.hid (LV.out.cell 2)) (Lib.hid (LV.out.cell 3)) (Lib.hid (LV.out.cell 4)) (Lib.hid (LX.out.cell 0)) (Lib.hid (LX.out.cell 1)) (Lib.hid (LX.out.cell 2)) (Lib.hid (LX.out.cell 3)) (Lib.hid (LX.out.cell 4)) ?_
            intro u214 u215 u216 u217 u218 u219 u220 u221 u222 u223 u224 u225 u226 u227 u228 u229 u230 u231 u232 u233 u234 u235 u236 u237 u238 wy hb
            have HBF := Lib.hid (HBE.out.trans (hb.mono HBE.out.size)); clear hb
            go_wp2_with fail
            go_ret
            exact ⟨rfl, HBF.out⟩
    | true =>
      obtain ⟨v1, v2⟩ := HBK0.out rfl
      have HV := Lib.hid v1; have HE := Lib.hid v2; clear v1 v2
      have c0_x : wx.cell? ⟨w4.heap.size, 0, none⟩ = some (.slice x_xa n_xa c_xa) := C_x.out.cell 0
      have c1_x : wx.cell? ⟨w4.heap.size, 1, none⟩ = some (.slice x_xb n_xb c_xb) := C_x.out.cell 1
      have c2_x : wx.cell? ⟨w4.heap.size, 2, none⟩ = some (.slice x_xc n_xc c_xc) := C_x.out.cell 2
      have c3_x : wx.cell? ⟨w4.heap.size, 3, none⟩ = some (.int .i64 xx.2.2.2.1) := C_x.out.cell 3
      have c4_x : wx.cell? ⟨w4.heap.size, 4, none⟩ = some (.int .i64 xx.2.2.2.2) := C_x.out.cell 4
      go_wp2_with fail
      clear c0_x c1_x c2_x c3_x c4_x
      refine (Row.iValV true HV.out H_x.out (by omega)).mono ?_
      rintro e w22 ⟨rfl, hb⟩
      replace C_w := Lib.hid (C_w.out.on hb)
      replace C_x := Lib.hid (C_x.out.on hb)
      replace C_r := Lib.hid (C_r.out.on hb)
      replace H_w := Lib.hid (H_w.out.on hb)
      replace H_b := Lib.hid (H_b.out.on hb)
      replace H_c := Lib.hid (H_c.out.on hb)
      replace H_x := Lib.hid (H_x.out.on hb)
      replace H_r := Lib.hid (H_r.out.on hb)
      replace BB := Lib.hid (BB.out.trans (hb.mono BB.out.size))
      clear hb
      have c0_x : w22.cell? ⟨w4.heap.size, 0, none⟩ = some (.slice x_xa n_xa c_xa) := C_x.out.cell 0
      have c1_x : w22.cell? ⟨w4.heap.size, 1, none⟩ = some (.slice x_xb n_xb c_xb) := C_x.out.cell 1
      have c2_x : w22.cell? ⟨w4.heap.size, 2, none⟩ = some (.slice x_xc n_xc c_xc) := C_x.out.cell 2
      have c3_x : w22.cell? ⟨w4.heap.size, 3, none⟩ = some (.int .i64 xx.2.2.2.1) := C_x.out.cell 3
      have c4_x : w22.cell? ⟨w4.heap.size, 4, none⟩ = some (.int .i64 xx.2.2.2.2) := C_x.out.cell 4
      go_wp2_with fail
      clear c0_x c1_x c2_x c3_x c4_x
      refine (Row.implEncodeDataK _ xx _ H_x.out (by omega)).mono ?_
      rintro e w23 ⟨U_e, rfl, ho_e, hb⟩
      obtain ⟨x_e, n_e, c_e, rfl, ho_e⟩ := Row.kB_shape ho_e
      replace C_w := Lib.hid (C_w.out.on hb)
      replace C_x := Lib.hid (C_x.out.on hb)
      replace C_r := Lib.hid (C_r.out.on hb)
      replace H_w := Lib.hid (H_w.out.on hb)
      replace H_b := Lib.hid (H_b.out.on hb)
      replace H_c := Lib.hid (H_c.out.on hb)
      replace H_x := Lib.hid (H_x.out.on hb)
      replace H_r := Lib.hid (H_r.out.on hb)
      replace BB := Lib.hid (BB.out.trans (hb.mono BB.out.size))
      clear hb
      have H_e := Lib.hid ho_e.at; clear ho_e
      go_wp2_with fail
      refine (Row.sameBV8 HE.out H_e.out H_c.out (by have := Row.encD_len xx; omega)).mono ?_
      rintro e w24 ⟨rfl, hb⟩
      replace C_w := Lib.hid (C_w.out.on hb)
      replace C_x := Lib.hid (C_x.out.on hb)
      replace C_r := Lib.hid (C_r.out.on hb)
      replace H_w := Lib.hid (H_w.out.on hb)
      replace H_b := Lib.hid (H_b.out.on hb)
      replace H_c := Lib.hid (H_c.out.on hb)
      replace H_x := Lib.hid (H_x.out.on hb)
      replace H_r := Lib.hid (H_r.out.on hb)
      replace H_e := Lib.hid (H_e.out.on hb)
      replace BB := Lib.hid (BB.out.trans (hb.mono BB.out.size))
      clear hb
      clear H_e
      clear H_x
      clear C_x
      clear H_c
      clear HBK0
      go_wp2_with fail
      refine (Row.implDecodeDataK _ eb _ H_b.out HYE.out (by omega)).mono ?_
      rintro e w25 ⟨U_z, rfl, ho_z, hb⟩
      rw [← HXZ.out] at ho_z
      rw [← HBK.out]
      obtain ⟨x_za, n_za, c_za, x_zb, n_zb, c_zb, x_zc, n_zc, c_zc, rfl, ho_z⟩ := Row.kD_shape ho_z
      replace C_w := Lib.hid (C_w.out.on hb)
      replace C_r := Lib.hid (C_r.out.on hb)
      replace H_w := Lib.hid (H_w.out.on hb)
      replace H_b := Lib.hid (H_b.out.on hb)
      replace H_r := Lib.hid (H_r.out.on hb)
      replace BB := Lib.hid (BB.out.trans (hb.mono BB.out.size))
      clear hb
      have H_z := Lib.hid ho_z.at; clear ho_z
      have hal := (Below.refl (w25).heap.size (w25)).alloc (Nat.le_refl _) (.cells #[.slice x_za n_za c_za, .slice x_zb n_zb c_zb, .slice x_zc n_zc c_zc, .int .i64 xz.2.2.2.1, .int .i64 xz.2.2.2.2] 28)
      replace C_w := Lib.hid (C_w.out.on hal)
      replace C_r := Lib.hid (C_r.out.on hal)
      replace H_w := Lib.hid (H_w.out.on hal)
      replace H_b := Lib.hid (H_b.out.on hal)
      replace H_r := Lib.hid (H_r.out.on hal)
      replace H_z := Lib.hid (H_z.out.on hal)
      replace BB := Lib.hid (BB.out.trans (hal.mono BB.out.size))
      have C_z := Lib.hid (Ret.Blk.new' (w := w25) #[.slice x_za n_za c_za, .slice x_zb n_zb c_zb, .slice x_zc n_zc c_zc, .int .i64 xz.2.2.2.1, .int .i64 xz.2.2.2.2] 28 (n := w25.heap.size) (by first | rfl | simp)); clear hal
      clear H_b
      have c0_w : (w25.alloc (.cells #[.slice x_za n_za c_za, .slice x_zb n_zb c_zb, .slice x_zc n_zc c_zc, .int .i64 xz.2.2.2.1, .int .i64 xz.2.2.2.2] 28)).cell? ⟨w1.heap.size, 0, none⟩ = some (.slice x_wa n_wa c_wa) := C_w.out.cell 0
      have c1_w : (w25.alloc (.cells #[.slice x_za n_za c_za, .slice x_zb n_zb c_zb, .slice x_zc n_zc c_zc, .int .i64 xz.2.2.2.1, .int .i64 xz.2.2.2.2] 28)).cell? ⟨w1.heap.size, 1, none⟩ = some (.slice x_wb n_wb c_wb) := C_w.out.cell 1
      have c2_w : (w25.alloc (.cells #[.slice x_za n_za c_za, .slice x_zb n_zb c_zb, .slice x_zc n_zc c_zc, .int .i64 xz.2.2.2.1, .int .i64 xz.2.2.2.2] 28)).cell? ⟨w1.heap.size, 2, none⟩ = some (.slice x_wc n_wc c_wc) := C_w.out.cell 2
      have c3_w : (w25.alloc (.cells #[.slice x_za n_za c_za, .slice x_zb n_zb c_zb, .slice x_zc n_zc c_zc, .int .i64 xz.2.2.2.1, .int .i64 xz.2.2.2.2] 28)).cell? ⟨w1.heap.size, 3, none⟩ = some (.int .i64 xw.2.2.2.1) := C_w.out.cell 3
      have c4_w : (w25.alloc (.cells #[.slice x_za n_za c_za, .slice x_zb n_zb c_zb, .slice x_zc n_zc c_zc, .int .i64 xz.2.2.2.1, .int .i64 xz.2.2.2.2] 28)).cell? ⟨w1.heap.size, 4, none⟩ = some (.int .i64 xw.2.2.2.2) := C_w.out.cell 4
      go_wp2_with fail
      clear c0_w c1_w c2_w c3_w c4_w
      cases q4 with
      | false =>
        have hen := HEN.out
        rw [if_neg (by rw [HQ4.out]; simp)] at hen
        obtain rfl : back = false := by rw [HBK.out, hen]
        clear hen
        refine (Row.iValV false HQ4.out H_w.out (by omega)).mono ?_
        rintro e w26 ⟨rfl, hb⟩
        replace C_w := Lib.hid (C_w.out.on hb)
        replace C_r := Lib.hid (C_r.out.on hb)
        replace C_z := Lib.hid (C_z.out.on hb)
        replace H_w := Lib.hid (H_w.out.on hb)
        replace H_r := Lib.hid (H_r.out.on hb)
        replace H_z := Lib.hid (H_z.out.on hb)
        replace BB := Lib.hid (BB.out.trans (hb.mono BB.out.size))
        clear hb
        clear H_w
        clear C_w
        clear H_z
        clear C_z
        have c0_r : w26.cell? ⟨w7.heap.size, 0, none⟩ = some (.slice x_ra n_ra c_ra) := C_r.out.cell 0
        have c1_r : w26.cell? ⟨w7.heap.size, 1, none⟩ = some (.slice x_rb n_rb c_rb) := C_r.out.cell 1
        have c2_r : w26.cell? ⟨w7.heap.size, 2, none⟩ = some (.slice x_rc n_rc c_rc) := C_r.out.cell 2
        have c3_r : w26.cell? ⟨w7.heap.size, 3, none⟩ = some (.int .i64 xr.2.2.2.1) := C_r.out.cell 3
        have c4_r : w26.cell? ⟨w7.heap.size, 4, none⟩ = some (.int .i64 xr.2.2.2.2) := C_r.out.cell 4
        go_wp2_with fail
        clear c0_r c1_r c2_r c3_r c4_r
        obtain ⟨ra, rb, rc, rf, rs⟩ := xr
        obtain ⟨M, hM⟩ : ∃ M, M = Seal.mac tg (Row.portD (ra, rb, rc, rf, rs)) := ⟨_, rfl⟩
        have HM := Lib.hid hM
        have hM2 := Seal.mac_in tg (Row.portD (ra, rb, rc, rf, rs))
        rw [← hM] at hM2
        obtain ⟨hM0, hM1⟩ := hM2
        clear hM
        refine (Row.implSignDataK _ tg (ra, rb, rc, rf, rs) _ H_r.out HWr.out (by omega)).mono ?_
        rintro e w27 ⟨U_t, rfl, ho_t, hb⟩
        replace ho_t := ho_t.at
        have ho_t : Row.kD.At w27 U_t (ra, rb, rc, rf, M) := by rw [HM.out]; exact ho_t
        obtain ⟨x_ta, n_ta, c_ta, x_tb, n_tb, c_tb, x_tc, n_tc, c_tc, rfl, ho_t⟩ := Row.kD_shapeA ho_t
        dsimp only at ho_t ⊢
        replace C_r := Lib.hid (C_r.out.on hb)
        replace H_r := Lib.hid (H_r.out.on hb)
        replace BB := Lib.hid (BB.out.trans (hb.mono BB.out.size))
        clear hb
        have H_t := Lib.hid ho_t; clear ho_t
        clear H_r
        clear C_r
        have hal := (Below.refl w27.heap.size w27).alloc (Nat.le_refl _) (.cells #[.slice x_ta n_ta c_ta, .slice x_tb n_tb c_tb, .slice x_tc n_tc c_tc, .int .i64 rf, .int .i64 M] 28)
        replace H_t := Lib.hid (H_t.out.on hal)
        replace BB := Lib.hid (BB.out.trans (hal.mono BB.out.size))
        have X_t := Lib.hid (Ret.Blk.new w27 #[.slice x_ta n_ta c_ta, .slice x_tb n_tb c_tb, .slice x_tc n_tc c_tc, .int .i64 rf, .int .i64 M] 28)
        clear hal
        go_upto_region 20 with fail
        generalize w27.alloc (.cells #[.slice x_ta n_ta c_ta, .slice x_tb n_tb c_tb, .slice x_tc n_tc c_tc, .int .i64 rf, .int .i64 M] 28) = Wt at *
        generalize w27.heap.size = bt at *
        have HWT := Lib.hid (show (Lit.int .i64 rf).wf = true from HWr.out.2.2.2.1)
        have HYB := Lib.hid (show Sl.Byt rb from HWr.out.byt)
        have b_t : Row.bulk ra + rb.length + Row.bulk rc ≤ 3000 := b_r
        have HTV := Lib.hid (show Row.verD tg (ra, rb, rc, rf, M) = Num.inB tg 1 2147483646 by rw [HM.out]; exact Row.verD_sg tg (ra, rb, rc, rf, rs))
        obtain ⟨fu, hfu⟩ : ∃ z, z = IntKind.i64.wrap (rf + 1) := ⟨_, rfl⟩
        obtain ⟨sv, hsv⟩ : ∃ z, z = (M + 1) % 2147483647 := ⟨_, rfl⟩
        have HFU := Lib.hid hfu; have HSV := Lib.hid hsv; clear hfu hsv
        have HUV := Lib.hid (show Row.verD tg (ra, rb, rc, fu, M) = false by rw [HFU.out, HM.out]; exact Row.verD_until tg (ra, rb, rc, rf, rs) HWT.out)
        have HVV := Lib.hid (show Row.verD tg (ra, rb, rc, rf, sv) = false by rw [HSV.out, HM.out]; exact Row.verD_sig tg (ra, rb, rc, rf, rs))
        cases hs : Num.inB tg 1 2147483646 with
        | false =>
          rw [hs] at HTV
          have HSB := Lib.hid hs; clear hs
          go_wp2_with fail
          refine (Row.iSecV false HSB.out).mono ?_
          rintro e w28 ⟨rfl, hb⟩
          replace X_t := Lib.hid (X_t.out.on hb)
          replace H_t := Lib.hid (H_t.out.on hb)
          replace BB := Lib.hid (BB.out.trans (hb.mono BB.out.size))
          clear hb
          obtain ⟨k0, k1, k2, k3, k4⟩ := Draw.keepC5 X_t.out
          go_wp2_with fail
          clear k0 k1 k2 k3 k4
          refine (Row.iVerV false HTV.out H_t.out HYB.out (show Row.bulk ra + rb.length + Row.bulk rc ≤ 1200000 by omega)).mono ?_
          rintro e w29 ⟨rfl, hb⟩
          replace H_t := Lib.hid (H_t.out.on hb)
          replace BB := Lib.hid (BB.out.trans (hb.mono BB.out.size))
          clear hb
          go_wp2_with fail
          go_ret
          exact ⟨rfl, BB.out⟩
        | true =>
          rw [hs] at HTV
          have HSB := Lib.hid hs; clear hs
          go_wp2_with fail
          refine (Row.iSecV true HSB.out).mono ?_
          rintro e w30 ⟨rfl, hb⟩
          replace X_t := Lib.hid (X_t.out.on hb)
          replace H_t := Lib.hid (H_t.out.on hb)
          replace BB := Lib.hid (BB.out.trans (hb.mono BB.out.size))
          clear hb
          obtain ⟨k0, k1, k2, k3, k4⟩ := Draw.keepC5 X_t.out
          clear k0 k1 k2 k3 k4
          have HNT := Lib.hid (show n_tb = rb.length from (Row.kD_parts (x := (ra, rb, rc, rf, M)) H_t.out).2.1.lenEq)
          have BA := Lib.hid (Below.refl w30.heap.size w30)
          have K_t := Lib.hid X_t.out
          have hal := (Below.refl w30.heap.size w30).alloc (Nat.le_refl _) (.cells #[.slice x_ta n_ta c_ta, .slice x_tb n_tb c_tb, .slice x_tc n_tc c_tc, .int .i64 rf, .int .i64 M] 28)
          have G_u := Lib.hid (show w30.heap.size ≤ w30.heap.size from BA.out.size)
          replace BA := Lib.hid (BA.out.trans (hal.mono BA.out.size))
          have X_u := Lib.hid (Ret.Blk.new w30 #[.slice x_ta n_ta c_ta, .slice x_tb n_tb c_tb, .slice x_tc n_tc c_tc, .int .i64 rf, .int .i64 M] 28); clear hal
          obtain ⟨k0, k1, k2, k3, k4⟩ := Draw.keepC5 K_t.out
          go_upto_region 23 with fail
          clear k0 k1 k2 k3 k4 K_t
          generalize w30.alloc (.cells #[.slice x_ta n_ta c_ta, .slice x_tb n_tb c_tb, .slice x_tc n_tc c_tc, .int .i64 rf, .int .i64 M] 28) = Wu at *
          obtain ⟨bu, hbu⟩ : ∃ z, z = w30.heap.size := ⟨_, rfl⟩
          rw [← hbu] at X_u ⊢
          replace G_u := Lib.hid (show w30.heap.size ≤ bu by rw [hbu]; exact Nat.le_refl _); clear hbu
          have K_t := Lib.hid (X_t.out.on BA.out)
          have L_u := Lib.hid X_u.out.lt
          have hw1 : wrap64 (rf + 1) = fu := (Go.IntWalk.i64_left (rf + 1)).symm.trans HFU.out.symm
          have hw2 : IntKind.i64.wrap (rf + 1) = fu := HFU.out.symm
          obtain ⟨k0, k1, k2, k3, k4⟩ := Draw.keepC5 K_t.out
          obtain ⟨f0, f1, f2, f3, f4⟩ := Draw.keepC5 X_u.out
          have fz := X_u.out.frozen 3
          go_upto_region 24 with fail
          clear k0 k1 k2 k3 k4 f0 f1 f2 f3 f4 fz K_t
          replace X_u := Lib.hid (X_u.out.set 3 (.int .i64 fu))
          replace BA := Lib.hid (BA.out.setCell (p := ⟨bu, 3, none⟩) G_u.out (.int .i64 fu))
          generalize Wu.setCell ⟨bu, 3, none⟩ (.int .i64 fu) = Wus at *
          have K_t := Lib.hid (X_t.out.on BA.out)
          replace L_u := Lib.hid X_u.out.lt
          clear hw1 hw2
          have hal := (Below.refl Wus.heap.size Wus).alloc (Nat.le_refl _) (.cells #[.slice x_ta n_ta c_ta, .slice x_tb n_tb c_tb, .slice x_tc n_tc c_tc, .int .i64 rf, .int .i64 M] 28)
          replace X_u := Lib.hid (X_u.out.on hal)
          have G_v := Lib.hid (show w30.heap.size ≤ Wus.heap.size from BA.out.size)
          have D_uv := Lib.hid (show bu ≠ Wus.heap.size from Nat.ne_of_lt L_u.out)
          replace BA := Lib.hid (BA.out.trans (hal.mono BA.out.size))
          have X_v := Lib.hid (Ret.Blk.new Wus #[.slice x_ta n_ta c_ta, .slice x_tb n_tb c_tb, .slice x_tc n_tc c_tc, .int .i64 rf, .int .i64 M] 28); clear hal
          obtain ⟨k0, k1, k2, k3, k4⟩ := Draw.keepC5 K_t.out
          go_upto_region 25 with fail
          clear k0 k1 k2 k3 k4 K_t
          generalize Wus.alloc (.cells #[.slice x_ta n_ta c_ta, .slice x_tb n_tb c_tb, .slice x_tc n_tc c_tc, .int .i64 rf, .int .i64 M] 28) = Wv at *
          generalize Wus.heap.size = bv at *
          have K_t := Lib.hid (X_t.out.on BA.out)
          replace L_u := Lib.hid X_u.out.lt
          have L_v := Lib.hid X_v.out.lt
          have hw1 : (M + 1) % 2147483647 = sv := HSV.out.symm
          have hw2 : (M + 1).tmod 2147483647 = sv := by rw [Int.tmod_eq_emod_of_nonneg (by omega)]; exact HSV.out.symm
          obtain ⟨k0, k1, k2, k3, k4⟩ := Draw.keepC5 K_t.out
          obtain ⟨f0, f1, f2, f3, f4⟩ := Draw.keepC5 X_v.out
          have fz := X_v.out.frozen 4
          go_upto_region 26 with fail
          clear k0 k1 k2 k3 k4 f0 f1 f2 f3 f4 fz K_t
          replace X_u := Lib.hid (X_u.out.other (a := ⟨bv, 4, none⟩) (fun e => D_uv.out e.symm) (.int .i64 sv))
          replace X_v := Lib.hid (X_v.out.set 4 (.int .i64 sv))
          replace BA := Lib.hid (BA.out.setCell (p := ⟨bv, 4, none⟩) G_v.out (.int .i64 sv))
          generalize Wv.setCell ⟨bv, 4, none⟩ (.int .i64 sv) = Wvs at *
          have K_t := Lib.hid (X_t.out.on BA.out)
          replace L_u := Lib.hid X_u.out.lt
          replace L_v := Lib.hid X_v.out.lt
          clear hw1 hw2
          have hal := (Below.refl Wvs.heap.size Wvs).alloc (Nat.le_refl _) (.cells #[.slice x_ta n_ta c_ta, .slice x_tb n_tb c_tb, .slice x_tc n_tc c_tc, .int .i64 rf, .int .i64 M] 28)
          replace X_u := Lib.hid (X_u.out.on hal)
          replace X_v := Lib.hid (X_v.out.on hal)
          have G_x := Lib.hid (show w30.heap.size ≤ Wvs.heap.size from BA.out.size)
          have D_ux := Lib.hid (show bu ≠ Wvs.heap.size from Nat.ne_of_lt L_u.out)
          have D_vx := Lib.hid (show bv ≠ Wvs.heap.size from Nat.ne_of_lt L_v.out)
          replace BA := Lib.hid (BA.out.trans (hal.mono BA.out.size))
          have X_x := Lib.hid (Ret.Blk.new Wvs #[.slice x_ta n_ta c_ta, .slice x_tb n_tb c_tb, .slice x_tc n_tc c_tc, .int .i64 rf, .int .i64 M] 28); clear hal
          obtain ⟨k0, k1, k2, k3, k4⟩ := Draw.keepC5 K_t.out
          go_upto_region 27 with fail
          clear k0 k1 k2 k3 k4 K_t
          generalize Wvs.alloc (.cells #[.slice x_ta n_ta c_ta, .slice x_tb n_tb c_tb, .slice x_tc n_tc c_tc, .int .i64 rf, .int .i64 M] 28) = Wx at *
          generalize Wvs.heap.size = bx at *
          have K_t := Lib.hid (X_t.out.on BA.out)
          replace L_u := Lib.hid X_u.out.lt
          replace L_v := Lib.hid X_v.out.lt
          have L_x := Lib.hid X_x.out.lt
          have hal : Below Wx.heap.size Wx (Wx.alloc (.cells #[] 5)) := (Below.refl _ _).alloc (Nat.le_refl _) _
          obtain ⟨k0, k1, k2, k3, k4⟩ := Draw.keepC5 K_t.out
          obtain ⟨j0, j1, j2, j3, j4⟩ := Draw.keepC5 (K_t.out.on hal)
          have E0 := Lib.hid (Sl.own_empty .u8 5 Wx)
          have HS := Lib.hid (((Row.kD_parts (x := (ra, rb, rc, rf, M)) H_t.out).2.1.on BA.out).on hal)
          have HAL := Lib.hid hal; clear hal
          go_wp2_with (at_builtin; refine Sl.wpList_app_nn (k := .u8) (B := Wx.heap.size) (l := []) (m := rb) rfl _ _ rfl Tryz.underlying22 Sl.elemBYTE rfl rfl rfl E0.out HS.out ?_ (by decide) ?_ ?_)
          · have h5 := b_t; first | omega | (simp; omega)
          intro v19 wa ho hg hnn
          clear k0 k1 k2 k3 k4 j0 j1 j2 j3 j4 HS
          obtain ⟨g, cap1, rfl, g1, g2, g3⟩ := Sl.Own.block ho hnn
          have ho2 : Sl.Own 5 .u8 Wx.heap.size wa (.slice (some ⟨g, 0, none⟩) n_tb cap1) rb := by rw [HNT.out]; exact ho
          have hln : rb.length = n_tb := HNT.out.symm
          rw [hln] at g3 ⊢
          have hba : Below Wx.heap.size Wx wa := HAL.out.grown hg (by simp) (fun g hh => by cases hh; exact Nat.le_refl _)
          replace X_u := Lib.hid (X_u.out.on hba)
          replace X_v := Lib.hid (X_v.out.on hba)
          replace X_x := Lib.hid (X_x.out.on hba)
          replace BA := Lib.hid (BA.out.trans (hba.mono BA.out.size))
          have GX := Lib.hid (show bx ≠ g by have := L_x.out; omega)
          have GW := Lib.hid (show w30.heap.size ≤ g by have h5 := L_x.out; have h6 := G_x.out; omega)
          have OC := Lib.hid ho2
          have GU := Lib.hid (show bu ≠ g ∧ bv ≠ g by have h5 := L_u.out; have h6 := L_v.out; omega)
          clear ho hg hnn ho2 hba hln E0 HAL K_t
          obtain ⟨f0, f1, f2, f3, f4⟩ := Draw.keepC5 X_x.out
          have fz := X_x.out.frozen 1
          go_upto_region 28 with fail
          clear f0 f1 f2 f3 f4 fz
          replace X_u := Lib.hid (X_u.out.other (a := ⟨bx, 1, none⟩) (fun e => D_ux.out e.symm) (.slice (some ⟨g, 0, none⟩) n_tb cap1))
          replace X_v := Lib.hid (X_v.out.other (a := ⟨bx, 1, none⟩) (fun e => D_vx.out e.symm) (.slice (some ⟨g, 0, none⟩) n_tb cap1))
          replace X_x := Lib.hid (X_x.out.set 1 (.slice (some ⟨g, 0, none⟩) n_tb cap1))
          replace BA := Lib.hid (BA.out.setCell (p := ⟨bx, 1, none⟩) G_x.out (.slice (some ⟨g, 0, none⟩) n_tb cap1))
          have hbg : ∀ q, (.slice (some ⟨g, 0, none⟩) n_tb cap1 : Value).ownBlock = some q → q ≠ bx := fun q e e2 => GX.out (by have h5 : q = g := (Option.some.inj e).symm; rw [← e2, h5])
          replace OC := Lib.hid (OC.out.grown (Ret.grownBy_set _ ⟨bx, 1, none⟩ (.slice (some ⟨g, 0, none⟩) n_tb cap1)) (Or.inr (fun e => GX.out (Option.some.inj e).symm)))
          generalize wa.setCell ⟨bx, 1, none⟩ (.slice (some ⟨g, 0, none⟩) n_tb cap1) = Wc at *
          have LX := Lib.hid (show Ret.Blk Wc bx #[.slice x_ta n_ta c_ta, .slice (some ⟨g, 0, none⟩) n_tb cap1, .slice x_tc n_tc c_tc, .int .i64 rf, .int .i64 M] 28 from X_x.out)
          have LU := Lib.hid (show Ret.Blk Wc bu #[.slice x_ta n_ta c_ta, .slice x_tb n_tb c_tb, .slice x_tc n_tc c_tc, .int .i64 fu, .int .i64 M] 28 from X_u.out)
          have LV := Lib.hid (show Ret.Blk Wc bv #[.slice x_ta n_ta c_ta, .slice x_tb n_tb c_tb, .slice x_tc n_tc c_tc, .int .i64 rf, .int .i64 sv] 28 from X_v.out)
          clear X_u X_v X_x hbg
          have z1 : Wc.cell? ⟨bx, 1, none⟩ = some (.slice (some ⟨g, 0, none⟩) n_tb cap1) := LX.out.cell 1
          by_cases hz : n_tb = 0
          · subst hz
            have hrb : rb = [] := List.eq_nil_of_length_eq_zero HNT.out.symm
            go_wp2_with fail
            clear z1
            have HXV := Lib.hid (show Row.verD tg (ra, rb, rc, rf, M) = true from HTV.out)
            have P_t := Lib.hid ((H_t.out).on BA.out)
            have PH := Lib.hid (Row.kD_parts (x := (ra, rb, rc, rf, M)) P_t.out)
            have P_u := Lib.hid (Row.kD_ints (x := (ra, rb, rc, rf, M)) P_t.out fu M)
            have P_v := Lib.hid (Row.kD_ints (x := (ra, rb, rc, rf, M)) P_t.out rf sv)
            have P_x := Lib.hid (Row.kD_of (x := (ra, rb, rc, rf, M)) ⟨PH.out.1, OC.out.holds, PH.out.2.2⟩)
            have LT := Lib.hid (X_t.out.on BA.out)
            have HBE := Lib.hid (BB.out.trans (BA.out.mono BB.out.size))
            refine Row.regT31 P_t P_u P_v P_x HTV HUV HVV HXV HYB HYB (Lib.hid (show ((((0 : Nat) : Int) == 0) = true) by decide)) b_t b_t (Lib.hid (LT.out.cell 0)) (Lib.hid (LT.out.cell 1)) (Lib.hid (LT.out.cell 2)) (Lib.hid (LT.out.cell 3)) (Lib.hid (LT.out.cell 4)) (Lib.hid (LU.out.cell 0)) (Lib.hid (LU.out.cell 1)) (Lib.hid (LU.out.cell 2)) (Lib.hid (LU.out.cell 3)) (Lib.hid (LU.out.cell 4)) (Lib.hid (LV.out.cell 0)) (Lib.hid (LV.out.cell 1)) (Lib.hid (LV.out.cell 2)) (Lib.hid (LV.out.cell 3)) (Lib.hid (LV.out.cell 4)) (Lib.hid (LX.out.cell 0)) (Lib.hid (LX.out.cell 1)) (Lib.hid (LX.out.cell 2)) (Lib.hid (LX.out.cell 3)) (Lib.hid (LX.out.cell 4)) ?_
            intro u214 u215 u216 u217 u218 u219 u220 u221 u222 u223 u224 u225 u226 u227 u228 u229 u230 u231 u232 u233 u234 u235 u236 u237 u238 wy hb
            have HBF := Lib.hid (HBE.out.trans (hb.mono HBE.out.size)); clear hb
            go_wp2_with fail
            go_ret
            exact ⟨rfl, HBF.out⟩
          · have hpos : 0 < n_tb := by omega
            have hpz : (0 : Int) < (n_tb : Int) := by omega
            clear hz
            go_wp2_with fail
            clear z1
            have HQ1 := Lib.hid ((Q0.out.on BB.out).on BA.out)
            refine Row.regT29 HQ1 HN0 hpos (Lib.hid (LX.out.cell 1)) ?_
            intro u193 u194 u195 u196 u197 u198 ii wd hii hb
            replace LX := Lib.hid (LX.out.on hb); replace LU := Lib.hid (LU.out.on hb); replace LV := Lib.hid (LV.out.on hb); replace OC := Lib.hid (OC.out.on hb); replace BA := Lib.hid (BA.out.trans (hb.mono BA.out.size)); replace HQ1 := Lib.hid (HQ1.out.on hb); clear hb
            have hii2 : (ii : Int) < (n_tb : Int) := by omega
            obtain ⟨hc2, hf2⟩ := Sl.own_cell OC.out HNT.out (j := ii) (by have h5 := HNT.out; omega)
            have HKC := Lib.hid hc2; have HKF := Lib.hid hf2; clear hc2 hf2
            have hyb := Sl.Byt.at HYB.out (j := ii) (by have := HNT.out; omega)
            go_wp2_with fail
            refine Row.regT30 HQ1 HN0 GX HKF hii hii2 hyb.1 hyb.2 HKC (Lib.hid (LX.out.cell 1)) ?_
            intro u199 u200 u201 u202 u203 u204 u205 u206 u207 u208 u209 u210 u211 u212 u213 y2 we hy2 hyn hb
            replace LX := Lib.hid (LX.out.on hb); replace LU := Lib.hid (LU.out.on hb); replace LV := Lib.hid (LV.out.on hb); replace OC := Lib.hid (OC.out.on hb); replace BA := Lib.hid (BA.out.trans (hb.mono BA.out.size)); clear hb
            have hst := Sl.own_store OC.out HNT.out ii y2
            replace LX := Lib.hid (LX.out.other (a := ⟨g, ii, none⟩) (fun e => GX.out e.symm) (.int .u8 y2)); replace LU := Lib.hid (LU.out.other (a := ⟨g, ii, none⟩) (fun e => GU.out.1 e.symm) (.int .u8 y2)); replace LV := Lib.hid (LV.out.other (a := ⟨g, ii, none⟩) (fun e => GU.out.2 e.symm) (.int .u8 y2))
            replace BA := Lib.hid (BA.out.setCell (p := ⟨g, ii, none⟩) GW.out (.int .u8 y2))
            replace OC := Lib.hid hst.1; clear hst
            generalize we.setCell ⟨g, ii, none⟩ (.int .u8 y2) = Wf at *
            have HXV := Lib.hid (show Row.verD tg (ra, rb.set ii y2, rc, rf, M) = false by rw [HM.out]; exact Row.verD_content tg (ra, rb, rc, rf, rs) (i := ii) (by show ii < rb.length; have := HNT.out; omega) y2 hy2 hyb hyn)
            have HY2 := Lib.hid (show Sl.Byt (rb.set ii y2) from fun z hz => by rcases List.mem_or_eq_of_mem_set hz with h5 | h5; exact HYB.out z h5; exact h5 ▸ hy2)
            have hl2 : Row.bulk ra + (rb.set ii y2).length + Row.bulk rc ≤ 3000 := by rw [List.length_set]; exact b_t
            have hzf : (((n_tb : Nat) : Int) == 0) = false := by simp; omega
            have HZF := Lib.hid hzf; clear hzf
            go_wp2_with fail
            have P_t := Lib.hid ((H_t.out).on BA.out)
            have PH := Lib.hid (Row.kD_parts (x := (ra, rb, rc, rf, M)) P_t.out)
            have P_u := Lib.hid (Row.kD_ints (x := (ra, rb, rc, rf, M)) P_t.out fu M)
            have P_v := Lib.hid (Row.kD_ints (x := (ra, rb, rc, rf, M)) P_t.out rf sv)
            have P_x := Lib.hid (Row.kD_of (x := (ra, rb.set ii y2, rc, rf, M)) ⟨PH.out.1, OC.out.holds, PH.out.2.2⟩)
            have LT := Lib.hid (X_t.out.on BA.out)
            have HBE := Lib.hid (BB.out.trans (BA.out.mono BB.out.size))
            refine Row.regT31 P_t P_u P_v P_x HTV HUV HVV HXV HYB HY2 HZF b_t hl2 (Lib.hid (LT.out.cell 0)) (Lib.hid (LT.out.cell 1)) (Lib.hid (LT.out.cell 2)) (Lib.hid (LT.out.cell 3)) (Lib.hid (LT.out.cell 4)) (Lib.hid (LU.out.cell 0)) (Lib.hid (LU.out.cell 1)) (Lib.hid (LU.out.cell 2)) (Lib.hid (LU.out.cell 3)) (Lib.hid (LU.out.cell 4)) (Lib.hid (LV.out.cell 0)) (Lib.hid (LV.out.cell 1)) (Lib.hid (LV.out.cell 2)) (Lib.hid (LV.out.cell 3)) (Lib.hid (LV.out.cell 4)) (Lib.hid (LX.out.cell 0)) (Lib.hid (LX.out.cell 1)) (Lib.hid (LX.out.cell 2)) (Lib.hid (LX.out.cell 3)) (Lib.hid (LX.out.cell 4)) ?_
            intro u214 u215 u216 u217 u218 u219 u220 u221 u222 u223 u224 u225 u226 u227 u228 u229 u230 u231 u232 u233 u234 u235 u236 u237 u238 wy hb
            have HBF := Lib.hid (HBE.out.trans (hb.mono HBE.out.size)); clear hb
            go_wp2_with fail
            go_ret
            exact ⟨rfl, HBF.out⟩
      | true =>
        have hen := HEN.out
        rw [if_pos HQ4.out] at hen
        obtain rfl : back = true := by rw [HBK.out, hen]
        have hxz : xz = xw := by rw [HXZ.out, hen]
        have HXW := Lib.hid (show Row.eqD xz xw = true by rw [hxz]; exact Row.eqD_self xw); clear hxz
        clear hen
        refine (Row.iValV true HQ4.out H_w.out (by omega)).mono ?_
        rintro e w31 ⟨rfl, hb⟩
        replace C_w := Lib.hid (C_w.out.on hb)
        replace C_r := Lib.hid (C_r.out.on hb)
        replace C_z := Lib.hid (C_z.out.on hb)
        replace H_w := Lib.hid (H_w.out.on hb)
        replace H_r := Lib.hid (H_r.out.on hb)
        replace H_z := Lib.hid (H_z.out.on hb)
        replace BB := Lib.hid (BB.out.trans (hb.mono BB.out.size))
        clear hb
        have c0_w : w31.cell? ⟨w1.heap.size, 0, none⟩ = some (.slice x_wa n_wa c_wa) := C_w.out.cell 0
        have c1_w : w31.cell? ⟨w1.heap.size, 1, none⟩ = some (.slice x_wb n_wb c_wb) := C_w.out.cell 1
        have c2_w : w31.cell? ⟨w1.heap.size, 2, none⟩ = some (.slice x_wc n_wc c_wc) := C_w.out.cell 2
        have c3_w : w31.cell? ⟨w1.heap.size, 3, none⟩ = some (.int .i64 xw.2.2.2.1) := C_w.out.cell 3
        have c4_w : w31.cell? ⟨w1.heap.size, 4, none⟩ = some (.int .i64 xw.2.2.2.2) := C_w.out.cell 4
        have c0_z : w31.cell? ⟨w25.heap.size, 0, none⟩ = some (.slice x_za n_za c_za) := C_z.out.cell 0
        have c1_z : w31.cell? ⟨w25.heap.size, 1, none⟩ = some (.slice x_zb n_zb c_zb) := C_z.out.cell 1
        have c2_z : w31.cell? ⟨w25.heap.size, 2, none⟩ = some (.slice x_zc n_zc c_zc) := C_z.out.cell 2
        have c3_z : w31.cell? ⟨w25.heap.size, 3, none⟩ = some (.int .i64 xz.2.2.2.1) := C_z.out.cell 3
        have c4_z : w31.cell? ⟨w25.heap.size, 4, none⟩ = some (.int .i64 xz.2.2.2.2) := C_z.out.cell 4
        go_wp2_with fail
        clear c0_w c1_w c2_w c3_w c4_w c0_z c1_z c2_z c3_z c4_z
        refine (Row.sameDV true HXW.out H_z.out H_w.out HYZ.out HWw.out.byt (by omega) (by omega)).mono ?_
        rintro e w32 ⟨rfl, hb⟩
        replace C_w := Lib.hid (C_w.out.on hb)
        replace C_r := Lib.hid (C_r.out.on hb)
        replace C_z := Lib.hid (C_z.out.on hb)
        replace H_w := Lib.hid (H_w.out.on hb)
        replace H_r := Lib.hid (H_r.out.on hb)
        replace H_z := Lib.hid (H_z.out.on hb)
        replace BB := Lib.hid (BB.out.trans (hb.mono BB.out.size))
        clear hb
        clear H_w
        clear C_w
        clear H_z
        clear C_z
        have c0_r : w32.cell? ⟨w7.heap.size, 0, none⟩ = some (.slice x_ra n_ra c_ra) := C_r.out.cell 0
        have c1_r : w32.cell? ⟨w7.heap.size, 1, none⟩ = some (.slice x_rb n_rb c_rb) := C_r.out.cell 1
        have c2_r : w32.cell? ⟨w7.heap.size, 2, none⟩ = some (.slice x_rc n_rc c_rc) := C_r.out.cell 2
        have c3_r : w32.cell? ⟨w7.heap.size, 3, none⟩ = some (.int .i64 xr.2.2.2.1) := C_r.out.cell 3
        have c4_r : w32.cell? ⟨w7.heap.size, 4, none⟩ = some (.int .i64 xr.2.2.2.2) := C_r.out.cell 4
        go_wp2_with fail
        clear c0_r c1_r c2_r c3_r c4_r
        obtain ⟨ra, rb, rc, rf, rs⟩ := xr
        obtain ⟨M, hM⟩ : ∃ M, M = Seal.mac tg (Row.portD (ra, rb, rc, rf, rs)) := ⟨_, rfl⟩
        have HM := Lib.hid hM
        have hM2 := Seal.mac_in tg (Row.portD (ra, rb, rc, rf, rs))
        rw [← hM] at hM2
        obtain ⟨hM0, hM1⟩ := hM2
        clear hM
        refine (Row.implSignDataK _ tg (ra, rb, rc, rf, rs) _ H_r.out HWr.out (by omega)).mono ?_
        rintro e w33 ⟨U_t, rfl, ho_t, hb⟩
        replace ho_t := ho_t.at
        have ho_t : Row.kD.At w33 U_t (ra, rb, rc, rf, M) := by rw [HM.out]; exact ho_t
        obtain ⟨x_ta, n_ta, c_ta, x_tb, n_tb, c_tb, x_tc, n_tc, c_tc, rfl, ho_t⟩ := Row.kD_shapeA ho_t
        dsimp only at ho_t ⊢
        replace C_r := Lib.hid (C_r.out.on hb)
        replace H_r := Lib.hid (H_r.out.on hb)
        replace BB := Lib.hid (BB.out.trans (hb.mono BB.out.size))
        clear hb
        have H_t := Lib.hid ho_t; clear ho_t
        clear H_r
        clear C_r
        have hal := (Below.refl w33.heap.size w33).alloc (Nat.le_refl _) (.cells #[.slice x_ta n_ta c_ta, .slice x_tb n_tb c_tb, .slice x_tc n_tc c_tc, .int .i64 rf, .int .i64 M] 28)
        replace H_t := Lib.hid (H_t.out.on hal)
        replace BB := Lib.hid (BB.out.trans (hal.mono BB.out.size))
        have X_t := Lib.hid (Ret.Blk.new w33 #[.slice x_ta n_ta c_ta, .slice x_tb n_tb c_tb, .slice x_tc n_tc c_tc, .int .i64 rf, .int .i64 M] 28)
        clear hal
        go_upto_region 20 with fail
        generalize w33.alloc (.cells #[.slice x_ta n_ta c_ta, .slice x_tb n_tb c_tb, .slice x_tc n_tc c_tc, .int .i64 rf, .int .i64 M] 28) = Wt at *
        generalize w33.heap.size = bt at *
        have HWT := Lib.hid (show (Lit.int .i64 rf).wf = true from HWr.out.2.2.2.1)
        have HYB := Lib.hid (show Sl.Byt rb from HWr.out.byt)
        have b_t : Row.bulk ra + rb.length + Row.bulk rc ≤ 3000 := b_r
        have HTV := Lib.hid (show Row.verD tg (ra, rb, rc, rf, M) = Num.inB tg 1 2147483646 by rw [HM.out]; exact Row.verD_sg tg (ra, rb, rc, rf, rs))
        obtain ⟨fu, hfu⟩ : ∃ z, z = IntKind.i64.wrap (rf + 1) := ⟨_, rfl⟩
        obtain ⟨sv, hsv⟩ : ∃ z, z = (M + 1) % 2147483647 := ⟨_, rfl⟩
        have HFU := Lib.hid hfu; have HSV := Lib.hid hsv; clear hfu hsv
        have HUV := Lib.hid (show Row.verD tg (ra, rb, rc, fu, M) = false by rw [HFU.out, HM.out]; exact Row.verD_until tg (ra, rb, rc, rf, rs) HWT.out)
        have HVV := Lib.hid (show Row.verD tg (ra, rb, rc, rf, sv) = false by rw [HSV.out, HM.out]; exact Row.verD_sig tg (ra, rb, rc, rf, rs))
        cases hs : Num.inB tg 1 2147483646 with
        | false =>
          rw [hs] at HTV
          have HSB := Lib.hid hs; clear hs
          go_wp2_with fail
          refine (Row.iSecV false HSB.out).mono ?_
          rintro e w34 ⟨rfl, hb⟩
          replace X_t := Lib.hid (X_t.out.on hb)
          replace H_t := Lib.hid (H_t.out.on hb)
          replace BB := Lib.hid (BB.out.trans (hb.mono BB.out.size))
          clear hb
          obtain ⟨k0, k1, k2, k3, k4⟩ := Draw.keepC5 X_t.out
          go_wp2_with fail
          clear k0 k1 k2 k3 k4
          refine (Row.iVerV false HTV.out H_t.out HYB.out (show Row.bulk ra + rb.length + Row.bulk rc ≤ 1200000 by omega)).mono ?_
          rintro e w35 ⟨rfl, hb⟩
          replace H_t := Lib.hid (H_t.out.on hb)
          replace BB := Lib.hid (BB.out.trans (hb.mono BB.out.size))
          clear hb
          go_wp2_with fail
          go_ret
          exact ⟨rfl, BB.out⟩
        | true =>
          rw [hs] at HTV
          have HSB := Lib.hid hs; clear hs
          go_wp2_with fail
          refine (Row.iSecV true HSB.out).mono ?_
          rintro e w36 ⟨rfl, hb⟩
          replace X_t := Lib.hid (X_t.out.on hb)
          replace H_t := Lib.hid (H_t.out.on hb)
          replace BB := Lib.hid (BB.out.trans (hb.mono BB.out.size))
          clear hb
          obtain ⟨k0, k1, k2, k3, k4⟩ := Draw.keepC5 X_t.out
          clear k0 k1 k2 k3 k4
          have HNT := Lib.hid (show n_tb = rb.length from (Row.kD_parts (x := (ra, rb, rc, rf, M)) H_t.out).2.1.lenEq)
          have BA := Lib.hid (Below.refl w36.heap.size w36)
          have K_t := Lib.hid X_t.out
          have hal := (Below.refl w36.heap.size w36).alloc (Nat.le_refl _) (.cells #[.slice x_ta n_ta c_ta, .slice x_tb n_tb c_tb, .slice x_tc n_tc c_tc, .int .i64 rf, .int .i64 M] 28)
          have G_u := Lib.hid (show w36.heap.size ≤ w36.heap.size from BA.out.size)
          replace BA := Lib.hid (BA.out.trans (hal.mono BA.out.size))
          have X_u := Lib.hid (Ret.Blk.new w36 #[.slice x_ta n_ta c_ta, .slice x_tb n_tb c_tb, .slice x_tc n_tc c_tc, .int .i64 rf, .int .i64 M] 28); clear hal
          obtain ⟨k0, k1, k2, k3, k4⟩ := Draw.keepC5 K_t.out
          go_upto_region 23 with fail
          clear k0 k1 k2 k3 k4 K_t
          generalize w36.alloc (.cells #[.slice x_ta n_ta c_ta, .slice x_tb n_tb c_tb, .slice x_tc n_tc c_tc, .int .i64 rf, .int .i64 M] 28) = Wu at *
          obtain ⟨bu, hbu⟩ : ∃ z, z = w36.heap.size := ⟨_, rfl⟩
          rw [← hbu] at X_u ⊢
          replace G_u := Lib.hid (show w36.heap.size ≤ bu by rw [hbu]; exact Nat.le_refl _); clear hbu
          have K_t := Lib.hid (X_t.out.on BA.out)
          have L_u := Lib.hid X_u.out.lt
          have hw1 : wrap64 (rf + 1) = fu := (Go.IntWalk.i64_left (rf + 1)).symm.trans HFU.out.symm
          have hw2 : IntKind.i64.wrap (rf + 1) = fu := HFU.out.symm
          obtain ⟨k0, k1, k2, k3, k4⟩ := Draw.keepC5 K_t.out
          obtain ⟨f0, f1, f2, f3, f4⟩ := Draw.keepC5 X_u.out
          have fz := X_u.out.frozen 3
          go_upto_region 24 with fail
          clear k0 k1 k2 k3 k4 f0 f1 f2 f3 f4 fz K_t
          replace X_u := Lib.hid (X_u.out.set 3 (.int .i64 fu))
          replace BA := Lib.hid (BA.out.setCell (p := ⟨bu, 3, none⟩) G_u.out (.int .i64 fu))
          generalize Wu.setCell ⟨bu, 3, none⟩ (.int .i64 fu) = Wus at *
          have K_t := Lib.hid (X_t.out.on BA.out)
          replace L_u := Lib.hid X_u.out.lt
          clear hw1 hw2
          have hal := (Below.refl Wus.heap.size Wus).alloc (Nat.le_refl _) (.cells #[.slice x_ta n_ta c_ta, .slice x_tb n_tb c_tb, .slice x_tc n_tc c_tc, .int .i64 rf, .int .i64 M] 28)
          replace X_u := Lib.hid (X_u.out.on hal)
          have G_v := Lib.hid (show w36.heap.size ≤ Wus.heap.size from BA.out.size)
          have D_uv := Lib.hid (show bu ≠ Wus.heap.size from Nat.ne_of_lt L_u.out)
          replace BA := Lib.hid (BA.out.trans (hal.mono BA.out.size))
          have X_v := Lib.hid (Ret.Blk.new Wus #[.slice x_ta n_ta c_ta, .slice x_tb n_tb c_tb, .slice x_tc n_tc c_tc, .int .i64 rf, .int .i64 M] 28); clear hal
          obtain ⟨k0, k1, k2, k3, k4⟩ := Draw.keepC5 K_t.out
          go_upto_region 25 with fail
          clear k0 k1 k2 k3 k4 K_t
          generalize Wus.alloc (.cells #[.slice x_ta n_ta c_ta, .slice x_tb n_tb c_tb, .slice x_tc n_tc c_tc, .int .i64 rf, .int .i64 M] 28) = Wv at *
          generalize Wus.heap.size = bv at *
          have K_t := Lib.hid (X_t.out.on BA.out)
          replace L_u := Lib.hid X_u.out.lt
          have L_v := Lib.hid X_v.out.lt
          have hw1 : (M + 1) % 2147483647 = sv := HSV.out.symm
          have hw2 : (M + 1).tmod 2147483647 = sv := by rw [Int.tmod_eq_emod_of_nonneg (by omega)]; exact HSV.out.symm
          obtain ⟨k0, k1, k2, k3, k4⟩ := Draw.keepC5 K_t.out
          obtain ⟨f0, f1, f2, f3, f4⟩ := Draw.keepC5 X_v.out
          have fz := X_v.out.frozen 4
          go_upto_region 26 with fail
          clear k0 k1 k2 k3 k4 f0 f1 f2 f3 f4 fz K_t
          replace X_u := Lib.hid (X_u.out.other (a := ⟨bv, 4, none⟩) (fun e => D_uv.out e.symm) (.int .i64 sv))
          replace X_v := Lib.hid (X_v.out.set 4 (.int .i64 sv))
          replace BA := Lib.hid (BA.out.setCell (p := ⟨bv, 4, none⟩) G_v.out (.int .i64 sv))
          generalize Wv.setCell ⟨bv, 4, none⟩ (.int .i64 sv) = Wvs at *
          have K_t := Lib.hid (X_t.out.on BA.out)
          replace L_u := Lib.hid X_u.out.lt
          replace L_v := Lib.hid X_v.out.lt
          clear hw1 hw2
          have hal := (Below.refl Wvs.heap.size Wvs).alloc (Nat.le_refl _) (.cells #[.slice x_ta n_ta c_ta, .slice x_tb n_tb c_tb, .slice x_tc n_tc c_tc, .int .i64 rf, .int .i64 M] 28)
          replace X_u := Lib.hid (X_u.out.on hal)
          replace X_v := Lib.hid (X_v.out.on hal)
          have G_x := Lib.hid (show w36.heap.size ≤ Wvs.heap.size from BA.out.size)
          have D_ux := Lib.hid (show bu ≠ Wvs.heap.size from Nat.ne_of_lt L_u.out)
          have D_vx := Lib.hid (show bv ≠ Wvs.heap.size from Nat.ne_of_lt L_v.out)
          replace BA := Lib.hid (BA.out.trans (hal.mono BA.out.size))
          have X_x := Lib.hid (Ret.Blk.new Wvs #[.slice x_ta n_ta c_ta, .slice x_tb n_tb c_tb, .slice x_tc n_tc c_tc, .int .i64 rf, .int .i64 M] 28); clear hal
          obtain ⟨k0, k1, k2, k3, k4⟩ := Draw.keepC5 K_t.out
          go_upto_region 27 with fail
          clear k0 k1 k2 k3 k4 K_t
          generalize Wvs.alloc (.cells #[.slice x_ta n_ta c_ta, .slice x_tb n_tb c_tb, .slice x_tc n_tc c_tc, .int .i64 rf, .int .i64 M] 28) = Wx at *
          generalize Wvs.heap.size = bx at *
          have K_t := Lib.hid (X_t.out.on BA.out)
          replace L_u := Lib.hid X_u.out.lt
          replace L_v := Lib.hid X_v.out.lt
          have L_x := Lib.hid X_x.out.lt
          have hal : Below Wx.heap.size Wx (Wx.alloc (.cells #[] 5)) := (Below.refl _ _).alloc (Nat.le_refl _) _
          obtain ⟨k0, k1, k2, k3, k4⟩ := Draw.keepC5 K_t.out
          obtain ⟨j0, j1, j2, j3, j4⟩ := Draw.keepC5 (K_t.out.on hal)
          have E0 := Lib.hid (Sl.own_empty .u8 5 Wx)
          have HS := Lib.hid (((Row.kD_parts (x := (ra, rb, rc, rf, M)) H_t.out).2.1.on BA.out).on hal)
          have HAL := Lib.hid hal; clear hal
          go_wp2_with (at_builtin; refine Sl.wpList_app_nn (k := .u8) (B := Wx.heap.size) (l := []) (m := rb) rfl _ _ rfl Tryz.underlying22 Sl.elemBYTE rfl rfl rfl E0.out HS.out ?_ (by decide) ?_ ?_)
          · have h5 := b_t; first | omega | (simp; omega)
          intro v19 wa ho hg hnn
          clear k0 k1 k2 k3 k4 j0 j1 j2 j3 j4 HS
          obtain ⟨g, cap1, rfl, g1, g2, g3⟩ := Sl.Own.block ho hnn
          have ho2 : Sl.Own 5 .u8 Wx.heap.size wa (.slice (some ⟨g, 0, none⟩) n_tb cap1) rb := by rw [HNT.out]; exact ho
          have hln : rb.length = n_tb := HNT.out.symm
          rw [hln] at g3 ⊢
          have hba : Below Wx.heap.size Wx wa := HAL.out.grown hg (by simp) (fun g hh => by cases hh; exact Nat.le_refl _)
          replace X_u := Lib.hid (X_u.out.on hba)
          replace X_v := Lib.hid (X_v.out.on hba)
          replace X_x := Lib.hid (X_x.out.on hba)
          replace BA := Lib.hid (BA.out.trans (hba.mono BA.out.size))
          have GX := Lib.hid (show bx ≠ g by have := L_x.out; omega)
          have GW := Lib.hid (show w36.heap.size ≤ g by have h5 := L_x.out; have h6 := G_x.out; omega)
          have OC := Lib.hid ho2
          have GU := Lib.hid (show bu ≠ g ∧ bv ≠ g by have h5 := L_u.out; have h6 := L_v.out; omega)
          clear ho hg hnn ho2 hba hln E0 HAL K_t
          obtain ⟨f0, f1, f2, f3, f4⟩ := Draw.keepC5 X_x.out
          have fz := X_x.out.frozen 1
          go_upto_region 28 with fail
          clear f0 f1 f2 f3 f4 fz
          replace X_u := Lib.hid (X_u.out.other (a := ⟨bx, 1, none⟩) (fun e => D_ux.out e.symm) (.slice (some ⟨g, 0, none⟩) n_tb cap1))
          replace X_v := Lib.hid (X_v.out.other (a := ⟨bx, 1, none⟩) (fun e => D_vx.out e.symm) (.slice (some ⟨g, 0, none⟩) n_tb cap1))
          replace X_x := Lib.hid (X_x.out.set 1 (.slice (some ⟨g, 0, none⟩) n_tb cap1))
          replace BA := Lib.hid (BA.out.setCell (p := ⟨bx, 1, none⟩) G_x.out (.slice (some ⟨g, 0, none⟩) n_tb cap1))
          have hbg : ∀ q, (.slice (some ⟨g, 0, none⟩) n_tb cap1 : Value).ownBlock = some q → q ≠ bx := fun q e e2 => GX.out (by have h5 : q = g := (Option.some.inj e).symm; rw [← e2, h5])
          replace OC := Lib.hid (OC.out.grown (Ret.grownBy_set _ ⟨bx, 1, none⟩ (.slice (some ⟨g, 0, none⟩) n_tb cap1)) (Or.inr (fun e => GX.out (Option.some.inj e).symm)))
          generalize wa.setCell ⟨bx, 1, none⟩ (.slice (some ⟨g, 0, none⟩) n_tb cap1) = Wc at *
          have LX := Lib.hid (show Ret.Blk Wc bx #[.slice x_ta n_ta c_ta, .slice (some ⟨g, 0, none⟩) n_tb cap1, .slice x_tc n_tc c_tc, .int .i64 rf, .int .i64 M] 28 from X_x.out)
          have LU := Lib.hid (show Ret.Blk Wc bu #[.slice x_ta n_ta c_ta, .slice x_tb n_tb c_tb, .slice x_tc n_tc c_tc, .int .i64 fu, .int .i64 M] 28 from X_u.out)
          have LV := Lib.hid (show Ret.Blk Wc bv #[.slice x_ta n_ta c_ta, .slice x_tb n_tb c_tb, .slice x_tc n_tc c_tc, .int .i64 rf, .int .i64 sv] 28 from X_v.out)
          clear X_u X_v X_x hbg
          have z1 : Wc.cell? ⟨bx, 1, none⟩ = some (.slice (some ⟨g, 0, none⟩) n_tb cap1) := LX.out.cell 1
          by_cases hz : n_tb = 0
          · subst hz
            have hrb : rb = [] := List.eq_nil_of_length_eq_zero HNT.out.symm
            go_wp2_with fail
            clear z1
            have HXV := Lib.hid (show Row.verD tg (ra, rb, rc, rf, M) = true from HTV.out)
            have P_t := Lib.hid ((H_t.out).on BA.out)
            have PH := Lib.hid (Row.kD_parts (x := (ra, rb, rc, rf, M)) P_t.out)
            have P_u := Lib.hid (Row.kD_ints (x := (ra, rb, rc, rf, M)) P_t.out fu M)
            have P_v := Lib.hid (Row.kD_ints (x := (ra, rb, rc, rf, M)) P_t.out rf sv)
            have P_x := Lib.hid (Row.kD_of (x := (ra, rb, rc, rf, M)) ⟨PH.out.1, OC.out.holds, PH.out.2.2⟩)
            have LT := Lib.hid (X_t.out.on BA.out)
            have HBE := Lib.hid (BB.out.trans (BA.out.mono BB.out.size))
            refine Row.regT31 P_t P_u P_v P_x HTV HUV HVV HXV HYB HYB (Lib.hid (show ((((0 : Nat) : Int) == 0) = true) by decide)) b_t b_t (Lib.hid (LT.out.cell 0)) (Lib.hid (LT.out.cell 1)) (Lib.hid (LT.out.cell 2)) (Lib.hid (LT.out.cell 3)) (Lib.hid (LT.out.cell 4)) (Lib.hid (LU.out.cell 0)) (Lib.hid (LU.out.cell 1)) (Lib.hid (LU.out.cell 2)) (Lib.hid (LU.out.cell 3)) (Lib.hid (LU.out.cell 4)) (Lib.hid (LV.out.cell 0)) (Lib.hid (LV.out.cell 1)) (Lib.hid (LV.out.cell 2)) (Lib.hid (LV.out.cell 3)) (Lib.hid (LV.out.cell 4)) (Lib.hid (LX.out.cell 0)) (Lib.hid (LX.out.cell 1)) (Lib.hid (LX.out.cell 2)) (Lib.hid (LX.out.cell 3)) (Lib.hid (LX.out.cell 4)) ?_
            intro u214 u215 u216 u217 u218 u219 u220 u221 u222 u223 u224 u225 u226 u227 u228 u229 u230 u231 u232 u233 u234 u235 u236 u237 u238 wy hb
            have HBF := Lib.hid (HBE.out.trans (hb.mono HBE.out.size)); clear hb
            go_wp2_with fail
            go_ret
            exact ⟨rfl, HBF.out⟩
          · have hpos : 0 < n_tb := by omega
            have hpz : (0 : Int) < (n_tb : Int) := by omega
            clear hz
            go_wp2_with fail
            clear z1
            have HQ1 := Lib.hid ((Q0.out.on BB.out).on BA.out)
            refine Row.regT29 HQ1 HN0 hpos (Lib.hid (LX.out.cell 1)) ?_
            intro u193 u194 u195 u196 u197 u198 ii wd hii hb
            replace LX := Lib.hid (LX.out.on hb); replace LU := Lib.hid (LU.out.on hb); replace LV := Lib.hid (LV.out.on hb); replace OC := Lib.hid (OC.out.on hb); replace BA := Lib.hid (BA.out.trans (hb.mono BA.out.size)); replace HQ1 := Lib.hid (HQ1.out.on hb); clear hb
            have hii2 : (ii : Int) < (n_tb : Int) := by omega
            obtain ⟨hc2, hf2⟩ := Sl.own_cell OC.out HNT.out (j := ii) (by have h5 := HNT.out; omega)
            have HKC := Lib.hid hc2; have HKF := Lib.hid hf2; clear hc2 hf2
            have hyb := Sl.Byt.at HYB.out (j := ii) (by have := HNT.out; omega)
            go_wp2_with fail
            refine Row.regT30 HQ1 HN0 GX HKF hii hii2 hyb.1 hyb.2 HKC (Lib.hid (LX.out.cell 1)) ?_
            intro u199 u200 u201 u202 u203 u204 u205 u206 u207 u208 u209 u210 u211 u212 u213 y2 we hy2 hyn hb
            replace LX := Lib.hid (LX.out.on hb); replace LU := Lib.hid (LU.out.on hb); replace LV := Lib.hid (LV.out.on hb); replace OC := Lib.hid (OC.out.on hb); replace BA := Lib.hid (BA.out.trans (hb.mono BA.out.size)); clear hb
            have hst := Sl.own_store OC.out HNT.out ii y2
            replace LX := Lib.hid (LX.out.other (a := ⟨g, ii, none⟩) (fun e => GX.out e.symm) (.int .u8 y2)); replace LU := Lib.hid (LU.out.other (a := ⟨g, ii, none⟩) (fun e => GU.out.1 e.symm) (.int .u8 y2)); replace LV := Lib.hid (LV.out.other (a := ⟨g, ii, none⟩) (fun e => GU.out.2 e.symm) (.int .u8 y2))
            replace BA := Lib.hid (BA.out.setCell (p := ⟨g, ii, none⟩) GW.out (.int .u8 y2))
            replace OC := Lib.hid hst.1; clear hst
            generalize we.setCell ⟨g, ii, none⟩ (.int .u8 y2) = Wf at *
            have HXV := Lib.hid (show Row.verD tg (ra, rb.set ii y2, rc, rf, M) = false by rw [HM.out]; exact Row.verD_content tg (ra, rb, rc, rf, rs) (i := ii) (by show ii < rb.length; have := HNT.out; omega) y2 hy2 hyb hyn)
            have HY2 := Lib.hid (show Sl.Byt (rb.set ii y2) from fun z hz => by rcases List.mem_or_eq_of_mem_set hz with h5 | h5; exact HYB.out z h5; exact h5 ▸ hy2)
            have hl2 : Row.bulk ra + (rb.set ii y2).length + Row.bulk rc ≤ 3000 := by rw [List.length_set]; exact b_t
            have hzf : (((n_tb : Nat) : Int) == 0) = false := by simp; omega
            have HZF := Lib.hid hzf; clear hzf
            go_wp2_with fail
            have P_t := Lib.hid ((H_t.out).on BA.out)
            have PH := Lib.hid (Row.kD_parts (x := (ra, rb, rc, rf, M)) P_t.out)
            have P_u := Lib.hid (Row.kD_ints (x := (ra, rb, rc, rf, M)) P_t.out fu M)
            have P_v := Lib.hid (Row.kD_ints (x := (ra, rb, rc, rf, M)) P_t.out rf sv)
            have P_x := Lib.hid (Row.kD_of (x := (ra, rb.set ii y2, rc, rf, M)) ⟨PH.out.1, OC.out.holds, PH.out.2.2⟩)
            have LT := Lib.hid (X_t.out.on BA.out)
            have HBE := Lib.hid (BB.out.trans (BA.out.mono BB.out.size))
            refine Row.regT31 P_t P_u P_v P_x HTV HUV HVV HXV HYB HY2 HZF b_t hl2 (Lib.hid (LT.out.cell 0)) (Lib.hid (LT.out.cell 1)) (Lib.hid (LT.out.cell 2)) (Lib.hid (LT.out.cell 3)) (Lib.hid (LT.out.cell 4)) (Lib.hid (LU.out.cell 0)) (Lib.hid (LU.out.cell 1)) (Lib.hid (LU.out.cell 2)) (Lib.hid (LU.out.cell 3)) (Lib.hid (LU.out.cell 4)) (Lib.hid (LV.out.cell 0)) (Lib.hid (LV.out.cell 1)) (Lib.hid (LV.out.cell 2)) (Lib.hid (LV.out.cell 3)) (Lib.hid (LV.out.cell 4)) (Lib.hid (LX.out.cell 0)) (Lib.hid (LX.out.cell 1)) (Lib.hid (LX.out.cell 2)) (Lib.hid (LX.out.cell 3)) (Lib.hid (LX.out.cell 4)) ?_
            intro u214 u215 u216 u217 u218 u219 u220 u221 u222 u223 u224 u225 u226 u227 u228 u229 u230 u231 u232 u233 u234 u235 u236 u237 u238 wy hb
            have HBF := Lib.hid (HBE.out.trans (hb.mono HBE.out.size)); clear hb
            go_wp2_with fail
            go_ret
            exact ⟨rfl, HBF.out⟩
  · obtain ⟨x, cap, rfl, -⟩ := Draw.bytes_at q0
    have hl : decide ((1048576 : Int) < (l0.length : Int)) = true := by simpa using hlen
    clear hlen q0
    obtain ⟨n0, hn0⟩ : ∃ n0, n0 = l0.length := ⟨_, rfl⟩
    rw [← hn0] at hl ⊢
    clear hn0
    go_enter Tryz.func3, Tryz.ntmps3
    go_wp2_with fail
    refine (Draw.big_yes x n0 cap w hl).mono ?_
    rintro e w' ⟨rfl, rfl⟩
    go_wp2_with fail
    go_ret
    exact ⟨rfl, Below.refl _ _⟩

set_option maxRecDepth 100000 in
theorem lifted (os : Os) (started : os.Started) (H : Type) (enc : TypeId × Value → H) :
    ReturnsInHanded {} Tryz.checked os 3 .any (Rows.fnThingsSpec.pre6 enc Tryz.prog Tryz.f3 Rows.fnThingsRow.domain false) (Rows.fnThingsSpec.post enc Tryz.prog Tryz.f3 false true false false) := by
  refine returnsInHanded_of_change_sized (C := Tryz.checked) own started (by kernel_rfl) Tryz.func3
    (ChangeSpec.witness6 (enc := enc) (C := Tryz.checked) false ⟨#[], #[.slice none 0 0], []⟩ 8 (by kernel_rfl) (by kernel_rfl) (by kernel_rfl) (by kernel_rfl)) ?_
  intro W base args ds gs before hval0 hW _ hsz0 _
  have hval : ∀ (j : Nat) t v, Tryz.f3.params[j]? = some t → args[j]? = some v → Value.okWide Tryz.prog W .any base t v := hval0
  have hsz : (DataW.weightsEach Tryz.prog (Tryz.f3.params.toList ++ Rows.fnThingsSpec.plain.varTypes Tryz.prog) (ds ++ gs)).all (· ≤ reachBytes) = true := hsz0
  clear hsz0
  have hW' := hW
  obtain ⟨p, q, hA0, hV, rfl, hfz, hnd⟩ := hW
  have hA : DataW.TrodAll enc Tryz.prog W 0 (fun _ => true) true Tryz.f3.params.toList args.toList ds p := hA0
  rw [Tryz.params3] at hA hval hsz
  obtain ⟨v0, vs0, d0, ds0, p0, q0, hargs, rfl, rfl, h0, r0⟩ := trodAll_cons hA
  obtain ⟨rfl, rfl, rfl⟩ := trodAll_nil r0
  obtain rfl : args = #[v0] := by cases args; simp_all
  obtain ⟨rfl, rfl⟩ := trodVars_none hV
  obtain ⟨l0, q0⟩ := Frame.open_bytes (j := 0) Tryz.underlying22 Tryz.underlying5 (by kernel_rfl) (by kernel_rfl) (hval 0 22 v0 rfl rfl) h0 hsz rfl rfl
  clear hA0 hval0
  refine (walk W _ _ q0).mono fun e W' ⟨he, hb⟩ => ?_
  subst he
  exact ⟨_, rfl, Frame.law_post laidOut (by kernel_rfl) rfl Tryz.underlying4 rfl rfl hW' hb⟩

theorem said : Rows.FnThingsSaid :=
  OpenClaim.holds_of_wide 3 Tryz.f3 rfl rfl rfl rfl rfl rfl rfl ⟨rfl, rfl, rfl, rfl, rfl⟩ rfl rfl rfl rfl rfl (by kernel_rfl) Tryz.func3 (by kernel_rfl)
    (of_decide_eq_true (by kernel_rfl)) (by unfold Func.isWrapper; first | (rw [if_pos (by decide +kernel)]; kernel_rfl) | (rw [if_neg (by decide +kernel)]; exact ⟨rfl, rfl⟩))
    (fun os started H enc _ => lifted os started H enc)

#print axioms said
end Go.Proofs.YtbooamnlocobfaaGreat.fnThings
