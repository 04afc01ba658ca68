/- FnWants: interests are decoded from their encodings and from no other bytes, names likewise; the hop limit is lowered by one; and chapter 7's functions answer as their models, for every drawn input. No conditions. -/
import Derived.Test.YtnnhgcfelkcpfaaDoorCards
import Derived.Test.YtnnhgcfelkcpfaaDoorTie
import Derived.WalkKit
import Derived.ProofKit
import Derived.OpenShut
import Derived.SizedLaws
import Derived.LaidMore
import Derived.Stop.Joined
import Derived.Stop.LaidErr
import Derived.Lib.LaidTab
import Derived.SevenTiedAt
import Derived.Test.YtnnhgcfelkcpfaaDoorFrame
import Derived.Test.YtnnhgcfelkcpfaaDoorGR
import Derived.Test.YtnnhgcfelkcpfaaDoorGD
import Derived.Test.YtnnhgcfelkcpfaaDoorText
namespace Go.Proofs.YtnnhgcfelkcpfaaDoor.fnWants
open Go.ChangeShapes Go.WideShapes Go.ChangeAt Go.RowKit
open Go.ChangeMaps (open_string shut_string)
set_option linter.unusedVariables false

theorem own : ownKnob Tryd.prog.godebug = none := by kernel_rfl
theorem laidOut : laidOutB Tryd.prog = true := by kernel_rfl

set_option maxRecDepth 100000 in
set_option maxHeartbeats 80000000 in
theorem walk (w : World) (y0 : Value) (l0 : List UInt8) (q0 : Frame.Bytes w y0 l0) (ht : Text.Tab w) :
    Calls Tryd.prog 3 #[y0] w fun e w' => e = .returned (.bool true) ∧ Below w.heap.size w w' := by
  by_cases hlen : (l0.length : Int) ≤ 1048576
  · obtain ⟨x, cap, rfl, -⟩ := Draw.bytes_at q0
    have hl : decide ((1048576 : Int) < (l0.length : Int)) = false := by simpa using hlen
    have Q0 := Lib.hid q0; clear q0 hlen
    obtain ⟨n0, hn0⟩ : ∃ n0, n0 = l0.length := ⟨_, rfl⟩
    rw [← hn0] at hl Q0 ⊢
    have HN0 := Lib.hid hn0; clear hn0
    have BB := Lib.hid (Below.refl w.heap.size w)
    have H_t := Lib.hid ht; clear ht
    go_enter Tryd.func3, Tryd.ntmps3
    go_wp2_with fail
    refine (Draw.big_no x n0 cap w hl).mono ?_
    rintro e w' ⟨rfl, rfl⟩
    go_wp2_with fail
    refine (Draw.drawEncodeInterest _ _ l0 (Q0.out.on BB.out)).mono ?_
    rintro e w1 ⟨U_w, xw, rfl, ho_w, b_w, f_w, hb⟩
    have HWF := Lib.hid f_w; clear f_w
    obtain ⟨x_w, n_w, c_w, rfl, ho_w⟩ := Row.kW_shapeA ho_w
    replace H_t := Lib.hid (H_t.out.on hb)
    replace BB := Lib.hid (BB.out.trans (hb.mono BB.out.size))
    clear hb
    have H_w := Lib.hid ho_w; clear ho_w
    have hal := (Below.refl (w1).heap.size (w1)).alloc (Nat.le_refl _) (.cells #[.slice x_w n_w c_w, .int .i64 xw.2.1, .int .i64 xw.2.2.1, .int .i64 xw.2.2.2] 28)
    replace H_t := Lib.hid (H_t.out.on hal)
    replace H_w := Lib.hid (H_w.out.on hal)
    replace BB := Lib.hid (BB.out.trans (hal.mono BB.out.size))
    have C_w := Lib.hid (Ret.Blk.new' (w := w1) #[.slice x_w n_w c_w, .int .i64 xw.2.1, .int .i64 xw.2.2.1, .int .i64 xw.2.2.2] 28 (n := w1.heap.size) (by first | rfl | simp)); clear hal
    have c0_w : (w1.alloc (.cells #[.slice x_w n_w c_w, .int .i64 xw.2.1, .int .i64 xw.2.2.1, .int .i64 xw.2.2.2] 28)).cell? ⟨w1.heap.size, 0, none⟩ = some (.slice x_w n_w c_w) := C_w.out.cell 0
    have c1_w : (w1.alloc (.cells #[.slice x_w n_w c_w, .int .i64 xw.2.1, .int .i64 xw.2.2.1, .int .i64 xw.2.2.2] 28)).cell? ⟨w1.heap.size, 1, none⟩ = some (.int .i64 xw.2.1) := C_w.out.cell 1
    have c2_w : (w1.alloc (.cells #[.slice x_w n_w c_w, .int .i64 xw.2.1, .int .i64 xw.2.2.1, .int .i64 xw.2.2.2] 28)).cell? ⟨w1.heap.size, 2, none⟩ = some (.int .i64 xw.2.2.1) := C_w.out.cell 2
    have c3_w : (w1.alloc (.cells #[.slice x_w n_w c_w, .int .i64 xw.2.1, .int .i64 xw.2.2.1, .int .i64 xw.2.2.2] 28)).cell? ⟨w1.heap.size, 3, none⟩ = some (.int .i64 xw.2.2.2) := C_w.out.cell 3
    go_wp2_with fail
    clear c0_w c1_w c2_w c3_w
    refine (Row.implEncodeInterestK _ xw _ H_w.out (by omega)).mono ?_
    rintro e w2 ⟨U_b, rfl, ho_b, hb⟩
    obtain ⟨eb, h_eb⟩ : ∃ z, z = Row.encW xw := ⟨_, rfl⟩
    rw [← h_eb] at ho_b
    have l_b : eb.length ≤ 1000000 := by rw [h_eb]; have := Row.encW_le xw; omega
    have HEB := Lib.hid h_eb; clear h_eb
    obtain ⟨x_b, n_b, c_b, rfl, ho_b⟩ := Row.kB_shape ho_b
    replace C_w := Lib.hid (C_w.out.on hb)
    replace H_t := Lib.hid (H_t.out.on hb)
    replace H_w := Lib.hid (H_w.out.on hb)
    replace BB := Lib.hid (BB.out.trans (hb.mono BB.out.size))
    clear hb
    have H_b := Lib.hid ho_b.at; clear ho_b
    go_wp2_with fail
    refine (Draw.drawDecodeInterest _ _ l0 (Q0.out.on BB.out)).mono ?_
    rintro e w3 ⟨U_c, ec, rfl, ho_c, y_c, l_c, hb⟩
    have HYC := Lib.hid y_c; clear y_c
    obtain ⟨x_c, n_c, c_c, rfl, ho_c⟩ := Row.kB_shapeA ho_c
    replace C_w := Lib.hid (C_w.out.on hb)
    replace H_t := Lib.hid (H_t.out.on hb)
    replace H_w := Lib.hid (H_w.out.on hb)
    replace H_b := Lib.hid (H_b.out.on hb)
    replace BB := Lib.hid (BB.out.trans (hb.mono BB.out.size))
    clear hb
    have H_c := Lib.hid ho_c; clear ho_c
    go_wp2_with fail
    obtain ⟨xx, h_xx⟩ : ∃ z, z = (Row.dcW ec).1 := ⟨_, rfl⟩
    have HXX := Lib.hid h_xx; clear h_xx
    obtain ⟨ok, h_ok⟩ : ∃ z, z = (Row.dcW ec).2 := ⟨_, rfl⟩
    have HOK := Lib.hid h_ok; clear h_ok
    have b_x : Row.bulk xx.1 ≤ 1000 := by rw [HXX.out]; exact Row.dcW_bulk ec
    refine (Row.implDecodeInterestK _ ec _ H_c.out HYC.out (by omega)).mono ?_
    rintro e w4 ⟨U_x, rfl, ho_x, hb⟩
    rw [← HXX.out] at ho_x
    rw [← HOK.out]
    obtain ⟨x_x, n_x, c_x, rfl, ho_x⟩ := Row.kW_shape ho_x
    replace C_w := Lib.hid (C_w.out.on hb)
    replace H_t := Lib.hid (H_t.out.on hb)
    replace H_w := Lib.hid (H_w.out.on hb)
    replace H_b := Lib.hid (H_b.out.on hb)
    replace H_c := Lib.hid (H_c.out.on hb)
    replace BB := Lib.hid (BB.out.trans (hb.mono BB.out.size))
    clear hb
    have H_x := Lib.hid ho_x.at; clear ho_x
    have hal := (Below.refl (w4).heap.size (w4)).alloc (Nat.le_refl _) (.cells #[.slice x_x n_x c_x, .int .i64 xx.2.1, .int .i64 xx.2.2.1, .int .i64 xx.2.2.2] 28)
    replace C_w := Lib.hid (C_w.out.on hal)
    replace H_t := Lib.hid (H_t.out.on hal)
    replace H_w := Lib.hid (H_w.out.on hal)
    replace H_b := Lib.hid (H_b.out.on hal)
    replace H_c := Lib.hid (H_c.out.on hal)
    replace H_x := Lib.hid (H_x.out.on hal)
    replace BB := Lib.hid (BB.out.trans (hal.mono BB.out.size))
    have C_x := Lib.hid (Ret.Blk.new' (w := w4) #[.slice x_x n_x c_x, .int .i64 xx.2.1, .int .i64 xx.2.2.1, .int .i64 xx.2.2.2] 28 (n := w4.heap.size) (by first | rfl | simp)); clear hal
    go_wp2_with fail
    refine (Row.specDecodeInterestK _ ec _ H_c.out HYC.out (by omega)).mono ?_
    rintro e w5 ⟨U_y, rfl, ho_y, hb⟩
    rw [← HXX.out] at ho_y
    rw [← HOK.out]
    obtain ⟨x_y, n_y, c_y, rfl, ho_y⟩ := Row.kW_shape ho_y
    replace C_w := Lib.hid (C_w.out.on hb)
    replace C_x := Lib.hid (C_x.out.on hb)
    replace H_t := Lib.hid (H_t.out.on hb)
    replace H_w := Lib.hid (H_w.out.on hb)
    replace H_b := Lib.hid (H_b.out.on hb)
    replace H_c := Lib.hid (H_c.out.on hb)
    replace H_x := Lib.hid (H_x.out.on hb)
    replace BB := Lib.hid (BB.out.trans (hb.mono BB.out.size))
    clear hb
    have H_y := Lib.hid ho_y.at; clear ho_y
    have hal := (Below.refl (w5).heap.size (w5)).alloc (Nat.le_refl _) (.cells #[.slice x_y n_y c_y, .int .i64 xx.2.1, .int .i64 xx.2.2.1, .int .i64 xx.2.2.2] 28)
    replace C_w := Lib.hid (C_w.out.on hal)
    replace C_x := Lib.hid (C_x.out.on hal)
    replace H_t := Lib.hid (H_t.out.on hal)
    replace H_w := Lib.hid (H_w.out.on hal)
    replace H_b := Lib.hid (H_b.out.on hal)
    replace H_c := Lib.hid (H_c.out.on hal)
    replace H_x := Lib.hid (H_x.out.on hal)
    replace H_y := Lib.hid (H_y.out.on hal)
    replace BB := Lib.hid (BB.out.trans (hal.mono BB.out.size))
    have C_y := Lib.hid (Ret.Blk.new' (w := w5) #[.slice x_y n_y c_y, .int .i64 xx.2.1, .int .i64 xx.2.2.1, .int .i64 xx.2.2.2] 28 (n := w5.heap.size) (by first | rfl | simp)); clear hal
    go_wp2_with fail
    refine (Draw.drawAppendName _ _ l0 (Q0.out.on BB.out)).mono ?_
    rintro e w6 ⟨U_p, ep, U_n, ln, rfl, ho_p, l_p, ho_n, b_n, hb⟩
    obtain ⟨x_p, n_p, c_p, rfl, ho_p⟩ := Row.kB_shapeA ho_p
    obtain ⟨x_n, n_n, c_n, rfl, ho_n⟩ := Row.kN_shapeA ho_n
    replace C_w := Lib.hid (C_w.out.on hb)
    replace C_x := Lib.hid (C_x.out.on hb)
    replace C_y := Lib.hid (C_y.out.on hb)
    replace H_t := Lib.hid (H_t.out.on hb)
    replace H_w := Lib.hid (H_w.out.on hb)
    replace H_b := Lib.hid (H_b.out.on hb)
    replace H_c := Lib.hid (H_c.out.on hb)
    replace H_x := Lib.hid (H_x.out.on hb)
    replace H_y := Lib.hid (H_y.out.on hb)
    replace BB := Lib.hid (BB.out.trans (hb.mono BB.out.size))
    clear hb
    have H_p := Lib.hid ho_p; clear ho_p
    have H_n := Lib.hid ho_n; clear ho_n
    have hal := (Below.refl (w6).heap.size (w6)).alloc (Nat.le_refl _) (.cells #[.slice x_n n_n c_n] 26)
    replace C_w := Lib.hid (C_w.out.on hal)
    replace C_x := Lib.hid (C_x.out.on hal)
    replace C_y := Lib.hid (C_y.out.on hal)
    replace H_t := Lib.hid (H_t.out.on hal)
    replace H_w := Lib.hid (H_w.out.on hal)
    replace H_b := Lib.hid (H_b.out.on hal)
    replace H_c := Lib.hid (H_c.out.on hal)
    replace H_x := Lib.hid (H_x.out.on hal)
    replace H_y := Lib.hid (H_y.out.on hal)
    replace H_p := Lib.hid (H_p.out.on hal)
    replace H_n := Lib.hid (H_n.out.on hal)
    replace BB := Lib.hid (BB.out.trans (hal.mono BB.out.size))
    have C_n := Lib.hid (Ret.Blk.new' (w := w6) #[.slice x_n n_n c_n] 26 (n := w6.heap.size) (by first | rfl | simp)); clear hal
    go_wp2_with fail
    refine (Draw.drawReadName _ _ l0 (Q0.out.on BB.out)).mono ?_
    rintro e w7 ⟨U_q, eq, i, rfl, ho_q, y_q, l_q, hb⟩
    have HYQ := Lib.hid y_q; clear y_q
    obtain ⟨x_q, n_q, c_q, rfl, ho_q⟩ := Row.kB_shapeA ho_q
    replace C_w := Lib.hid (C_w.out.on hb)
    replace C_x := Lib.hid (C_x.out.on hb)
    replace C_y := Lib.hid (C_y.out.on hb)
    replace C_n := Lib.hid (C_n.out.on hb)
    replace H_t := Lib.hid (H_t.out.on hb)
    replace H_w := Lib.hid (H_w.out.on hb)
    replace H_b := Lib.hid (H_b.out.on hb)
    replace H_c := Lib.hid (H_c.out.on hb)
    replace H_x := Lib.hid (H_x.out.on hb)
    replace H_y := Lib.hid (H_y.out.on hb)
    replace H_p := Lib.hid (H_p.out.on hb)
    replace H_n := Lib.hid (H_n.out.on hb)
    replace BB := Lib.hid (BB.out.trans (hb.mono BB.out.size))
    clear hb
    have H_q := Lib.hid ho_q; clear ho_q
    go_wp2_with fail
    obtain ⟨lm, h_lm⟩ : ∃ z, z = (Row.rdN eq i).1 := ⟨_, rfl⟩
    have HLM := Lib.hid h_lm; clear h_lm
    obtain ⟨nj, h_nj⟩ : ∃ z, z = (Row.rdN eq i).2.1 := ⟨_, rfl⟩
    have HNJ := Lib.hid h_nj; clear h_nj
    obtain ⟨may, h_may⟩ : ∃ z, z = (Row.rdN eq i).2.2 := ⟨_, rfl⟩
    have HMAY := Lib.hid h_may; clear h_may
    have b_m : lm.length ≤ 1000 := by rw [HLM.out]; have := Row.rdN_len eq i; omega
    refine (Row.implReadNameK _ eq i _ H_q.out HYQ.out (by omega)).mono ?_
    rintro e w8 ⟨U_m, rfl, ho_m, hb⟩
    rw [← HLM.out] at ho_m
    rw [← HNJ.out, ← HMAY.out]
    obtain ⟨x_m, n_m, c_m, rfl, ho_m⟩ := Row.kN_shape ho_m
    replace C_w := Lib.hid (C_w.out.on hb)
    replace C_x := Lib.hid (C_x.out.on hb)
    replace C_y := Lib.hid (C_y.out.on hb)
    replace C_n := Lib.hid (C_n.out.on hb)
    replace H_t := Lib.hid (H_t.out.on hb)
    replace H_w := Lib.hid (H_w.out.on hb)
    replace H_b := Lib.hid (H_b.out.on hb)
    replace H_c := Lib.hid (H_c.out.on hb)
    replace H_x := Lib.hid (H_x.out.on hb)
    replace H_y := Lib.hid (H_y.out.on hb)
    replace H_p := Lib.hid (H_p.out.on hb)
    replace H_n := Lib.hid (H_n.out.on hb)
    replace H_q := Lib.hid (H_q.out.on hb)
    replace BB := Lib.hid (BB.out.trans (hb.mono BB.out.size))
    clear hb
    have H_m := Lib.hid ho_m.at; clear ho_m
    have hal := (Below.refl (w8).heap.size (w8)).alloc (Nat.le_refl _) (.cells #[.slice x_m n_m c_m] 26)
    replace C_w := Lib.hid (C_w.out.on hal)
    replace C_x := Lib.hid (C_x.out.on hal)
    replace C_y := Lib.hid (C_y.out.on hal)
    replace C_n := Lib.hid (C_n.out.on hal)
    replace H_t := Lib.hid (H_t.out.on hal)
    replace H_w := Lib.hid (H_w.out.on hal)
    replace H_b := Lib.hid (H_b.out.on hal)
    replace H_c := Lib.hid (H_c.out.on hal)
    replace H_x := Lib.hid (H_x.out.on hal)
    replace H_y := Lib.hid (H_y.out.on hal)
    replace H_p := Lib.hid (H_p.out.on hal)
    replace H_n := Lib.hid (H_n.out.on hal)
    replace H_q := Lib.hid (H_q.out.on hal)
    replace H_m := Lib.hid (H_m.out.on hal)
    replace BB := Lib.hid (BB.out.trans (hal.mono BB.out.size))
    have C_m := Lib.hid (Ret.Blk.new' (w := w8) #[.slice x_m n_m c_m] 26 (n := w8.heap.size) (by first | rfl | simp)); clear hal
    go_wp2_with fail
    refine (Row.specReadNameK _ eq i _ H_q.out HYQ.out (by omega)).mono ?_
    rintro e w9 ⟨U_k, rfl, ho_k, hb⟩
    rw [← HLM.out] at ho_k
    rw [← HNJ.out, ← HMAY.out]
    obtain ⟨x_k, n_k, c_k, rfl, ho_k⟩ := Row.kN_shape ho_k
    replace C_w := Lib.hid (C_w.out.on hb)
    replace C_x := Lib.hid (C_x.out.on hb)
    replace C_y := Lib.hid (C_y.out.on hb)
    replace C_n := Lib.hid (C_n.out.on hb)
    replace C_m := Lib.hid (C_m.out.on hb)
    replace H_t := Lib.hid (H_t.out.on hb)
    replace H_w := Lib.hid (H_w.out.on hb)
    replace H_b := Lib.hid (H_b.out.on hb)
    replace H_c := Lib.hid (H_c.out.on hb)
    replace H_x := Lib.hid (H_x.out.on hb)
    replace H_y := Lib.hid (H_y.out.on hb)
    replace H_p := Lib.hid (H_p.out.on hb)
    replace H_n := Lib.hid (H_n.out.on hb)
    replace H_q := Lib.hid (H_q.out.on hb)
    replace H_m := Lib.hid (H_m.out.on hb)
    replace BB := Lib.hid (BB.out.trans (hb.mono BB.out.size))
    clear hb
    have H_k := Lib.hid ho_k.at; clear ho_k
    have hal := (Below.refl (w9).heap.size (w9)).alloc (Nat.le_refl _) (.cells #[.slice x_k n_k c_k] 26)
    replace C_w := Lib.hid (C_w.out.on hal)
    replace C_x := Lib.hid (C_x.out.on hal)
    replace C_y := Lib.hid (C_y.out.on hal)
    replace C_n := Lib.hid (C_n.out.on hal)
    replace C_m := Lib.hid (C_m.out.on hal)
    replace H_t := Lib.hid (H_t.out.on hal)
    replace H_w := Lib.hid (H_w.out.on hal)
    replace H_b := Lib.hid (H_b.out.on hal)
    replace H_c := Lib.hid (H_c.out.on hal)
    replace H_x := Lib.hid (H_x.out.on hal)
    replace H_y := Lib.hid (H_y.out.on hal)
    replace H_p := Lib.hid (H_p.out.on hal)
    replace H_n := Lib.hid (H_n.out.on hal)
    replace H_q := Lib.hid (H_q.out.on hal)
    replace H_m := Lib.hid (H_m.out.on hal)
    replace H_k := Lib.hid (H_k.out.on hal)
    replace BB := Lib.hid (BB.out.trans (hal.mono BB.out.size))
    have C_k := Lib.hid (Ret.Blk.new' (w := w9) #[.slice x_k n_k c_k] 26 (n := w9.heap.size) (by first | rfl | simp)); clear hal
    go_wp2_with fail
    refine (Draw.drawEqualInterests _ _ l0 (Q0.out.on BB.out)).mono ?_
    rintro e w10 ⟨U_a, xa, U_d, xd, rfl, ho_a, b_a, ho_d, b_d, hb⟩
    obtain ⟨x_a, n_a, c_a, rfl, ho_a⟩ := Row.kW_shapeA ho_a
    obtain ⟨x_d, n_d, c_d, rfl, ho_d⟩ := Row.kW_shapeA ho_d
    replace C_w := Lib.hid (C_w.out.on hb)
    replace C_x := Lib.hid (C_x.out.on hb)
    replace C_y := Lib.hid (C_y.out.on hb)
    replace C_n := Lib.hid (C_n.out.on hb)
    replace C_m := Lib.hid (C_m.out.on hb)
    replace C_k := Lib.hid (C_k.out.on hb)
    replace H_t := Lib.hid (H_t.out.on hb)
    replace H_w := Lib.hid (H_w.out.on hb)
    replace H_b := Lib.hid (H_b.out.on hb)
    replace H_c := Lib.hid (H_c.out.on hb)
    replace H_x := Lib.hid (H_x.out.on hb)
    replace H_y := Lib.hid (H_y.out.on hb)
    replace H_p := Lib.hid (H_p.out.on hb)
    replace H_n := Lib.hid (H_n.out.on hb)
    replace H_q := Lib.hid (H_q.out.on hb)
    replace H_m := Lib.hid (H_m.out.on hb)
    replace H_k := Lib.hid (H_k.out.on hb)
    replace BB := Lib.hid (BB.out.trans (hb.mono BB.out.size))
    clear hb
    have H_a := Lib.hid ho_a; clear ho_a
    have H_d := Lib.hid ho_d; clear ho_d
    have hal := (Below.refl (w10).heap.size (w10)).alloc (Nat.le_refl _) (.cells #[.slice x_a n_a c_a, .int .i64 xa.2.1, .int .i64 xa.2.2.1, .int .i64 xa.2.2.2] 28)
    replace C_w := Lib.hid (C_w.out.on hal)
    replace C_x := Lib.hid (C_x.out.on hal)
    replace C_y := Lib.hid (C_y.out.on hal)
    replace C_n := Lib.hid (C_n.out.on hal)
    replace C_m := Lib.hid (C_m.out.on hal)
    replace C_k := Lib.hid (C_k.out.on hal)
    replace H_t := Lib.hid (H_t.out.on hal)
    replace H_w := Lib.hid (H_w.out.on hal)
    replace H_b := Lib.hid (H_b.out.on hal)
    replace H_c := Lib.hid (H_c.out.on hal)
    replace H_x := Lib.hid (H_x.out.on hal)
    replace H_y := Lib.hid (H_y.out.on hal)
    replace H_p := Lib.hid (H_p.out.on hal)
    replace H_n := Lib.hid (H_n.out.on hal)
    replace H_q := Lib.hid (H_q.out.on hal)
    replace H_m := Lib.hid (H_m.out.on hal)
    replace H_k := Lib.hid (H_k.out.on hal)
    replace H_a := Lib.hid (H_a.out.on hal)
    replace H_d := Lib.hid (H_d.out.on hal)
    replace BB := Lib.hid (BB.out.trans (hal.mono BB.out.size))
    have C_a := Lib.hid (Ret.Blk.new' (w := w10) #[.slice x_a n_a c_a, .int .i64 xa.2.1, .int .i64 xa.2.2.1, .int .i64 xa.2.2.2] 28 (n := w10.heap.size) (by first | rfl | simp)); clear hal
    have hal := (Below.refl ((w10.alloc (.cells #[.slice x_a n_a c_a, .int .i64 xa.2.1, .int .i64 xa.2.2.1, .int .i64 xa.2.2.2] 28))).heap.size ((w10.alloc (.cells #[.slice x_a n_a c_a, .int .i64 xa.2.1, .int .i64 xa.2.2.1, .int .i64 xa.2.2.2] 28)))).alloc (Nat.le_refl _) (.cells #[.slice x_d n_d c_d, .int .i64 xd.2.1, .int .i64 xd.2.2.1, .int .i64 xd.2.2.2] 28)
    replace C_w := Lib.hid (C_w.out.on hal)
    replace C_x := Lib.hid (C_x.out.on hal)
    replace C_y := Lib.hid (C_y.out.on hal)
    replace C_n := Lib.hid (C_n.out.on hal)
    replace C_m := Lib.hid (C_m.out.on hal)
    replace C_k := Lib.hid (C_k.out.on hal)
    replace C_a := Lib.hid (C_a.out.on hal)
    replace H_t := Lib.hid (H_t.out.on hal)
    replace H_w := Lib.hid (H_w.out.on hal)
    replace H_b := Lib.hid (H_b.out.on hal)
    replace H_c := Lib.hid (H_c.out.on hal)
    replace H_x := Lib.hid (H_x.out.on hal)
    replace H_y := Lib.hid (H_y.out.on hal)
    replace H_p := Lib.hid (H_p.out.on hal)
    replace H_n := Lib.hid (H_n.out.on hal)
    replace H_q := Lib.hid (H_q.out.on hal)
    replace H_m := Lib.hid (H_m.out.on hal)
    replace H_k := Lib.hid (H_k.out.on hal)
    replace H_a := Lib.hid (H_a.out.on hal)
    replace H_d := Lib.hid (H_d.out.on hal)
    replace BB := Lib.hid (BB.out.trans (hal.mono BB.out.size))
    have C_d := Lib.hid (Ret.Blk.new' (w := (w10.alloc (.cells #[.slice x_a n_a c_a, .int .i64 xa.2.1, .int .i64 xa.2.2.1, .int .i64 xa.2.2.2] 28))) #[.slice x_d n_d c_d, .int .i64 xd.2.1, .int .i64 xd.2.2.1, .int .i64 xd.2.2.2] 28 (n := w10.heap.size + 1) (by first | rfl | simp)); clear hal
    go_wp2_with fail
    refine (Draw.drawDecrementHops _ _ l0 (Q0.out.on BB.out)).mono ?_
    rintro e w11 ⟨U_h, xh, rfl, ho_h, b_h, f_h, hb⟩
    have HFH := Lib.hid f_h.hop; clear f_h
    obtain ⟨x_h, n_h, c_h, rfl, ho_h⟩ := Row.kW_shapeA ho_h
    replace C_w := Lib.hid (C_w.out.on hb)
    replace C_x := Lib.hid (C_x.out.on hb)
    replace C_y := Lib.hid (C_y.out.on hb)
    replace C_n := Lib.hid (C_n.out.on hb)
    replace C_m := Lib.hid (C_m.out.on hb)
    replace C_k := Lib.hid (C_k.out.on hb)
    replace C_a := Lib.hid (C_a.out.on hb)
    replace C_d := Lib.hid (C_d.out.on hb)
    replace H_t := Lib.hid (H_t.out.on hb)
    replace H_w := Lib.hid (H_w.out.on hb)
    replace H_b := Lib.hid (H_b.out.on hb)
    replace H_c := Lib.hid (H_c.out.on hb)
    replace H_x := Lib.hid (H_x.out.on hb)
    replace H_y := Lib.hid (H_y.out.on hb)
    replace H_p := Lib.hid (H_p.out.on hb)
    replace H_n := Lib.hid (H_n.out.on hb)
    replace H_q := Lib.hid (H_q.out.on hb)
    replace H_m := Lib.hid (H_m.out.on hb)
    replace H_k := Lib.hid (H_k.out.on hb)
    replace H_a := Lib.hid (H_a.out.on hb)
    replace H_d := Lib.hid (H_d.out.on hb)
    replace BB := Lib.hid (BB.out.trans (hb.mono BB.out.size))
    clear hb
    have H_h := Lib.hid ho_h; clear ho_h
    have hal := (Below.refl (w11).heap.size (w11)).alloc (Nat.le_refl _) (.cells #[.slice x_h n_h c_h, .int .i64 xh.2.1, .int .i64 xh.2.2.1, .int .i64 xh.2.2.2] 28)
    replace C_w := Lib.hid (C_w.out.on hal)
    replace C_x := Lib.hid (C_x.out.on hal)
    replace C_y := Lib.hid (C_y.out.on hal)
    replace C_n := Lib.hid (C_n.out.on hal)
    replace C_m := Lib.hid (C_m.out.on hal)
    replace C_k := Lib.hid (C_k.out.on hal)
    replace C_a := Lib.hid (C_a.out.on hal)
    replace C_d := Lib.hid (C_d.out.on hal)
    replace H_t := Lib.hid (H_t.out.on hal)
    replace H_w := Lib.hid (H_w.out.on hal)
    replace H_b := Lib.hid (H_b.out.on hal)
    replace H_c := Lib.hid (H_c.out.on hal)
    replace H_x := Lib.hid (H_x.out.on hal)
    replace H_y := Lib.hid (H_y.out.on hal)
    replace H_p := Lib.hid (H_p.out.on hal)
    replace H_n := Lib.hid (H_n.out.on hal)
    replace H_q := Lib.hid (H_q.out.on hal)
    replace H_m := Lib.hid (H_m.out.on hal)
    replace H_k := Lib.hid (H_k.out.on hal)
    replace H_a := Lib.hid (H_a.out.on hal)
    replace H_d := Lib.hid (H_d.out.on hal)
    replace H_h := Lib.hid (H_h.out.on hal)
    replace BB := Lib.hid (BB.out.trans (hal.mono BB.out.size))
    have C_h := Lib.hid (Ret.Blk.new' (w := w11) #[.slice x_h n_h c_h, .int .i64 xh.2.1, .int .i64 xh.2.2.1, .int .i64 xh.2.2.2] 28 (n := w11.heap.size) (by first | rfl | simp)); clear hal
    have c0_h : (w11.alloc (.cells #[.slice x_h n_h c_h, .int .i64 xh.2.1, .int .i64 xh.2.2.1, .int .i64 xh.2.2.2] 28)).cell? ⟨w11.heap.size, 0, none⟩ = some (.slice x_h n_h c_h) := C_h.out.cell 0
    have c1_h : (w11.alloc (.cells #[.slice x_h n_h c_h, .int .i64 xh.2.1, .int .i64 xh.2.2.1, .int .i64 xh.2.2.2] 28)).cell? ⟨w11.heap.size, 1, none⟩ = some (.int .i64 xh.2.1) := C_h.out.cell 1
    have c2_h : (w11.alloc (.cells #[.slice x_h n_h c_h, .int .i64 xh.2.1, .int .i64 xh.2.2.1, .int .i64 xh.2.2.2] 28)).cell? ⟨w11.heap.size, 2, none⟩ = some (.int .i64 xh.2.2.1) := C_h.out.cell 2
    have c3_h : (w11.alloc (.cells #[.slice x_h n_h c_h, .int .i64 xh.2.1, .int .i64 xh.2.2.1, .int .i64 xh.2.2.2] 28)).cell? ⟨w11.heap.size, 3, none⟩ = some (.int .i64 xh.2.2.2) := C_h.out.cell 3
    go_wp2_with fail
    clear c0_h c1_h c2_h c3_h
    obtain ⟨xo, h_xo⟩ : ∃ z, z = Row.decW xh := ⟨_, rfl⟩
    have HXO := Lib.hid h_xo; clear h_xo
    obtain ⟨left, h_left⟩ : ∃ z, z = Row.decOk xh := ⟨_, rfl⟩
    have HLF := Lib.hid h_left; clear h_left
    have b_o : Row.bulk xo.1 ≤ 1000 := by rw [HXO.out]; exact Row.decW_bulk b_h
    have d_h : xh.1.length ≤ 9000000 := by have := Row.bulk_len xh.1; omega
    refine (Row.implDecrementHopsK _ xh _ H_h.out d_h HFH.out).mono ?_
    rintro e w12 ⟨U_o, rfl, ho_o, hb⟩
    rw [← HXO.out] at ho_o
    rw [← HLF.out]
    obtain ⟨x_o, n_o, c_o, rfl, ho_o⟩ := Row.kW_shape ho_o
    replace C_w := Lib.hid (C_w.out.on hb)
    replace C_x := Lib.hid (C_x.out.on hb)
    replace C_y := Lib.hid (C_y.out.on hb)
    replace C_n := Lib.hid (C_n.out.on hb)
    replace C_m := Lib.hid (C_m.out.on hb)
    replace C_k := Lib.hid (C_k.out.on hb)
    replace C_a := Lib.hid (C_a.out.on hb)
    replace C_d := Lib.hid (C_d.out.on hb)
    replace C_h := Lib.hid (C_h.out.on hb)
    replace H_t := Lib.hid (H_t.out.on hb)
    replace H_w := Lib.hid (H_w.out.on hb)
    replace H_b := Lib.hid (H_b.out.on hb)
    replace H_c := Lib.hid (H_c.out.on hb)
    replace H_x := Lib.hid (H_x.out.on hb)
    replace H_y := Lib.hid (H_y.out.on hb)
    replace H_p := Lib.hid (H_p.out.on hb)
    replace H_n := Lib.hid (H_n.out.on hb)
    replace H_q := Lib.hid (H_q.out.on hb)
    replace H_m := Lib.hid (H_m.out.on hb)
    replace H_k := Lib.hid (H_k.out.on hb)
    replace H_a := Lib.hid (H_a.out.on hb)
    replace H_d := Lib.hid (H_d.out.on hb)
    replace H_h := Lib.hid (H_h.out.on hb)
    replace BB := Lib.hid (BB.out.trans (hb.mono BB.out.size))
    clear hb
    have H_o := Lib.hid ho_o.at; clear ho_o
    have hal := (Below.refl (w12).heap.size (w12)).alloc (Nat.le_refl _) (.cells #[.slice x_o n_o c_o, .int .i64 xo.2.1, .int .i64 xo.2.2.1, .int .i64 xo.2.2.2] 28)
    replace C_w := Lib.hid (C_w.out.on hal)
    replace C_x := Lib.hid (C_x.out.on hal)
    replace C_y := Lib.hid (C_y.out.on hal)
    replace C_n := Lib.hid (C_n.out.on hal)
    replace C_m := Lib.hid (C_m.out.on hal)
    replace C_k := Lib.hid (C_k.out.on hal)
    replace C_a := Lib.hid (C_a.out.on hal)
    replace C_d := Lib.hid (C_d.out.on hal)
    replace C_h := Lib.hid (C_h.out.on hal)
    replace H_t := Lib.hid (H_t.out.on hal)
    replace H_w := Lib.hid (H_w.out.on hal)
    replace H_b := Lib.hid (H_b.out.on hal)
    replace H_c := Lib.hid (H_c.out.on hal)
    replace H_x := Lib.hid (H_x.out.on hal)
    replace H_y := Lib.hid (H_y.out.on hal)
    replace H_p := Lib.hid (H_p.out.on hal)
    replace H_n := Lib.hid (H_n.out.on hal)
    replace H_q := Lib.hid (H_q.out.on hal)
    replace H_m := Lib.hid (H_m.out.on hal)
    replace H_k := Lib.hid (H_k.out.on hal)
    replace H_a := Lib.hid (H_a.out.on hal)
    replace H_d := Lib.hid (H_d.out.on hal)
    replace H_h := Lib.hid (H_h.out.on hal)
    replace H_o := Lib.hid (H_o.out.on hal)
    replace BB := Lib.hid (BB.out.trans (hal.mono BB.out.size))
    have C_o := Lib.hid (Ret.Blk.new' (w := w12) #[.slice x_o n_o c_o, .int .i64 xo.2.1, .int .i64 xo.2.2.1, .int .i64 xo.2.2.2] 28 (n := w12.heap.size) (by first | rfl | simp)); clear hal
    have c0_h : (w12.alloc (.cells #[.slice x_o n_o c_o, .int .i64 xo.2.1, .int .i64 xo.2.2.1, .int .i64 xo.2.2.2] 28)).cell? ⟨w11.heap.size, 0, none⟩ = some (.slice x_h n_h c_h) := C_h.out.cell 0
    have c1_h : (w12.alloc (.cells #[.slice x_o n_o c_o, .int .i64 xo.2.1, .int .i64 xo.2.2.1, .int .i64 xo.2.2.2] 28)).cell? ⟨w11.heap.size, 1, none⟩ = some (.int .i64 xh.2.1) := C_h.out.cell 1
    have c2_h : (w12.alloc (.cells #[.slice x_o n_o c_o, .int .i64 xo.2.1, .int .i64 xo.2.2.1, .int .i64 xo.2.2.2] 28)).cell? ⟨w11.heap.size, 2, none⟩ = some (.int .i64 xh.2.2.1) := C_h.out.cell 2
    have c3_h : (w12.alloc (.cells #[.slice x_o n_o c_o, .int .i64 xo.2.1, .int .i64 xo.2.2.1, .int .i64 xo.2.2.2] 28)).cell? ⟨w11.heap.size, 3, none⟩ = some (.int .i64 xh.2.2.2) := C_h.out.cell 3
    go_wp2_with fail
    clear c0_h c1_h c2_h c3_h
    refine (Row.specDecrementHopsK _ xh _ H_h.out d_h HFH.out).mono ?_
    rintro e w13 ⟨U_u, rfl, ho_u, hb⟩
    rw [← HXO.out] at ho_u
    rw [← HLF.out]
    obtain ⟨x_u, n_u, c_u, rfl, ho_u⟩ := Row.kW_shape ho_u
    replace C_w := Lib.hid (C_w.out.on hb)
    replace C_x := Lib.hid (C_x.out.on hb)
    replace C_y := Lib.hid (C_y.out.on hb)
    replace C_n := Lib.hid (C_n.out.on hb)
    replace C_m := Lib.hid (C_m.out.on hb)
    replace C_k := Lib.hid (C_k.out.on hb)
    replace C_a := Lib.hid (C_a.out.on hb)
    replace C_d := Lib.hid (C_d.out.on hb)
    replace C_h := Lib.hid (C_h.out.on hb)
    replace C_o := Lib.hid (C_o.out.on hb)
    replace H_t := Lib.hid (H_t.out.on hb)
    replace H_w := Lib.hid (H_w.out.on hb)
    replace H_b := Lib.hid (H_b.out.on hb)
    replace H_c := Lib.hid (H_c.out.on hb)
    replace H_x := Lib.hid (H_x.out.on hb)
    replace H_y := Lib.hid (H_y.out.on hb)
    replace H_p := Lib.hid (H_p.out.on hb)
    replace H_n := Lib.hid (H_n.out.on hb)
    replace H_q := Lib.hid (H_q.out.on hb)
    replace H_m := Lib.hid (H_m.out.on hb)
    replace H_k := Lib.hid (H_k.out.on hb)
    replace H_a := Lib.hid (H_a.out.on hb)
    replace H_d := Lib.hid (H_d.out.on hb)
    replace H_h := Lib.hid (H_h.out.on hb)
    replace H_o := Lib.hid (H_o.out.on hb)
    replace BB := Lib.hid (BB.out.trans (hb.mono BB.out.size))
    clear hb
    have H_u := Lib.hid ho_u.at; clear ho_u
    have hal := (Below.refl (w13).heap.size (w13)).alloc (Nat.le_refl _) (.cells #[.slice x_u n_u c_u, .int .i64 xo.2.1, .int .i64 xo.2.2.1, .int .i64 xo.2.2.2] 28)
    replace C_w := Lib.hid (C_w.out.on hal)
    replace C_x := Lib.hid (C_x.out.on hal)
    replace C_y := Lib.hid (C_y.out.on hal)
    replace C_n := Lib.hid (C_n.out.on hal)
    replace C_m := Lib.hid (C_m.out.on hal)
    replace C_k := Lib.hid (C_k.out.on hal)
    replace C_a := Lib.hid (C_a.out.on hal)
    replace C_d := Lib.hid (C_d.out.on hal)
    replace C_h := Lib.hid (C_h.out.on hal)
    replace C_o := Lib.hid (C_o.out.on hal)
    replace H_t := Lib.hid (H_t.out.on hal)
    replace H_w := Lib.hid (H_w.out.on hal)
    replace H_b := Lib.hid (H_b.out.on hal)
    replace H_c := Lib.hid (H_c.out.on hal)
    replace H_x := Lib.hid (H_x.out.on hal)
    replace H_y := Lib.hid (H_y.out.on hal)
    replace H_p := Lib.hid (H_p.out.on hal)
    replace H_n := Lib.hid (H_n.out.on hal)
    replace H_q := Lib.hid (H_q.out.on hal)
    replace H_m := Lib.hid (H_m.out.on hal)
    replace H_k := Lib.hid (H_k.out.on hal)
    replace H_a := Lib.hid (H_a.out.on hal)
    replace H_d := Lib.hid (H_d.out.on hal)
    replace H_h := Lib.hid (H_h.out.on hal)
    replace H_o := Lib.hid (H_o.out.on hal)
    replace H_u := Lib.hid (H_u.out.on hal)
    replace BB := Lib.hid (BB.out.trans (hal.mono BB.out.size))
    have C_u := Lib.hid (Ret.Blk.new' (w := w13) #[.slice x_u n_u c_u, .int .i64 xo.2.1, .int .i64 xo.2.2.1, .int .i64 xo.2.2.2] 28 (n := w13.heap.size) (by first | rfl | simp)); clear hal
    go_wp2_with fail
    obtain ⟨z, h_z⟩ : ∃ z, Row.validW xw = z := ⟨_, rfl⟩
    have HZ := Lib.hid h_z; clear h_z
    (try dsimp only [List.append])
    refine Row.regW7 (Lib.hid (C_w.out.cell 0)) (Lib.hid (C_w.out.cell 1)) (Lib.hid (C_w.out.cell 2)) (Lib.hid (C_w.out.cell 3)) H_w (Lib.hid (C_x.out.cell 0)) (Lib.hid (C_x.out.cell 1)) (Lib.hid (C_x.out.cell 2)) (Lib.hid (C_x.out.cell 3)) H_x (Lib.hid (C_y.out.cell 0)) (Lib.hid (C_y.out.cell 1)) (Lib.hid (C_y.out.cell 2)) (Lib.hid (C_y.out.cell 3)) H_y (Lib.hid (C_n.out.cell 0)) H_n (Lib.hid (C_m.out.cell 0)) H_m (Lib.hid (C_k.out.cell 0)) H_k (Lib.hid (C_a.out.cell 0)) (Lib.hid (C_a.out.cell 1)) (Lib.hid (C_a.out.cell 2)) (Lib.hid (C_a.out.cell 3)) H_a (Lib.hid (C_d.out.cell 0)) (Lib.hid (C_d.out.cell 1)) (Lib.hid (C_d.out.cell 2)) (Lib.hid (C_d.out.cell 3)) H_d (Lib.hid (C_o.out.cell 0)) (Lib.hid (C_o.out.cell 1)) (Lib.hid (C_o.out.cell 2)) (Lib.hid (C_o.out.cell 3)) H_o (Lib.hid (C_u.out.cell 0)) (Lib.hid (C_u.out.cell 1)) (Lib.hid (C_u.out.cell 2)) (Lib.hid (C_u.out.cell 3)) H_u H_b H_p H_t HEB (Lib.hid rfl) (Lib.hid rfl) HZ HWF b_w b_x b_a b_d b_o b_n b_m l_b l_p ?_
    intro u88 u89 u90 u91 u92 u93 u94 u95 u96 u97 u98 u99 u100 u101 u102 u103 u104 u105 u106 u107 u108 u109 u110 u111 u112 u113 u114 u115 u116 u117 u118 u119 u120 u121 u122 u123 u124 u125 u126 u127 u128 u129 u130 u131 u132 u133 u134 u135 u136 u137 u138 u139 u140 u141 u142 u143 u144 u145 u146 u147 u148 u149 u150 u151 u152 u153 u154 u155 u156 u157 u158 u159 u160 u161 u162 wx hb
    replace C_w := Lib.hid (C_w.out.on hb)
    replace C_x := Lib.hid (C_x.out.on hb)
    replace C_y := Lib.hid (C_y.out.on hb)
    replace C_n := Lib.hid (C_n.out.on hb)
    replace C_m := Lib.hid (C_m.out.on hb)
    replace C_k := Lib.hid (C_k.out.on hb)
    replace C_a := Lib.hid (C_a.out.on hb)
    replace C_d := Lib.hid (C_d.out.on hb)
    replace C_h := Lib.hid (C_h.out.on hb)
    replace C_o := Lib.hid (C_o.out.on hb)
    replace C_u := Lib.hid (C_u.out.on hb)
    replace H_t := Lib.hid (H_t.out.on hb)
    replace H_w := Lib.hid (H_w.out.on hb)
    replace H_b := Lib.hid (H_b.out.on hb)
    replace H_c := Lib.hid (H_c.out.on hb)
    replace H_x := Lib.hid (H_x.out.on hb)
    replace H_y := Lib.hid (H_y.out.on hb)
    replace H_p := Lib.hid (H_p.out.on hb)
    replace H_n := Lib.hid (H_n.out.on hb)
    replace H_q := Lib.hid (H_q.out.on hb)
    replace H_m := Lib.hid (H_m.out.on hb)
    replace H_k := Lib.hid (H_k.out.on hb)
    replace H_a := Lib.hid (H_a.out.on hb)
    replace H_d := Lib.hid (H_d.out.on hb)
    replace H_h := Lib.hid (H_h.out.on hb)
    replace H_o := Lib.hid (H_o.out.on hb)
    replace H_u := Lib.hid (H_u.out.on hb)
    replace BB := Lib.hid (BB.out.trans (hb.mono BB.out.size))
    clear hb
    clear H_y
    clear C_y
    clear H_n
    clear C_n
    clear H_k
    clear C_k
    clear H_a
    clear C_a
    clear H_d
    clear C_d
    clear H_u
    clear C_u
    clear H_p
    go_wp2_with fail
    (try dsimp only [List.append])
    cases ok with
    | false =>
      cases may with
      | false =>
        refine Row.regX7_00  ?_
        intro u164 u165 u166 u167 u168 u169 u170 u171 u172 u173 u174 u175 u176 u177 u178 u179 u180 u181 u182 u183 u184 u185 u186 u187 u188 u189 u190 wy hb
        replace C_w := Lib.hid (C_w.out.on hb)
        replace C_x := Lib.hid (C_x.out.on hb)
        replace C_m := Lib.hid (C_m.out.on hb)
        replace C_h := Lib.hid (C_h.out.on hb)
        replace C_o := Lib.hid (C_o.out.on hb)
        replace H_t := Lib.hid (H_t.out.on hb)
        replace H_w := Lib.hid (H_w.out.on hb)
        replace H_b := Lib.hid (H_b.out.on hb)
        replace H_c := Lib.hid (H_c.out.on hb)
        replace H_x := Lib.hid (H_x.out.on hb)
        replace H_q := Lib.hid (H_q.out.on hb)
        replace H_m := Lib.hid (H_m.out.on hb)
        replace H_h := Lib.hid (H_h.out.on hb)
        replace H_o := Lib.hid (H_o.out.on hb)
        replace BB := Lib.hid (BB.out.trans (hb.mono BB.out.size))
        clear hb
        clear H_x
        clear C_x
        clear H_m
        clear C_m
        clear H_c
        clear H_q
        go_wp2_with fail
        obtain ⟨xz, h_xz⟩ : ∃ z, z = (Row.dcW eb).1 := ⟨_, rfl⟩
        have HXZ := Lib.hid h_xz; clear h_xz
        obtain ⟨back, h_back⟩ : ∃ z, z = (Row.dcW eb).2 := ⟨_, rfl⟩
        have HBK := Lib.hid h_back; clear h_back
        refine (Row.implDecodeInterestK _ eb _ H_b.out (by rw [HEB.out]; exact Draw.wbyt_W xw) (by omega)).mono ?_
        rintro e w14 ⟨U_z, rfl, ho_z, hb⟩
        rw [← HXZ.out] at ho_z
        rw [← HBK.out]
        obtain ⟨x_z, n_z, c_z, rfl, ho_z⟩ := Row.kW_shape ho_z
        replace C_w := Lib.hid (C_w.out.on hb)
        replace C_h := Lib.hid (C_h.out.on hb)
        replace C_o := Lib.hid (C_o.out.on hb)
        replace H_t := Lib.hid (H_t.out.on hb)
        replace H_w := Lib.hid (H_w.out.on hb)
        replace H_b := Lib.hid (H_b.out.on hb)
        replace H_h := Lib.hid (H_h.out.on hb)
        replace H_o := Lib.hid (H_o.out.on hb)
        replace BB := Lib.hid (BB.out.trans (hb.mono BB.out.size))
        clear hb
        have H_z := Lib.hid ho_z.at; clear ho_z
        have hal := (Below.refl (w14).heap.size (w14)).alloc (Nat.le_refl _) (.cells #[.slice x_z n_z c_z, .int .i64 xz.2.1, .int .i64 xz.2.2.1, .int .i64 xz.2.2.2] 28)
        replace C_w := Lib.hid (C_w.out.on hal)
        replace C_h := Lib.hid (C_h.out.on hal)
        replace C_o := Lib.hid (C_o.out.on hal)
        replace H_t := Lib.hid (H_t.out.on hal)
        replace H_w := Lib.hid (H_w.out.on hal)
        replace H_b := Lib.hid (H_b.out.on hal)
        replace H_h := Lib.hid (H_h.out.on hal)
        replace H_o := Lib.hid (H_o.out.on hal)
        replace H_z := Lib.hid (H_z.out.on hal)
        replace BB := Lib.hid (BB.out.trans (hal.mono BB.out.size))
        have C_z := Lib.hid (Ret.Blk.new' (w := w14) #[.slice x_z n_z c_z, .int .i64 xz.2.1, .int .i64 xz.2.2.1, .int .i64 xz.2.2.2] 28 (n := w14.heap.size) (by first | rfl | simp)); clear hal
        have c0_w : (w14.alloc (.cells #[.slice x_z n_z c_z, .int .i64 xz.2.1, .int .i64 xz.2.2.1, .int .i64 xz.2.2.2] 28)).cell? ⟨w1.heap.size, 0, none⟩ = some (.slice x_w n_w c_w) := C_w.out.cell 0
        have c1_w : (w14.alloc (.cells #[.slice x_z n_z c_z, .int .i64 xz.2.1, .int .i64 xz.2.2.1, .int .i64 xz.2.2.2] 28)).cell? ⟨w1.heap.size, 1, none⟩ = some (.int .i64 xw.2.1) := C_w.out.cell 1
        have c2_w : (w14.alloc (.cells #[.slice x_z n_z c_z, .int .i64 xz.2.1, .int .i64 xz.2.2.1, .int .i64 xz.2.2.2] 28)).cell? ⟨w1.heap.size, 2, none⟩ = some (.int .i64 xw.2.2.1) := C_w.out.cell 2
        have c3_w : (w14.alloc (.cells #[.slice x_z n_z c_z, .int .i64 xz.2.1, .int .i64 xz.2.2.1, .int .i64 xz.2.2.2] 28)).cell? ⟨w1.heap.size, 3, none⟩ = some (.int .i64 xw.2.2.2) := C_w.out.cell 3
        go_wp2_with fail
        clear c0_w c1_w c2_w c3_w
        have hen := Row.dcW_enc xw
        rw [← HEB.out] at hen
        cases z with
        | false =>
          rw [if_neg (by rw [HZ.out]; simp)] at hen
          obtain rfl : back = false := by rw [HBK.out, hen]
          clear hen
          refine (Row.iValWV false HZ.out H_w.out (by omega)).mono ?_
          rintro e w15 ⟨rfl, hb⟩
          replace C_w := Lib.hid (C_w.out.on hb)
          replace C_h := Lib.hid (C_h.out.on hb)
          replace C_o := Lib.hid (C_o.out.on hb)
          replace C_z := Lib.hid (C_z.out.on hb)
          replace H_t := Lib.hid (H_t.out.on hb)
          replace H_w := Lib.hid (H_w.out.on hb)
          replace H_b := Lib.hid (H_b.out.on hb)
          replace H_h := Lib.hid (H_h.out.on hb)
          replace H_o := Lib.hid (H_o.out.on hb)
          replace H_z := Lib.hid (H_z.out.on hb)
          replace BB := Lib.hid (BB.out.trans (hb.mono BB.out.size))
          clear hb
          cases left with
          | false =>
            go_wp2_with fail
            go_ret
            exact ⟨rfl, BB.out⟩
          | true =>
            obtain ⟨g1, g2⟩ := Row.decW_less HLF.out.symm
            rw [← HXO.out] at g1
            have hw : IntKind.i64.wrap (xh.2.2.1 - 1) = xh.2.2.1 - 1 := by have := HFH.out; rw [IntKind.wrap_i64]; omega
            have co : w15.cell? ⟨w12.heap.size, 2, none⟩ = some (.int .i64 (xh.2.2.1 - 1)) := by rw [← g1]; exact C_o.out.cell 2
            have ch : w15.cell? ⟨w11.heap.size, 2, none⟩ = some (.int .i64 xh.2.2.1) := C_h.out.cell 2
            have g3 : 1 ≤ xh.2.2.1 := by omega
            clear g1
            go_wp2_with fail
            go_ret
            exact ⟨rfl, BB.out⟩
        | true =>
          rw [if_pos HZ.out] at hen
          obtain rfl : back = true := by rw [HBK.out, hen]
          obtain rfl : xw = xz := by rw [HXZ.out, hen]
          clear hen
          refine (Row.iValWV true HZ.out H_w.out (by omega)).mono ?_
          rintro e w16 ⟨rfl, hb⟩
          replace C_w := Lib.hid (C_w.out.on hb)
          replace C_h := Lib.hid (C_h.out.on hb)
          replace C_o := Lib.hid (C_o.out.on hb)
          replace C_z := Lib.hid (C_z.out.on hb)
          replace H_t := Lib.hid (H_t.out.on hb)
          replace H_w := Lib.hid (H_w.out.on hb)
          replace H_b := Lib.hid (H_b.out.on hb)
          replace H_h := Lib.hid (H_h.out.on hb)
          replace H_o := Lib.hid (H_o.out.on hb)
          replace H_z := Lib.hid (H_z.out.on hb)
          replace BB := Lib.hid (BB.out.trans (hb.mono BB.out.size))
          clear hb
          have c0_w : w16.cell? ⟨w1.heap.size, 0, none⟩ = some (.slice x_w n_w c_w) := C_w.out.cell 0
          have c1_w : w16.cell? ⟨w1.heap.size, 1, none⟩ = some (.int .i64 xw.2.1) := C_w.out.cell 1
          have c2_w : w16.cell? ⟨w1.heap.size, 2, none⟩ = some (.int .i64 xw.2.2.1) := C_w.out.cell 2
          have c3_w : w16.cell? ⟨w1.heap.size, 3, none⟩ = some (.int .i64 xw.2.2.2) := C_w.out.cell 3
          have c0_z : w16.cell? ⟨w14.heap.size, 0, none⟩ = some (.slice x_z n_z c_z) := C_z.out.cell 0
          have c1_z : w16.cell? ⟨w14.heap.size, 1, none⟩ = some (.int .i64 xw.2.1) := C_z.out.cell 1
          have c2_z : w16.cell? ⟨w14.heap.size, 2, none⟩ = some (.int .i64 xw.2.2.1) := C_z.out.cell 2
          have c3_z : w16.cell? ⟨w14.heap.size, 3, none⟩ = some (.int .i64 xw.2.2.2) := C_z.out.cell 3
          go_wp2_with fail
          clear c0_w c1_w c2_w c3_w c0_z c1_z c2_z c3_z
          refine (Row.sameWV true (Row.eqW_self _) H_z.out H_w.out (by omega) (by omega)).mono ?_
          rintro e w17 ⟨rfl, hb⟩
          replace C_w := Lib.hid (C_w.out.on hb)
          replace C_h := Lib.hid (C_h.out.on hb)
          replace C_o := Lib.hid (C_o.out.on hb)
          replace C_z := Lib.hid (C_z.out.on hb)
          replace H_t := Lib.hid (H_t.out.on hb)
          replace H_w := Lib.hid (H_w.out.on hb)
          replace H_b := Lib.hid (H_b.out.on hb)
          replace H_h := Lib.hid (H_h.out.on hb)
          replace H_o := Lib.hid (H_o.out.on hb)
          replace H_z := Lib.hid (H_z.out.on hb)
          replace BB := Lib.hid (BB.out.trans (hb.mono BB.out.size))
          clear hb
          cases left with
          | false =>
            go_wp2_with fail
            go_ret
            exact ⟨rfl, BB.out⟩
          | true =>
            obtain ⟨g1, g2⟩ := Row.decW_less HLF.out.symm
            rw [← HXO.out] at g1
            have hw : IntKind.i64.wrap (xh.2.2.1 - 1) = xh.2.2.1 - 1 := by have := HFH.out; rw [IntKind.wrap_i64]; omega
            have co : w17.cell? ⟨w12.heap.size, 2, none⟩ = some (.int .i64 (xh.2.2.1 - 1)) := by rw [← g1]; exact C_o.out.cell 2
            have ch : w17.cell? ⟨w11.heap.size, 2, none⟩ = some (.int .i64 xh.2.2.1) := C_h.out.cell 2
            have g3 : 1 ≤ xh.2.2.1 := by omega
            clear g1
            go_wp2_with fail
            go_ret
            exact ⟨rfl, BB.out⟩
      | true =>
        obtain ⟨j1, j2, j3, j4⟩ := Row.rdN_back HYQ.out HMAY.out.symm
        rw [← HNJ.out] at j2 j3 j4
        rw [← HLM.out] at j4
        obtain ⟨ii, rfl⟩ := Int.eq_ofNat_of_zero_le j1
        obtain ⟨jj, rfl⟩ := Int.eq_ofNat_of_zero_le (show 0 ≤ nj by omega)
        simp only [Int.toNat_natCast] at j4
        have HA := Lib.hid j4; clear j4
        obtain ⟨e_q, c_qq⟩ := Row.kB_len H_q.out
        have m1 : (ii : Int) ≤ (c_q : Int) := by omega
        have m2 : (jj : Int) ≤ (c_q : Int) := by omega
        have m3 : ii ≤ n_q := by omega
        have m4 : jj ≤ n_q := by omega
        have m5 : Row.bulk lm ≤ 1000 := by rw [HLM.out]; exact Row.rdN_bulk HMAY.out.symm
        clear e_q c_qq j1 j2 j3
        refine Row.regX7_01 (Lib.hid (C_m.out.cell 0)) H_m H_q HA m1 m2 m3 m4 m5 (by omega) ?_
        intro u164 u165 u166 u167 u168 u169 u170 u171 u172 u173 u174 u175 u176 u177 u178 u179 u180 u181 u182 u183 u184 u185 u186 u187 u188 u189 u190 wy hb
        replace C_w := Lib.hid (C_w.out.on hb)
        replace C_x := Lib.hid (C_x.out.on hb)
        replace C_m := Lib.hid (C_m.out.on hb)
        replace C_h := Lib.hid (C_h.out.on hb)
        replace C_o := Lib.hid (C_o.out.on hb)
        replace H_t := Lib.hid (H_t.out.on hb)
        replace H_w := Lib.hid (H_w.out.on hb)
        replace H_b := Lib.hid (H_b.out.on hb)
        replace H_c := Lib.hid (H_c.out.on hb)
        replace H_x := Lib.hid (H_x.out.on hb)
        replace H_q := Lib.hid (H_q.out.on hb)
        replace H_m := Lib.hid (H_m.out.on hb)
        replace H_h := Lib.hid (H_h.out.on hb)
        replace H_o := Lib.hid (H_o.out.on hb)
        replace BB := Lib.hid (BB.out.trans (hb.mono BB.out.size))
        clear hb
        clear H_x
        clear C_x
        clear H_m
        clear C_m
        clear H_c
        clear H_q
        clear m1 m2 m3 m4 m5
        go_wp2_with fail
        obtain ⟨xz, h_xz⟩ : ∃ z, z = (Row.dcW eb).1 := ⟨_, rfl⟩
        have HXZ := Lib.hid h_xz; clear h_xz
        obtain ⟨back, h_back⟩ : ∃ z, z = (Row.dcW eb).2 := ⟨_, rfl⟩
        have HBK := Lib.hid h_back; clear h_back
        refine (Row.implDecodeInterestK _ eb _ H_b.out (by rw [HEB.out]; exact Draw.wbyt_W xw) (by omega)).mono ?_
        rintro e w18 ⟨U_z, rfl, ho_z, hb⟩
        rw [← HXZ.out] at ho_z
        rw [← HBK.out]
        obtain ⟨x_z, n_z, c_z, rfl, ho_z⟩ := Row.kW_shape ho_z
        replace C_w := Lib.hid (C_w.out.on hb)
        replace C_h := Lib.hid (C_h.out.on hb)
        replace C_o := Lib.hid (C_o.out.on hb)
        replace H_t := Lib.hid (H_t.out.on hb)
        replace H_w := Lib.hid (H_w.out.on hb)
        replace H_b := Lib.hid (H_b.out.on hb)
        replace H_h := Lib.hid (H_h.out.on hb)
        replace H_o := Lib.hid (H_o.out.on hb)
        replace BB := Lib.hid (BB.out.trans (hb.mono BB.out.size))
        clear hb
        have H_z := Lib.hid ho_z.at; clear ho_z
        have hal := (Below.refl (w18).heap.size (w18)).alloc (Nat.le_refl _) (.cells #[.slice x_z n_z c_z, .int .i64 xz.2.1, .int .i64 xz.2.2.1, .int .i64 xz.2.2.2] 28)
        replace C_w := Lib.hid (C_w.out.on hal)
        replace C_h := Lib.hid (C_h.out.on hal)
        replace C_o := Lib.hid (C_o.out.on hal)
        replace H_t := Lib.hid (H_t.out.on hal)
        replace H_w := Lib.hid (H_w.out.on hal)
        replace H_b := Lib.hid (H_b.out.on hal)
        replace H_h := Lib.hid (H_h.out.on hal)
        replace H_o := Lib.hid (H_o.out.on hal)
        replace H_z := Lib.hid (H_z.out.on hal)
        replace BB := Lib.hid (BB.out.trans (hal.mono BB.out.size))
        have C_z := Lib.hid (Ret.Blk.new' (w := w18) #[.slice x_z n_z c_z, .int .i64 xz.2.1, .int .i64 xz.2.2.1, .int .i64 xz.2.2.2] 28 (n := w18.heap.size) (by first | rfl | simp)); clear hal
        have c0_w : (w18.alloc (.cells #[.slice x_z n_z c_z, .int .i64 xz.2.1, .int .i64 xz.2.2.1, .int .i64 xz.2.2.2] 28)).cell? ⟨w1.heap.size, 0, none⟩ = some (.slice x_w n_w c_w) := C_w.out.cell 0
        have c1_w : (w18.alloc (.cells #[.slice x_z n_z c_z, .int .i64 xz.2.1, .int .i64 xz.2.2.1, .int .i64 xz.2.2.2] 28)).cell? ⟨w1.heap.size, 1, none⟩ = some (.int .i64 xw.2.1) := C_w.out.cell 1
        have c2_w : (w18.alloc (.cells #[.slice x_z n_z c_z, .int .i64 xz.2.1, .int .i64 xz.2.2.1, .int .i64 xz.2.2.2] 28)).cell? ⟨w1.heap.size, 2, none⟩ = some (.int .i64 xw.2.2.1) := C_w.out.cell 2
        have c3_w : (w18.alloc (.cells #[.slice x_z n_z c_z, .int .i64 xz.2.1, .int .i64 xz.2.2.1, .int .i64 xz.2.2.2] 28)).cell? ⟨w1.heap.size, 3, none⟩ = some (.int .i64 xw.2.2.2) := C_w.out.cell 3
        go_wp2_with fail
        clear c0_w c1_w c2_w c3_w
        have hen := Row.dcW_enc xw
        rw [← HEB.out] at hen
        cases z with
        | false =>
          rw [if_neg (by rw [HZ.out]; simp)] at hen
          obtain rfl : back = false := by rw [HBK.out, hen]
          clear hen
          refine (Row.iValWV false HZ.out H_w.out (by omega)).mono ?_
          rintro e w19 ⟨rfl, hb⟩
          replace C_w := Lib.hid (C_w.out.on hb)
          replace C_h := Lib.hid (C_h.out.on hb)
          replace C_o := Lib.hid (C_o.out.on hb)
          replace C_z := Lib.hid (C_z.out.on hb)
          replace H_t := Lib.hid (H_t.out.on hb)
          replace H_w := Lib.hid (H_w.out.on hb)
          replace H_b := Lib.hid (H_b.out.on hb)
          replace H_h := Lib.hid (H_h.out.on hb)
          replace H_o := Lib.hid (H_o.out.on hb)
          replace H_z := Lib.hid (H_z.out.on hb)
          replace BB := Lib.hid (BB.out.trans (hb.mono BB.out.size))
          clear hb
          cases left with
          | false =>
            go_wp2_with fail
            go_ret
            exact ⟨rfl, BB.out⟩
          | true =>
            obtain ⟨g1, g2⟩ := Row.decW_less HLF.out.symm
            rw [← HXO.out] at g1
            have hw : IntKind.i64.wrap (xh.2.2.1 - 1) = xh.2.2.1 - 1 := by have := HFH.out; rw [IntKind.wrap_i64]; omega
            have co : w19.cell? ⟨w12.heap.size, 2, none⟩ = some (.int .i64 (xh.2.2.1 - 1)) := by rw [← g1]; exact C_o.out.cell 2
            have ch : w19.cell? ⟨w11.heap.size, 2, none⟩ = some (.int .i64 xh.2.2.1) := C_h.out.cell 2
            have g3 : 1 ≤ xh.2.2.1 := by omega
            clear g1
            go_wp2_with fail
            go_ret
            exact ⟨rfl, BB.out⟩
        | true =>
          rw [if_pos HZ.out] at hen
          obtain rfl : back = true := by rw [HBK.out, hen]
          obtain rfl : xw = xz := by rw [HXZ.out, hen]
          clear hen
          refine (Row.iValWV true HZ.out H_w.out (by omega)).mono ?_
          rintro e w20 ⟨rfl, hb⟩
          replace C_w := Lib.hid (C_w.out.on hb)
          replace C_h := Lib.hid (C_h.out.on hb)
          replace C_o := Lib.hid (C_o.out.on hb)
          replace C_z := Lib.hid (C_z.out.on hb)
          replace H_t := Lib.hid (H_t.out.on hb)
          replace H_w := Lib.hid (H_w.out.on hb)
          replace H_b := Lib.hid (H_b.out.on hb)
          replace H_h := Lib.hid (H_h.out.on hb)
          replace H_o := Lib.hid (H_o.out.on hb)
          replace H_z := Lib.hid (H_z.out.on hb)
          replace BB := Lib.hid (BB.out.trans (hb.mono BB.out.size))
          clear hb
          have c0_w : w20.cell? ⟨w1.heap.size, 0, none⟩ = some (.slice x_w n_w c_w) := C_w.out.cell 0
          have c1_w : w20.cell? ⟨w1.heap.size, 1, none⟩ = some (.int .i64 xw.2.1) := C_w.out.cell 1
          have c2_w : w20.cell? ⟨w1.heap.size, 2, none⟩ = some (.int .i64 xw.2.2.1) := C_w.out.cell 2
          have c3_w : w20.cell? ⟨w1.heap.size, 3, none⟩ = some (.int .i64 xw.2.2.2) := C_w.out.cell 3
          have c0_z : w20.cell? ⟨w18.heap.size, 0, none⟩ = some (.slice x_z n_z c_z) := C_z.out.cell 0
          have c1_z : w20.cell? ⟨w18.heap.size, 1, none⟩ = some (.int .i64 xw.2.1) := C_z.out.cell 1
          have c2_z : w20.cell? ⟨w18.heap.size, 2, none⟩ = some (.int .i64 xw.2.2.1) := C_z.out.cell 2
          have c3_z : w20.cell? ⟨w18.heap.size, 3, none⟩ = some (.int .i64 xw.2.2.2) := C_z.out.cell 3
          go_wp2_with fail
          clear c0_w c1_w c2_w c3_w c0_z c1_z c2_z c3_z
          refine (Row.sameWV true (Row.eqW_self _) H_z.out H_w.out (by omega) (by omega)).mono ?_
          rintro e w21 ⟨rfl, hb⟩
          replace C_w := Lib.hid (C_w.out.on hb)
          replace C_h := Lib.hid (C_h.out.on hb)
          replace C_o := Lib.hid (C_o.out.on hb)
          replace C_z := Lib.hid (C_z.out.on hb)
          replace H_t := Lib.hid (H_t.out.on hb)
          replace H_w := Lib.hid (H_w.out.on hb)
          replace H_b := Lib.hid (H_b.out.on hb)
          replace H_h := Lib.hid (H_h.out.on hb)
          replace H_o := Lib.hid (H_o.out.on hb)
          replace H_z := Lib.hid (H_z.out.on hb)
          replace BB := Lib.hid (BB.out.trans (hb.mono BB.out.size))
          clear hb
          cases left with
          | false =>
            go_wp2_with fail
            go_ret
            exact ⟨rfl, BB.out⟩
          | true =>
            obtain ⟨g1, g2⟩ := Row.decW_less HLF.out.symm
            rw [← HXO.out] at g1
            have hw : IntKind.i64.wrap (xh.2.2.1 - 1) = xh.2.2.1 - 1 := by have := HFH.out; rw [IntKind.wrap_i64]; omega
            have co : w21.cell? ⟨w12.heap.size, 2, none⟩ = some (.int .i64 (xh.2.2.1 - 1)) := by rw [← g1]; exact C_o.out.cell 2
            have ch : w21.cell? ⟨w11.heap.size, 2, none⟩ = some (.int .i64 xh.2.2.1) := C_h.out.cell 2
            have g3 : 1 ≤ xh.2.2.1 := by omega
            clear g1
            go_wp2_with fail
            go_ret
            exact ⟨rfl, BB.out⟩
    | true =>
      cases may with
      | false =>
        obtain ⟨v1, v2⟩ := Row.dcW_back HYC.out HOK.out.symm
        rw [← HXX.out] at v1 v2
        have HV := Lib.hid v1; have HE := Lib.hid v2; clear v1 v2
        refine Row.regX7_10 (Lib.hid (C_x.out.cell 0)) (Lib.hid (C_x.out.cell 1)) (Lib.hid (C_x.out.cell 2)) (Lib.hid (C_x.out.cell 3)) H_x H_c HV HE b_x (by omega) ?_
        intro u164 u165 u166 u167 u168 u169 u170 u171 u172 u173 u174 u175 u176 u177 u178 u179 u180 u181 u182 u183 u184 u185 u186 u187 u188 u189 u190 wy hb
        replace C_w := Lib.hid (C_w.out.on hb)
        replace C_x := Lib.hid (C_x.out.on hb)
        replace C_m := Lib.hid (C_m.out.on hb)
        replace C_h := Lib.hid (C_h.out.on hb)
        replace C_o := Lib.hid (C_o.out.on hb)
        replace H_t := Lib.hid (H_t.out.on hb)
        replace H_w := Lib.hid (H_w.out.on hb)
        replace H_b := Lib.hid (H_b.out.on hb)
        replace H_c := Lib.hid (H_c.out.on hb)
        replace H_x := Lib.hid (H_x.out.on hb)
        replace H_q := Lib.hid (H_q.out.on hb)
        replace H_m := Lib.hid (H_m.out.on hb)
        replace H_h := Lib.hid (H_h.out.on hb)
        replace H_o := Lib.hid (H_o.out.on hb)
        replace BB := Lib.hid (BB.out.trans (hb.mono BB.out.size))
        clear hb
        clear H_x
        clear C_x
        clear H_m
        clear C_m
        clear H_c
        clear H_q
        go_wp2_with fail
        obtain ⟨xz, h_xz⟩ : ∃ z, z = (Row.dcW eb).1 := ⟨_, rfl⟩
        have HXZ := Lib.hid h_xz; clear h_xz
        obtain ⟨back, h_back⟩ : ∃ z, z = (Row.dcW eb).2 := ⟨_, rfl⟩
        have HBK := Lib.hid h_back; clear h_back
        refine (Row.implDecodeInterestK _ eb _ H_b.out (by rw [HEB.out]; exact Draw.wbyt_W xw) (by omega)).mono ?_
        rintro e w22 ⟨U_z, rfl, ho_z, hb⟩
        rw [← HXZ.out] at ho_z
        rw [← HBK.out]
        obtain ⟨x_z, n_z, c_z, rfl, ho_z⟩ := Row.kW_shape ho_z
        replace C_w := Lib.hid (C_w.out.on hb)
        replace C_h := Lib.hid (C_h.out.on hb)
        replace C_o := Lib.hid (C_o.out.on hb)
        replace H_t := Lib.hid (H_t.out.on hb)
        replace H_w := Lib.hid (H_w.out.on hb)
        replace H_b := Lib.hid (H_b.out.on hb)
        replace H_h := Lib.hid (H_h.out.on hb)
        replace H_o := Lib.hid (H_o.out.on hb)
        replace BB := Lib.hid (BB.out.trans (hb.mono BB.out.size))
        clear hb
        have H_z := Lib.hid ho_z.at; clear ho_z
        have hal := (Below.refl (w22).heap.size (w22)).alloc (Nat.le_refl _) (.cells #[.slice x_z n_z c_z, .int .i64 xz.2.1, .int .i64 xz.2.2.1, .int .i64 xz.2.2.2] 28)
        replace C_w := Lib.hid (C_w.out.on hal)
        replace C_h := Lib.hid (C_h.out.on hal)
        replace C_o := Lib.hid (C_o.out.on hal)
        replace H_t := Lib.hid (H_t.out.on hal)
        replace H_w := Lib.hid (H_w.out.on hal)
        replace H_b := Lib.hid (H_b.out.on hal)
        replace H_h := Lib.hid (H_h.out.on hal)
        replace H_o := Lib.hid (H_o.out.on hal)
        replace H_z := Lib.hid (H_z.out.on hal)
        replace BB := Lib.hid (BB.out.trans (hal.mono BB.out.size))
        have C_z := Lib.hid (Ret.Blk.new' (w := w22) #[.slice x_z n_z c_z, .int .i64 xz.2.1, .int .i64 xz.2.2.1, .int .i64 xz.2.2.2] 28 (n := w22.heap.size) (by first | rfl | simp)); clear hal
        have c0_w : (w22.alloc (.cells #[.slice x_z n_z c_z, .int .i64 xz.2.1, .int .i64 xz.2.2.1, .int .i64 xz.2.2.2] 28)).cell? ⟨w1.heap.size, 0, none⟩ = some (.slice x_w n_w c_w) := C_w.out.cell 0
        have c1_w : (w22.alloc (.cells #[.slice x_z n_z c_z, .int .i64 xz.2.1, .int .i64 xz.2.2.1, .int .i64 xz.2.2.2] 28)).cell? ⟨w1.heap.size, 1, none⟩ = some (.int .i64 xw.2.1) := C_w.out.cell 1
        have c2_w : (w22.alloc (.cells #[.slice x_z n_z c_z, .int .i64 xz.2.1, .int .i64 xz.2.2.1, .int .i64 xz.2.2.2] 28)).cell? ⟨w1.heap.size, 2, none⟩ = some (.int .i64 xw.2.2.1) := C_w.out.cell 2
        have c3_w : (w22.alloc (.cells #[.slice x_z n_z c_z, .int .i64 xz.2.1, .int .i64 xz.2.2.1, .int .i64 xz.2.2.2] 28)).cell? ⟨w1.heap.size, 3, none⟩ = some (.int .i64 xw.2.2.2) := C_w.out.cell 3
        go_wp2_with fail
        clear c0_w c1_w c2_w c3_w
        have hen := Row.dcW_enc xw
        rw [← HEB.out] at hen
        cases z with
        | false =>
          rw [if_neg (by rw [HZ.out]; simp)] at hen
          obtain rfl : back = false := by rw [HBK.out, hen]
          clear hen
          refine (Row.iValWV false HZ.out H_w.out (by omega)).mono ?_
          rintro e w23 ⟨rfl, hb⟩
          replace C_w := Lib.hid (C_w.out.on hb)
          replace C_h := Lib.hid (C_h.out.on hb)
          replace C_o := Lib.hid (C_o.out.on hb)
          replace C_z := Lib.hid (C_z.out.on hb)
          replace H_t := Lib.hid (H_t.out.on hb)
          replace H_w := Lib.hid (H_w.out.on hb)
          replace H_b := Lib.hid (H_b.out.on hb)
          replace H_h := Lib.hid (H_h.out.on hb)
          replace H_o := Lib.hid (H_o.out.on hb)
          replace H_z := Lib.hid (H_z.out.on hb)
          replace BB := Lib.hid (BB.out.trans (hb.mono BB.out.size))
          clear hb
          cases left with
          | false =>
            go_wp2_with fail
            go_ret
            exact ⟨rfl, BB.out⟩
          | true =>
            obtain ⟨g1, g2⟩ := Row.decW_less HLF.out.symm
            rw [← HXO.out] at g1
            have hw : IntKind.i64.wrap (xh.2.2.1 - 1) = xh.2.2.1 - 1 := by have := HFH.out; rw [IntKind.wrap_i64]; omega
            have co : w23.cell? ⟨w12.heap.size, 2, none⟩ = some (.int .i64 (xh.2.2.1 - 1)) := by rw [← g1]; exact C_o.out.cell 2
            have ch : w23.cell? ⟨w11.heap.size, 2, none⟩ = some (.int .i64 xh.2.2.1) := C_h.out.cell 2
            have g3 : 1 ≤ xh.2.2.1 := by omega
            clear g1
            go_wp2_with fail
            go_ret
            exact ⟨rfl, BB.out⟩
        | true =>
          rw [if_pos HZ.out] at hen
          obtain rfl : back = true := by rw [HBK.out, hen]
          obtain rfl : xw = xz := by rw [HXZ.out, hen]
          clear hen
          refine (Row.iValWV true HZ.out H_w.out (by omega)).mono ?_
          rintro e w24 ⟨rfl, hb⟩
          replace C_w := Lib.hid (C_w.out.on hb)
          replace C_h := Lib.hid (C_h.out.on hb)
          replace C_o := Lib.hid (C_o.out.on hb)
          replace C_z := Lib.hid (C_z.out.on hb)
          replace H_t := Lib.hid (H_t.out.on hb)
          replace H_w := Lib.hid (H_w.out.on hb)
          replace H_b := Lib.hid (H_b.out.on hb)
          replace H_h := Lib.hid (H_h.out.on hb)
          replace H_o := Lib.hid (H_o.out.on hb)
          replace H_z := Lib.hid (H_z.out.on hb)
          replace BB := Lib.hid (BB.out.trans (hb.mono BB.out.size))
          clear hb
          have c0_w : w24.cell? ⟨w1.heap.size, 0, none⟩ = some (.slice x_w n_w c_w) := C_w.out.cell 0
          have c1_w : w24.cell? ⟨w1.heap.size, 1, none⟩ = some (.int .i64 xw.2.1) := C_w.out.cell 1
          have c2_w : w24.cell? ⟨w1.heap.size, 2, none⟩ = some (.int .i64 xw.2.2.1) := C_w.out.cell 2
          have c3_w : w24.cell? ⟨w1.heap.size, 3, none⟩ = some (.int .i64 xw.2.2.2) := C_w.out.cell 3
          have c0_z : w24.cell? ⟨w22.heap.size, 0, none⟩ = some (.slice x_z n_z c_z) := C_z.out.cell 0
          have c1_z : w24.cell? ⟨w22.heap.size, 1, none⟩ = some (.int .i64 xw.2.1) := C_z.out.cell 1
          have c2_z : w24.cell? ⟨w22.heap.size, 2, none⟩ = some (.int .i64 xw.2.2.1) := C_z.out.cell 2
          have c3_z : w24.cell? ⟨w22.heap.size, 3, none⟩ = some (.int .i64 xw.2.2.2) := C_z.out.cell 3
          go_wp2_with fail
          clear c0_w c1_w c2_w c3_w c0_z c1_z c2_z c3_z
          refine (Row.sameWV true (Row.eqW_self _) H_z.out H_w.out (by omega) (by omega)).mono ?_
          rintro e w25 ⟨rfl, hb⟩
          replace C_w := Lib.hid (C_w.out.on hb)
          replace C_h := Lib.hid (C_h.out.on hb)
          replace C_o := Lib.hid (C_o.out.on hb)
          replace C_z := Lib.hid (C_z.out.on hb)
          replace H_t := Lib.hid (H_t.out.on hb)
          replace H_w := Lib.hid (H_w.out.on hb)
          replace H_b := Lib.hid (H_b.out.on hb)
          replace H_h := Lib.hid (H_h.out.on hb)
          replace H_o := Lib.hid (H_o.out.on hb)
          replace H_z := Lib.hid (H_z.out.on hb)
          replace BB := Lib.hid (BB.out.trans (hb.mono BB.out.size))
          clear hb
          cases left with
          | false =>
            go_wp2_with fail
            go_ret
            exact ⟨rfl, BB.out⟩
          | true =>
            obtain ⟨g1, g2⟩ := Row.decW_less HLF.out.symm
            rw [← HXO.out] at g1
            have hw : IntKind.i64.wrap (xh.2.2.1 - 1) = xh.2.2.1 - 1 := by have := HFH.out; rw [IntKind.wrap_i64]; omega
            have co : w25.cell? ⟨w12.heap.size, 2, none⟩ = some (.int .i64 (xh.2.2.1 - 1)) := by rw [← g1]; exact C_o.out.cell 2
            have ch : w25.cell? ⟨w11.heap.size, 2, none⟩ = some (.int .i64 xh.2.2.1) := C_h.out.cell 2
            have g3 : 1 ≤ xh.2.2.1 := by omega
            clear g1
            go_wp2_with fail
            go_ret
            exact ⟨rfl, BB.out⟩
      | true =>
        obtain ⟨v1, v2⟩ := Row.dcW_back HYC.out HOK.out.symm
        rw [← HXX.out] at v1 v2
        have HV := Lib.hid v1; have HE := Lib.hid v2; clear v1 v2
        obtain ⟨j1, j2, j3, j4⟩ := Row.rdN_back HYQ.out HMAY.out.symm
        rw [← HNJ.out] at j2 j3 j4
        rw [← HLM.out] at j4
        obtain ⟨ii, rfl⟩ := Int.eq_ofNat_of_zero_le j1
        obtain ⟨jj, rfl⟩ := Int.eq_ofNat_of_zero_le (show 0 ≤ nj by omega)
        simp only [Int.toNat_natCast] at j4
        have HA := Lib.hid j4; clear j4
        obtain ⟨e_q, c_qq⟩ := Row.kB_len H_q.out
        have m1 : (ii : Int) ≤ (c_q : Int) := by omega
        have m2 : (jj : Int) ≤ (c_q : Int) := by omega
        have m3 : ii ≤ n_q := by omega
        have m4 : jj ≤ n_q := by omega
        have m5 : Row.bulk lm ≤ 1000 := by rw [HLM.out]; exact Row.rdN_bulk HMAY.out.symm
        clear e_q c_qq j1 j2 j3
        refine Row.regX7_11 (Lib.hid (C_x.out.cell 0)) (Lib.hid (C_x.out.cell 1)) (Lib.hid (C_x.out.cell 2)) (Lib.hid (C_x.out.cell 3)) H_x H_c HV HE b_x (by omega) (Lib.hid (C_m.out.cell 0)) H_m H_q HA m1 m2 m3 m4 m5 (by omega) ?_
        intro u164 u165 u166 u167 u168 u169 u170 u171 u172 u173 u174 u175 u176 u177 u178 u179 u180 u181 u182 u183 u184 u185 u186 u187 u188 u189 u190 wy hb
        replace C_w := Lib.hid (C_w.out.on hb)
        replace C_x := Lib.hid (C_x.out.on hb)
        replace C_m := Lib.hid (C_m.out.on hb)
        replace C_h := Lib.hid (C_h.out.on hb)
        replace C_o := Lib.hid (C_o.out.on hb)
        replace H_t := Lib.hid (H_t.out.on hb)
        replace H_w := Lib.hid (H_w.out.on hb)
        replace H_b := Lib.hid (H_b.out.on hb)
        replace H_c := Lib.hid (H_c.out.on hb)
        replace H_x := Lib.hid (H_x.out.on hb)
        replace H_q := Lib.hid (H_q.out.on hb)
        replace H_m := Lib.hid (H_m.out.on hb)
        replace H_h := Lib.hid (H_h.out.on hb)
        replace H_o := Lib.hid (H_o.out.on hb)
        replace BB := Lib.hid (BB.out.trans (hb.mono BB.out.size))
        clear hb
        clear H_x
        clear C_x
        clear H_m
        clear C_m
        clear H_c
        clear H_q
        clear m1 m2 m3 m4 m5
        go_wp2_with fail
        obtain ⟨xz, h_xz⟩ : ∃ z, z = (Row.dcW eb).1 := ⟨_, rfl⟩
        have HXZ := Lib.hid h_xz; clear h_xz
        obtain ⟨back, h_back⟩ : ∃ z, z = (Row.dcW eb).2 := ⟨_, rfl⟩
        have HBK := Lib.hid h_back; clear h_back
        refine (Row.implDecodeInterestK _ eb _ H_b.out (by rw [HEB.out]; exact Draw.wbyt_W xw) (by omega)).mono ?_
        rintro e w26 ⟨U_z, rfl, ho_z, hb⟩
        rw [← HXZ.out] at ho_z
        rw [← HBK.out]
        obtain ⟨x_z, n_z, c_z, rfl, ho_z⟩ := Row.kW_shape ho_z
        replace C_w := Lib.hid (C_w.out.on hb)
        replace C_h := Lib.hid (C_h.out.on hb)
        replace C_o := Lib.hid (C_o.out.on hb)
        replace H_t := Lib.hid (H_t.out.on hb)
        replace H_w := Lib.hid (H_w.out.on hb)
        replace H_b := Lib.hid (H_b.out.on hb)
        replace H_h := Lib.hid (H_h.out.on hb)
        replace H_o := Lib.hid (H_o.out.on hb)
        replace BB := Lib.hid (BB.out.trans (hb.mono BB.out.size))
        clear hb
        have H_z := Lib.hid ho_z.at; clear ho_z
        have hal := (Below.refl (w26).heap.size (w26)).alloc (Nat.le_refl _) (.cells #[.slice x_z n_z c_z, .int .i64 xz.2.1, .int .i64 xz.2.2.1, .int .i64 xz.2.2.2] 28)
        replace C_w := Lib.hid (C_w.out.on hal)
        replace C_h := Lib.hid (C_h.out.on hal)
        replace C_o := Lib.hid (C_o.out.on hal)
        replace H_t := Lib.hid (H_t.out.on hal)
        replace H_w := Lib.hid (H_w.out.on hal)
        replace H_b := Lib.hid (H_b.out.on hal)
        replace H_h := Lib.hid (H_h.out.on hal)
        replace H_o := Lib.hid (H_o.out.on hal)
        replace H_z := Lib.hid (H_z.out.on hal)
        replace BB := Lib.hid (BB.out.trans (hal.mono BB.out.size))
        have C_z := Lib.hid (Ret.Blk.new' (w := w26) #[.slice x_z n_z c_z, .int .i64 xz.2.1, .int .i64 xz.2.2.1, .int .i64 xz.2.2.2] 28 (n := w26.heap.size) (by first | rfl | simp)); clear hal
        have c0_w : (w26.alloc (.cells #[.slice x_z n_z c_z, .int .i64 xz.2.1, .int .i64 xz.2.2.1, .int .i64 xz.2.2.2] 28)).cell? ⟨w1.heap.size, 0, none⟩ = some (.slice x_w n_w c_w) := C_w.out.cell 0
        have c1_w : (w26.alloc (.cells #[.slice x_z n_z c_z, .int .i64 xz.2.1, .int .i64 xz.2.2.1, .int .i64 xz.2.2.2] 28)).cell? ⟨w1.heap.size, 1, none⟩ = some (.int .i64 xw.2.1) := C_w.out.cell 1
        have c2_w : (w26.alloc (.cells #[.slice x_z n_z c_z, .int .i64 xz.2.1, .int .i64 xz.2.2.1, .int .i64 xz.2.2.2] 28)).cell? ⟨w1.heap.size, 2, none⟩ = some (.int .i64 xw.2.2.1) := C_w.out.cell 2
        have c3_w : (w26.alloc (.cells #[.slice x_z n_z c_z, .int .i64 xz.2.1, .int .i64 xz.2.2.1, .int .i64 xz.2.2.2] 28)).cell? ⟨w1.heap.size, 3, none⟩ = some (.int .i64 xw.2.2.2) := C_w.out.cell 3
        go_wp2_with fail
        clear c0_w c1_w c2_w c3_w
        have hen := Row.dcW_enc xw
        rw [← HEB.out] at hen
        cases z with
        | false =>
          rw [if_neg (by rw [HZ.out]; simp)] at hen
          obtain rfl : back = false := by rw [HBK.out, hen]
          clear hen
          refine (Row.iValWV false HZ.out H_w.out (by omega)).mono ?_
          rintro e w27 ⟨rfl, hb⟩
          replace C_w := Lib.hid (C_w.out.on hb)
          replace C_h := Lib.hid (C_h.out.on hb)
          replace C_o := Lib.hid (C_o.out.on hb)
          replace C_z := Lib.hid (C_z.out.on hb)
          replace H_t := Lib.hid (H_t.out.on hb)
          replace H_w := Lib.hid (H_w.out.on hb)
          replace H_b := Lib.hid (H_b.out.on hb)
          replace H_h := Lib.hid (H_h.out.on hb)
          replace H_o := Lib.hid (H_o.out.on hb)
          replace H_z := Lib.hid (H_z.out.on hb)
          replace BB := Lib.hid (BB.out.trans (hb.mono BB.out.size))
          clear hb
          cases left with
          | false =>
            go_wp2_with fail
            go_ret
            exact ⟨rfl, BB.out⟩
          | true =>
            obtain ⟨g1, g2⟩ := Row.decW_less HLF.out.symm
            rw [← HXO.out] at g1
            have hw : IntKind.i64.wrap (xh.2.2.1 - 1) = xh.2.2.1 - 1 := by have := HFH.out; rw [IntKind.wrap_i64]; omega
            have co : w27.cell? ⟨w12.heap.size, 2, none⟩ = some (.int .i64 (xh.2.2.1 - 1)) := by rw [← g1]; exact C_o.out.cell 2
            have ch : w27.cell? ⟨w11.heap.size, 2, none⟩ = some (.int .i64 xh.2.2.1) := C_h.out.cell 2
            have g3 : 1 ≤ xh.2.2.1 := by omega
            clear g1
            go_wp2_with fail
            go_ret
            exact ⟨rfl, BB.out⟩
        | true =>
          rw [if_pos HZ.out] at hen
          obtain rfl : back = true := by rw [HBK.out, hen]
          obtain rfl : xw = xz := by rw [HXZ.out, hen]
          clear hen
          refine (Row.iValWV true HZ.out H_w.out (by omega)).mono ?_
          rintro e w28 ⟨rfl, hb⟩
          replace C_w := Lib.hid (C_w.out.on hb)
          replace C_h := Lib.hid (C_h.out.on hb)
          replace C_o := Lib.hid (C_o.out.on hb)
          replace C_z := Lib.hid (C_z.out.on hb)
          replace H_t := Lib.hid (H_t.out.on hb)
          replace H_w := Lib.hid (H_w.out.on hb)
          replace H_b := Lib.hid (H_b.out.on hb)
          replace H_h := Lib.hid (H_h.out.on hb)
          replace H_o := Lib.hid (H_o.out.on hb)
          replace H_z := Lib.hid (H_z.out.on hb)
          replace BB := Lib.hid (BB.out.trans (hb.mono BB.out.size))
          clear hb
          have c0_w : w28.cell? ⟨w1.heap.size, 0, none⟩ = some (.slice x_w n_w c_w) := C_w.out.cell 0
          have c1_w : w28.cell? ⟨w1.heap.size, 1, none⟩ = some (.int .i64 xw.2.1) := C_w.out.cell 1
          have c2_w : w28.cell? ⟨w1.heap.size, 2, none⟩ = some (.int .i64 xw.2.2.1) := C_w.out.cell 2
          have c3_w : w28.cell? ⟨w1.heap.size, 3, none⟩ = some (.int .i64 xw.2.2.2) := C_w.out.cell 3
          have c0_z : w28.cell? ⟨w26.heap.size, 0, none⟩ = some (.slice x_z n_z c_z) := C_z.out.cell 0
          have c1_z : w28.cell? ⟨w26.heap.size, 1, none⟩ = some (.int .i64 xw.2.1) := C_z.out.cell 1
          have c2_z : w28.cell? ⟨w26.heap.size, 2, none⟩ = some (.int .i64 xw.2.2.1) := C_z.out.cell 2
          have c3_z : w28.cell? ⟨w26.heap.size, 3, none⟩ = some (.int .i64 xw.2.2.2) := C_z.out.cell 3
          go_wp2_with fail
          clear c0_w c1_w c2_w c3_w c0_z c1_z c2_z c3_z
          refine (Row.sameWV true (Row.eqW_self _) H_z.out H_w.out (by omega) (by omega)).mono ?_
          rintro e w29 ⟨rfl, hb⟩
          replace C_w := Lib.hid (C_w.out.on hb)
          replace C_h := Lib.hid (C_h.out.on hb)
          replace C_o := Lib.hid (C_o.out.on hb)
          replace C_z := Lib.hid (C_z.out.on hb)
          replace H_t := Lib.hid (H_t.out.on hb)
          replace H_w := Lib.hid (H_w.out.on hb)
          replace H_b := Lib.hid (H_b.out.on hb)
          replace H_h := Lib.hid (H_h.out.on hb)
          replace H_o := Lib.hid (H_o.out.on hb)
          replace H_z := Lib.hid (H_z.out.on hb)
          replace BB := Lib.hid (BB.out.trans (hb.mono BB.out.size))
          clear hb
          cases left with
          | false =>
            go_wp2_with fail
            go_ret
            exact ⟨rfl, BB.out⟩
          | true =>
            obtain ⟨g1, g2⟩ := Row.decW_less HLF.out.symm
            rw [← HXO.out] at g1
            have hw : IntKind.i64.wrap (xh.2.2.1 - 1) = xh.2.2.1 - 1 := by have := HFH.out; rw [IntKind.wrap_i64]; omega
            have co : w29.cell? ⟨w12.heap.size, 2, none⟩ = some (.int .i64 (xh.2.2.1 - 1)) := by rw [← g1]; exact C_o.out.cell 2
            have ch : w29.cell? ⟨w11.heap.size, 2, none⟩ = some (.int .i64 xh.2.2.1) := C_h.out.cell 2
            have g3 : 1 ≤ xh.2.2.1 := by omega
            clear g1
            go_wp2_with fail
            go_ret
            exact ⟨rfl, BB.out⟩
  · obtain ⟨x, cap, rfl, -⟩ := Draw.bytes_at q0
    have hl : decide ((1048576 : Int) < (l0.length : Int)) = true := by simpa using hlen
    clear hlen q0
    obtain ⟨n0, hn0⟩ : ∃ n0, n0 = l0.length := ⟨_, rfl⟩
    rw [← hn0] at hl ⊢
    clear hn0
    go_enter Tryd.func3, Tryd.ntmps3
    go_wp2_with fail
    refine (Draw.big_yes x n0 cap w hl).mono ?_
    rintro e w' ⟨rfl, rfl⟩
    go_wp2_with fail
    go_ret
    exact ⟨rfl, Below.refl _ _⟩

/-- The heap that the initialisers' own run leaves meets the list. -/
theorem door_met (os : Os) (args : Array Value) : laidMetH Tryd.prog Rows.fnWantsRow.laid ((World.doorLaid Tryd.prog 24 os).forCall (fun _ _ => 0) ⟨#[], args, []⟩).memory :=
  laidMetH_of_parts3 (fuel := 8) (laidMet_of_run' 8 (by kernel_rfl) (by kernel_rfl)) (by kernel_rfl) (by kernel_rfl)

theorem powData : (Rows.laid_internal_strconv_uint64pow10 : DataW Unit) = Lib.tabData .u64 Lib.pow10Tab := by kernel_rfl
theorem of_laid {W : World} (h : laidMetH Tryd.prog Rows.fnWantsRow.laid W) : Text.Tab W := by
  rw [MakeChecks.laidMetH_plain _ _ _ (by kernel_rfl)] at h
  have h2 : laidMet Tryd.prog (("internal/strconv.uint64pow10", Rows.laid_internal_strconv_uint64pow10) :: _) W := h.tail.tail
  rw [powData] at h2
  exact Lib.tabIs_of_head (g := 1) (by kernel_rfl) (by kernel_rfl) Tryd.underlying122 Tryd.underlying115 (by kernel_rfl) (by kernel_rfl) h2

set_option maxRecDepth 100000 in
theorem lifted (os : Os) (started : os.Started) (H : Type) (enc : TypeId × Value → H) :
    ReturnsInHanded {} Tryd.checked os 3 .any (fun w args => (Rows.fnWantsSpec.pre enc Tryd.prog Tryd.f3 [] false w args ∧ laidMetH Tryd.prog Rows.fnWantsRow.laid w) ∧ sizedMet enc Tryd.prog Tryd.f3 (OpenSpec.ofChange Rows.fnWantsSpec) false w args)
      (Rows.fnWantsSpec.post enc Tryd.prog Tryd.f3 false true false false) := by
  refine returnsInHanded_of_change_and (C := Tryd.checked) (X := fun w _ => laidMetH Tryd.prog Rows.fnWantsRow.laid w) (fun _ _ _ hh h => h.of_heap hh) own started (by kernel_rfl) Tryd.func3
    (ChangeSpec.witness_shaped (enc := enc) (C := Tryd.checked) (os := os) (X := fun w _ => laidMetH Tryd.prog Rows.fnWantsRow.laid w) false (World.doorLaid Tryd.prog 24 os) #[.slice none 0 0] 8 rfl (World.shaped_of_RefB (by kernel_rfl) (by kernel_rfl)) (by kernel_rfl) (by kernel_rfl) (by kernel_rfl) (door_met os _)) ?_
  intro W base args ds gs before hval0 hW _ hsz0 hL _
  have hval : ∀ (j : Nat) t v, Tryd.f3.params[j]? = some t → args[j]? = some v → Value.okWide Tryd.prog W .any base t v := hval0
  have hsz : (DataW.weightsEach Tryd.prog (Tryd.f3.params.toList ++ Rows.fnWantsSpec.plain.varTypes Tryd.prog) (ds ++ gs)).all (· ≤ reachBytes) = true := hsz0
  clear hsz0
  have hW' := hW
  obtain ⟨p, q, hA0, hV, rfl, hfz, hnd⟩ := hW
  have hA : DataW.TrodAll enc Tryd.prog W 0 (fun _ => true) true Tryd.f3.params.toList args.toList ds p := hA0
  rw [Tryd.params3] at hA hval hsz
  obtain ⟨v0, vs0, d0, ds0, p0, q0, hargs, rfl, rfl, h0, r0⟩ := trodAll_cons hA
  obtain ⟨rfl, rfl, rfl⟩ := trodAll_nil r0
  obtain rfl : args = #[v0] := by cases args; simp_all
  obtain ⟨rfl, rfl⟩ := trodVars_none hV
  obtain ⟨l0, q0⟩ := Frame.open_bytes (j := 0) Tryd.underlying22 Tryd.underlying5 (by kernel_rfl) (by kernel_rfl) (hval 0 22 v0 rfl rfl) h0 hsz rfl rfl
  clear hA0 hval0
  refine (walk W _ _ q0 (of_laid hL)).mono fun e W' ⟨he, hb⟩ => ?_
  subst he
  exact ⟨_, rfl, Frame.law_post laidOut (by kernel_rfl) rfl Tryd.underlying4 rfl rfl hW' hb⟩

theorem said : Rows.FnWantsSaid :=
  OpenClaim.holds_of_wide 3 Tryd.f3 rfl rfl rfl rfl rfl rfl rfl ⟨rfl, rfl, rfl, rfl, rfl⟩ rfl rfl rfl rfl rfl (by kernel_rfl) Tryd.func3 (by kernel_rfl)
    (of_decide_eq_true (by kernel_rfl)) (by unfold Func.isWrapper; first | (rw [if_pos (by decide +kernel)]; kernel_rfl) | (rw [if_neg (by decide +kernel)]; exact ⟨rfl, rfl⟩))
    (fun os started H enc _ => lifted os started H enc)

theorem plain (f : FuncId) (fn : Func) (hf : Tryd.pinned.checked.prog.funcNamed "loop.example/g00507/laws.FnWants" = some f) (hfn : Tryd.pinned.checked.prog.funcs[f]? = some fn) :
    false = Tryd.pinned.checked.prog.looks [] ∧ ∀ (j : Nat) t, fn.params[j]? = some t → Tryd.pinned.checked.prog.wantsStandIn t = false := by
  obtain rfl : f = 3 := Option.some.inj ((show Tryd.prog.funcNamed "loop.example/g00507/laws.FnWants" = some 3 by kernel_rfl).symm.trans hf) |>.symm
  obtain rfl : fn = Tryd.f3 := (Option.some.inj (Tryd.func3.symm.trans hfn)).symm
  refine ⟨by kernel_rfl, fun j t ht => ?_⟩
  rw [Tryd.params3] at ht
  have hm : t ∈ [22] := by simpa using Array.mem_of_getElem? ht
  have hall : ([22].all fun u => !Tryd.prog.wantsStandIn u) = true := by kernel_rfl
  exact (show Tryd.prog.wantsStandIn t = false by simpa using List.all_eq_true.1 hall t hm)

/-- THE CARD. -/
theorem card : Rows.FnWantsCardSaid :=
  Claim7.holds_tied_plain_at .later [] _ _ _ _ said (fun _ h => by cases h) (by kernel_rfl) (fun _ h => by cases h) fnWants_row_tie rfl ⟨rfl, rfl⟩ (by kernel_rfl) rfl plain (by kernel_rfl)
#print axioms card
end Go.Proofs.YtnnhgcfelkcpfaaDoor.fnWants
