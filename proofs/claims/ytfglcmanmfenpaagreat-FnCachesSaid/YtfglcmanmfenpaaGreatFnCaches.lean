/- FnCaches: what was cached last is kept as long as there is room, and is found there while it is fresh. -/
import Derived.Test.YtfglcmanmfenpaaGreatRows
import Derived.WalkKit
import Derived.ProofKit
import Derived.OpenShut
import Derived.SizedLaws
import Derived.Test.YtfglcmanmfenpaaGreatB1
import Derived.Test.YtfglcmanmfenpaaGreatB28
import Derived.Test.YtfglcmanmfenpaaGreatB29
namespace Go.Proofs.YtfglcmanmfenpaaGreat.fnCaches
open Go.ChangeShapes Go.WideShapes Go.ChangeAt Go.RowKit
open Go.ChangeMaps (open_string shut_string)
set_option linter.unusedVariables false

theorem own : ownKnob Tryz.prog.godebug = none := by kernel_rfl
theorem laidOut : laidOutB Tryz.prog = true := by kernel_rfl

set_option maxRecDepth 100000 in
set_option maxHeartbeats 80000000 in
theorem walk (w : World) (y0 : Value) (l0 : List UInt8) (q0 : Frame.Bytes w y0 l0) :
    Calls Tryz.prog 3 #[y0] w fun e w' => e = .returned (.bool true) ∧ Below w.heap.size w w' := by
  by_cases hlen : (l0.length : Int) ≤ 1048576
  · obtain ⟨x, cap, rfl, -⟩ := Draw.bytes_at q0
    have hl : decide ((1048576 : Int) < (l0.length : Int)) = false := by simpa using hlen
    have Q0 := Lib.hid q0; clear q0 hlen
    obtain ⟨n0, hn0⟩ : ∃ n0, n0 = l0.length := ⟨_, rfl⟩
    rw [← hn0] at hl Q0 ⊢
    have HN0 := Lib.hid hn0; clear hn0
    have BB := Lib.hid (Below.refl w.heap.size w)
    go_enter Tryz.func3, Tryz.ntmps3
    go_wp2_with fail
    refine (Draw.big_no x n0 cap w hl).mono ?_
    rintro e w' ⟨rfl, rfl⟩
    go_wp2_with fail
    refine (Row.drCd (Q0.out.on BB.out)).mono ?_
    rintro e w1 ⟨xc, xx, now, U_c, U_x, rfl, ho_c, m_c, ho_x, b_x, i_x, ta0, ta1, hb⟩
    have s_d0 := Lib.hid (Row.smC_cache m_c i_x b_x (Row.wfC (z := now) (by omega) (by omega)))
    have s_c := Lib.hid (m_c.mono (show 15 ≤ 95 by decide)); clear m_c ta0 ta1
    have HIX := Lib.hid i_x; clear i_x
    have HBX := Lib.hid b_x; clear b_x
    obtain ⟨x_c, n_c, c_c, rfl, ho_c⟩ := Row.kCn_shapeA ho_c
    obtain ⟨x_xa, n_xa, c_xa, x_xb, n_xb, c_xb, x_xc, n_xc, c_xc, rfl, ho_x⟩ := Row.kDz_shapeA ho_x
    replace BB := Lib.hid (BB.out.trans (hb.mono BB.out.size))
    clear hb
    have H_c := Lib.hid ho_c; clear ho_c
    have H_x := Lib.hid ho_x; clear ho_x
    have hal := (Below.refl (w1).heap.size (w1)).alloc (Nat.le_refl _) (.cells #[.int .i64 xc.1, .slice x_c n_c c_c] 26)
    replace H_c := Lib.hid (H_c.out.on hal)
    replace H_x := Lib.hid (H_x.out.on hal)
    replace BB := Lib.hid (BB.out.trans (hal.mono BB.out.size))
    have C_c := Lib.hid (Ret.Blk.new' (w := w1) #[.int .i64 xc.1, .slice x_c n_c c_c] 26 (n := w1.heap.size) (by first | rfl | simp)); clear hal
    have hal := (Below.refl ((w1.alloc (.cells #[.int .i64 xc.1, .slice x_c n_c c_c] 26))).heap.size ((w1.alloc (.cells #[.int .i64 xc.1, .slice x_c n_c c_c] 26)))).alloc (Nat.le_refl _) (.cells #[.slice x_xa n_xa c_xa, .slice x_xb n_xb c_xb, .slice x_xc n_xc c_xc, .int .i64 xx.2.2.2.1, .int .i64 xx.2.2.2.2] 31)
    replace C_c := Lib.hid (C_c.out.on hal)
    replace H_c := Lib.hid (H_c.out.on hal)
    replace H_x := Lib.hid (H_x.out.on hal)
    replace BB := Lib.hid (BB.out.trans (hal.mono BB.out.size))
    have C_x := Lib.hid (Ret.Blk.new' (w := (w1.alloc (.cells #[.int .i64 xc.1, .slice x_c n_c c_c] 26))) #[.slice x_xa n_xa c_xa, .slice x_xb n_xb c_xb, .slice x_xc n_xc c_xc, .int .i64 xx.2.2.2.1, .int .i64 xx.2.2.2.2] 31 (n := w1.heap.size + 1) (by first | rfl | simp)); clear hal
    have c0_c : ((w1.alloc (.cells #[.int .i64 xc.1, .slice x_c n_c c_c] 26)).alloc (.cells #[.slice x_xa n_xa c_xa, .slice x_xb n_xb c_xb, .slice x_xc n_xc c_xc, .int .i64 xx.2.2.2.1, .int .i64 xx.2.2.2.2] 31)).cell? ⟨w1.heap.size, 0, none⟩ = some (.int .i64 xc.1) := C_c.out.cell 0
    have c1_c : ((w1.alloc (.cells #[.int .i64 xc.1, .slice x_c n_c c_c] 26)).alloc (.cells #[.slice x_xa n_xa c_xa, .slice x_xb n_xb c_xb, .slice x_xc n_xc c_xc, .int .i64 xx.2.2.2.1, .int .i64 xx.2.2.2.2] 31)).cell? ⟨w1.heap.size, 1, none⟩ = some (.slice x_c n_c c_c) := C_c.out.cell 1
    have c0_x : ((w1.alloc (.cells #[.int .i64 xc.1, .slice x_c n_c c_c] 26)).alloc (.cells #[.slice x_xa n_xa c_xa, .slice x_xb n_xb c_xb, .slice x_xc n_xc c_xc, .int .i64 xx.2.2.2.1, .int .i64 xx.2.2.2.2] 31)).cell? ⟨w1.heap.size + 1, 0, none⟩ = some (.slice x_xa n_xa c_xa) := C_x.out.cell 0
    have c1_x : ((w1.alloc (.cells #[.int .i64 xc.1, .slice x_c n_c c_c] 26)).alloc (.cells #[.slice x_xa n_xa c_xa, .slice x_xb n_xb c_xb, .slice x_xc n_xc c_xc, .int .i64 xx.2.2.2.1, .int .i64 xx.2.2.2.2] 31)).cell? ⟨w1.heap.size + 1, 1, none⟩ = some (.slice x_xb n_xb c_xb) := C_x.out.cell 1
    have c2_x : ((w1.alloc (.cells #[.int .i64 xc.1, .slice x_c n_c c_c] 26)).alloc (.cells #[.slice x_xa n_xa c_xa, .slice x_xb n_xb c_xb, .slice x_xc n_xc c_xc, .int .i64 xx.2.2.2.1, .int .i64 xx.2.2.2.2] 31)).cell? ⟨w1.heap.size + 1, 2, none⟩ = some (.slice x_xc n_xc c_xc) := C_x.out.cell 2
    have c3_x : ((w1.alloc (.cells #[.int .i64 xc.1, .slice x_c n_c c_c] 26)).alloc (.cells #[.slice x_xa n_xa c_xa, .slice x_xb n_xb c_xb, .slice x_xc n_xc c_xc, .int .i64 xx.2.2.2.1, .int .i64 xx.2.2.2.2] 31)).cell? ⟨w1.heap.size + 1, 3, none⟩ = some (.int .i64 xx.2.2.2.1) := C_x.out.cell 3
    have c4_x : ((w1.alloc (.cells #[.int .i64 xc.1, .slice x_c n_c c_c] 26)).alloc (.cells #[.slice x_xa n_xa c_xa, .slice x_xb n_xb c_xb, .slice x_xc n_xc c_xc, .int .i64 xx.2.2.2.1, .int .i64 xx.2.2.2.2] 31)).cell? ⟨w1.heap.size + 1, 4, none⟩ = some (.int .i64 xx.2.2.2.2) := C_x.out.cell 4
    go_wp2_with fail
    clear c0_c c1_c c0_x c1_x c2_x c3_x c4_x
    obtain ⟨xd, h_xd⟩ : ∃ z, Row.cacheC xc xx now = z := ⟨_, rfl⟩
    have HCD := Lib.hid h_xd; clear h_xd
    have s_d := Lib.hid (show Row.smC 95 xd by rw [← HCD.out]; exact s_d0.out.mono (by decide)); clear s_d0
    refine (Row.iCdV xd now HCD.out H_c.out H_x.out s_c.out HBX.out).mono ?_
    rintro e w2 ⟨U_d, rfl, ho_d, hb⟩
    obtain ⟨x_d, n_d, c_d, rfl, ho_d⟩ := Row.kCn_shape ho_d
    replace C_c := Lib.hid (C_c.out.on hb)
    replace C_x := Lib.hid (C_x.out.on hb)
    replace H_c := Lib.hid (H_c.out.on hb)
    replace H_x := Lib.hid (H_x.out.on hb)
    replace BB := Lib.hid (BB.out.trans (hb.mono BB.out.size))
    clear hb
    have H_d := Lib.hid ho_d.at; clear ho_d
    have hal := (Below.refl (w2).heap.size (w2)).alloc (Nat.le_refl _) (.cells #[.int .i64 xd.1, .slice x_d n_d c_d] 26)
    replace C_c := Lib.hid (C_c.out.on hal)
    replace C_x := Lib.hid (C_x.out.on hal)
    replace H_c := Lib.hid (H_c.out.on hal)
    replace H_x := Lib.hid (H_x.out.on hal)
    replace H_d := Lib.hid (H_d.out.on hal)
    replace BB := Lib.hid (BB.out.trans (hal.mono BB.out.size))
    have C_d := Lib.hid (Ret.Blk.new' (w := w2) #[.int .i64 xd.1, .slice x_d n_d c_d] 26 (n := w2.heap.size) (by first | rfl | simp)); clear hal
    go_wp2_with fail
    refine (Row.drLk (Q0.out.on BB.out)).mono ?_
    rintro e w3 ⟨xk, xn, t, U_k, U_n, rfl, ho_k, m_k, ho_n, b_n, ta0, ta1, hb⟩
    have s_t0 := Lib.hid (Row.smC_touch (n := xn) m_k (Row.wfC (z := t) (by omega) (by omega)))
    have s_k := Lib.hid (m_k.mono (show 15 ≤ 95 by decide)); clear m_k ta0 ta1
    have HBN := Lib.hid b_n; clear b_n
    obtain ⟨x_k, n_k, c_k, rfl, ho_k⟩ := Row.kCn_shapeA ho_k
    obtain ⟨x_n, n_n, c_n, rfl, ho_n⟩ := Row.kN_shapeA ho_n
    replace C_c := Lib.hid (C_c.out.on hb)
    replace C_x := Lib.hid (C_x.out.on hb)
    replace C_d := Lib.hid (C_d.out.on hb)
    replace H_c := Lib.hid (H_c.out.on hb)
    replace H_x := Lib.hid (H_x.out.on hb)
    replace H_d := Lib.hid (H_d.out.on hb)
    replace BB := Lib.hid (BB.out.trans (hb.mono BB.out.size))
    clear hb
    have H_k := Lib.hid ho_k; clear ho_k
    have H_n := Lib.hid ho_n; clear ho_n
    have hal := (Below.refl (w3).heap.size (w3)).alloc (Nat.le_refl _) (.cells #[.int .i64 xk.1, .slice x_k n_k c_k] 26)
    replace C_c := Lib.hid (C_c.out.on hal)
    replace C_x := Lib.hid (C_x.out.on hal)
    replace C_d := Lib.hid (C_d.out.on hal)
    replace H_c := Lib.hid (H_c.out.on hal)
    replace H_x := Lib.hid (H_x.out.on hal)
    replace H_d := Lib.hid (H_d.out.on hal)
    replace H_k := Lib.hid (H_k.out.on hal)
    replace H_n := Lib.hid (H_n.out.on hal)
    replace BB := Lib.hid (BB.out.trans (hal.mono BB.out.size))
    have C_k := Lib.hid (Ret.Blk.new' (w := w3) #[.int .i64 xk.1, .slice x_k n_k c_k] 26 (n := w3.heap.size) (by first | rfl | simp)); clear hal
    have hal := (Below.refl ((w3.alloc (.cells #[.int .i64 xk.1, .slice x_k n_k c_k] 26))).heap.size ((w3.alloc (.cells #[.int .i64 xk.1, .slice x_k n_k c_k] 26)))).alloc (Nat.le_refl _) (.cells #[.slice x_n n_n c_n] 29)
    replace C_c := Lib.hid (C_c.out.on hal)
    replace C_x := Lib.hid (C_x.out.on hal)
    replace C_d := Lib.hid (C_d.out.on hal)
    replace C_k := Lib.hid (C_k.out.on hal)
    replace H_c := Lib.hid (H_c.out.on hal)
    replace H_x := Lib.hid (H_x.out.on hal)
    replace H_d := Lib.hid (H_d.out.on hal)
    replace H_k := Lib.hid (H_k.out.on hal)
    replace H_n := Lib.hid (H_n.out.on hal)
    replace BB := Lib.hid (BB.out.trans (hal.mono BB.out.size))
    have C_n := Lib.hid (Ret.Blk.new' (w := (w3.alloc (.cells #[.int .i64 xk.1, .slice x_k n_k c_k] 26))) #[.slice x_n n_n c_n] 29 (n := w3.heap.size + 1) (by first | rfl | simp)); clear hal
    have c0_k : ((w3.alloc (.cells #[.int .i64 xk.1, .slice x_k n_k c_k] 26)).alloc (.cells #[.slice x_n n_n c_n] 29)).cell? ⟨w3.heap.size, 0, none⟩ = some (.int .i64 xk.1) := C_k.out.cell 0
    have c1_k : ((w3.alloc (.cells #[.int .i64 xk.1, .slice x_k n_k c_k] 26)).alloc (.cells #[.slice x_n n_n c_n] 29)).cell? ⟨w3.heap.size, 1, none⟩ = some (.slice x_k n_k c_k) := C_k.out.cell 1
    have c0_n : ((w3.alloc (.cells #[.int .i64 xk.1, .slice x_k n_k c_k] 26)).alloc (.cells #[.slice x_n n_n c_n] 29)).cell? ⟨w3.heap.size + 1, 0, none⟩ = some (.slice x_n n_n c_n) := C_n.out.cell 0
    go_wp2_with fail
    clear c0_k c1_k c0_n
    obtain ⟨xy, h_xy⟩ : ∃ z, Row.lookC xk xn t = z := ⟨_, rfl⟩
    have HLK := Lib.hid h_xy; clear h_xy
    obtain ⟨ok, h_ok⟩ : ∃ z, Row.lookOk xk xn t = z := ⟨_, rfl⟩
    have HOK := Lib.hid h_ok; clear h_ok
    have HIY := Lib.hid (show Row.inDz xy by rw [← HLK.out]; exact (Row.look_fit s_k.out).1)
    have HBY := Lib.hid (show Row.wtDz xy ≤ 4000 by rw [← HLK.out]; exact (Row.look_fit s_k.out).2)
    refine (Row.iLkV xy ok t HLK.out HOK.out H_k.out H_n.out s_k.out HBN.out).mono ?_
    rintro e w4 ⟨U_y, rfl, ho_y, hb⟩
    obtain ⟨x_ya, n_ya, c_ya, x_yb, n_yb, c_yb, x_yc, n_yc, c_yc, rfl, ho_y⟩ := Row.kDz_shape ho_y
    replace C_c := Lib.hid (C_c.out.on hb)
    replace C_x := Lib.hid (C_x.out.on hb)
    replace C_d := Lib.hid (C_d.out.on hb)
    replace C_k := Lib.hid (C_k.out.on hb)
    replace C_n := Lib.hid (C_n.out.on hb)
    replace H_c := Lib.hid (H_c.out.on hb)
    replace H_x := Lib.hid (H_x.out.on hb)
    replace H_d := Lib.hid (H_d.out.on hb)
    replace H_k := Lib.hid (H_k.out.on hb)
    replace H_n := Lib.hid (H_n.out.on hb)
    replace BB := Lib.hid (BB.out.trans (hb.mono BB.out.size))
    clear hb
    have H_y := Lib.hid ho_y.at; clear ho_y
    have hal := (Below.refl (w4).heap.size (w4)).alloc (Nat.le_refl _) (.cells #[.slice x_ya n_ya c_ya, .slice x_yb n_yb c_yb, .slice x_yc n_yc c_yc, .int .i64 xy.2.2.2.1, .int .i64 xy.2.2.2.2] 31)
    replace C_c := Lib.hid (C_c.out.on hal)
    replace C_x := Lib.hid (C_x.out.on hal)
    replace C_d := Lib.hid (C_d.out.on hal)
    replace C_k := Lib.hid (C_k.out.on hal)
    replace C_n := Lib.hid (C_n.out.on hal)
    replace H_c := Lib.hid (H_c.out.on hal)
    replace H_x := Lib.hid (H_x.out.on hal)
    replace H_d := Lib.hid (H_d.out.on hal)
    replace H_k := Lib.hid (H_k.out.on hal)
    replace H_n := Lib.hid (H_n.out.on hal)
    replace H_y := Lib.hid (H_y.out.on hal)
    replace BB := Lib.hid (BB.out.trans (hal.mono BB.out.size))
    have C_y := Lib.hid (Ret.Blk.new' (w := w4) #[.slice x_ya n_ya c_ya, .slice x_yb n_yb c_yb, .slice x_yc n_yc c_yc, .int .i64 xy.2.2.2.1, .int .i64 xy.2.2.2.2] 31 (n := w4.heap.size) (by first | rfl | simp)); clear hal
    have c0_k : (w4.alloc (.cells #[.slice x_ya n_ya c_ya, .slice x_yb n_yb c_yb, .slice x_yc n_yc c_yc, .int .i64 xy.2.2.2.1, .int .i64 xy.2.2.2.2] 31)).cell? ⟨w3.heap.size, 0, none⟩ = some (.int .i64 xk.1) := C_k.out.cell 0
    have c1_k : (w4.alloc (.cells #[.slice x_ya n_ya c_ya, .slice x_yb n_yb c_yb, .slice x_yc n_yc c_yc, .int .i64 xy.2.2.2.1, .int .i64 xy.2.2.2.2] 31)).cell? ⟨w3.heap.size, 1, none⟩ = some (.slice x_k n_k c_k) := C_k.out.cell 1
    have c0_n : (w4.alloc (.cells #[.slice x_ya n_ya c_ya, .slice x_yb n_yb c_yb, .slice x_yc n_yc c_yc, .int .i64 xy.2.2.2.1, .int .i64 xy.2.2.2.2] 31)).cell? ⟨w3.heap.size + 1, 0, none⟩ = some (.slice x_n n_n c_n) := C_n.out.cell 0
    go_wp2_with fail
    clear c0_k c1_k c0_n
    refine (Row.sLkV xy ok t HLK.out HOK.out H_k.out H_n.out s_k.out HBN.out).mono ?_
    rintro e w5 ⟨U_z, rfl, ho_z, hb⟩
    obtain ⟨x_za, n_za, c_za, x_zb, n_zb, c_zb, x_zc, n_zc, c_zc, rfl, ho_z⟩ := Row.kDz_shape ho_z
    replace C_c := Lib.hid (C_c.out.on hb)
    replace C_x := Lib.hid (C_x.out.on hb)
    replace C_d := Lib.hid (C_d.out.on hb)
    replace C_k := Lib.hid (C_k.out.on hb)
    replace C_n := Lib.hid (C_n.out.on hb)
    replace C_y := Lib.hid (C_y.out.on hb)
    replace H_c := Lib.hid (H_c.out.on hb)
    replace H_x := Lib.hid (H_x.out.on hb)
    replace H_d := Lib.hid (H_d.out.on hb)
    replace H_k := Lib.hid (H_k.out.on hb)
    replace H_n := Lib.hid (H_n.out.on hb)
    replace H_y := Lib.hid (H_y.out.on hb)
    replace BB := Lib.hid (BB.out.trans (hb.mono BB.out.size))
    clear hb
    have H_z := Lib.hid ho_z.at; clear ho_z
    have hal := (Below.refl (w5).heap.size (w5)).alloc (Nat.le_refl _) (.cells #[.slice x_za n_za c_za, .slice x_zb n_zb c_zb, .slice x_zc n_zc c_zc, .int .i64 xy.2.2.2.1, .int .i64 xy.2.2.2.2] 31)
    replace C_c := Lib.hid (C_c.out.on hal)
    replace C_x := Lib.hid (C_x.out.on hal)
    replace C_d := Lib.hid (C_d.out.on hal)
    replace C_k := Lib.hid (C_k.out.on hal)
    replace C_n := Lib.hid (C_n.out.on hal)
    replace C_y := Lib.hid (C_y.out.on hal)
    replace H_c := Lib.hid (H_c.out.on hal)
    replace H_x := Lib.hid (H_x.out.on hal)
    replace H_d := Lib.hid (H_d.out.on hal)
    replace H_k := Lib.hid (H_k.out.on hal)
    replace H_n := Lib.hid (H_n.out.on hal)
    replace H_y := Lib.hid (H_y.out.on hal)
    replace H_z := Lib.hid (H_z.out.on hal)
    replace BB := Lib.hid (BB.out.trans (hal.mono BB.out.size))
    have C_z := Lib.hid (Ret.Blk.new' (w := w5) #[.slice x_za n_za c_za, .slice x_zb n_zb c_zb, .slice x_zc n_zc c_zc, .int .i64 xy.2.2.2.1, .int .i64 xy.2.2.2.2] 31 (n := w5.heap.size) (by first | rfl | simp)); clear hal
    go_wp2_with fail
    refine (Row.drEv (Q0.out.on BB.out)).mono ?_
    rintro e w6 ⟨xs, wh, U_s, rfl, ho_s, m_s, ta0, ta1, hb⟩
    have s_s := Lib.hid (m_s.mono (show 15 ≤ 95 by decide)); clear m_s ta0 ta1
    obtain ⟨x_s, n_s, c_s, rfl, ho_s⟩ := Row.kCn_shapeA ho_s
    replace C_c := Lib.hid (C_c.out.on hb)
    replace C_x := Lib.hid (C_x.out.on hb)
    replace C_d := Lib.hid (C_d.out.on hb)
    replace C_k := Lib.hid (C_k.out.on hb)
    replace C_n := Lib.hid (C_n.out.on hb)
    replace C_y := Lib.hid (C_y.out.on hb)
    replace C_z := Lib.hid (C_z.out.on hb)
    replace H_c := Lib.hid (H_c.out.on hb)
    replace H_x := Lib.hid (H_x.out.on hb)
    replace H_d := Lib.hid (H_d.out.on hb)
    replace H_k := Lib.hid (H_k.out.on hb)
    replace H_n := Lib.hid (H_n.out.on hb)
    replace H_y := Lib.hid (H_y.out.on hb)
    replace H_z := Lib.hid (H_z.out.on hb)
    replace BB := Lib.hid (BB.out.trans (hb.mono BB.out.size))
    clear hb
    have H_s := Lib.hid ho_s; clear ho_s
    have hal := (Below.refl (w6).heap.size (w6)).alloc (Nat.le_refl _) (.cells #[.int .i64 xs.1, .slice x_s n_s c_s] 26)
    replace C_c := Lib.hid (C_c.out.on hal)
    replace C_x := Lib.hid (C_x.out.on hal)
    replace C_d := Lib.hid (C_d.out.on hal)
    replace C_k := Lib.hid (C_k.out.on hal)
    replace C_n := Lib.hid (C_n.out.on hal)
    replace C_y := Lib.hid (C_y.out.on hal)
    replace C_z := Lib.hid (C_z.out.on hal)
    replace H_c := Lib.hid (H_c.out.on hal)
    replace H_x := Lib.hid (H_x.out.on hal)
    replace H_d := Lib.hid (H_d.out.on hal)
    replace H_k := Lib.hid (H_k.out.on hal)
    replace H_n := Lib.hid (H_n.out.on hal)
    replace H_y := Lib.hid (H_y.out.on hal)
    replace H_z := Lib.hid (H_z.out.on hal)
    replace H_s := Lib.hid (H_s.out.on hal)
    replace BB := Lib.hid (BB.out.trans (hal.mono BB.out.size))
    have C_s := Lib.hid (Ret.Blk.new' (w := w6) #[.int .i64 xs.1, .slice x_s n_s c_s] 26 (n := w6.heap.size) (by first | rfl | simp)); clear hal
    go_wp2_with fail
    refine (Row.drEq (Q0.out.on BB.out)).mono ?_
    rintro e w7 ⟨xa, xb, U_a, U_b, rfl, ho_a, m_a, ho_b, m_b, hb⟩
    have s_a := Lib.hid (m_a.mono (show 15 ≤ 95 by decide)); clear m_a
    have s_b := Lib.hid m_b; clear m_b
    obtain ⟨x_a, n_a, c_a, rfl, ho_a⟩ := Row.kCn_shapeA ho_a
    obtain ⟨x_b, n_b, c_b, rfl, ho_b⟩ := Row.kCn_shapeA ho_b
    replace C_c := Lib.hid (C_c.out.on hb)
    replace C_x := Lib.hid (C_x.out.on hb)
    replace C_d := Lib.hid (C_d.out.on hb)
    replace C_k := Lib.hid (C_k.out.on hb)
    replace C_n := Lib.hid (C_n.out.on hb)
    replace C_y := Lib.hid (C_y.out.on hb)
    replace C_z := Lib.hid (C_z.out.on hb)
    replace C_s := Lib.hid (C_s.out.on hb)
    replace H_c := Lib.hid (H_c.out.on hb)
    replace H_x := Lib.hid (H_x.out.on hb)
    replace H_d := Lib.hid (H_d.out.on hb)
    replace H_k := Lib.hid (H_k.out.on hb)
    replace H_n := Lib.hid (H_n.out.on hb)
    replace H_y := Lib.hid (H_y.out.on hb)
    replace H_z := Lib.hid (H_z.out.on hb)
    replace H_s := Lib.hid (H_s.out.on hb)
    replace BB := Lib.hid (BB.out.trans (hb.mono BB.out.size))
    clear hb
    have H_a := Lib.hid ho_a; clear ho_a
    have H_b := Lib.hid ho_b; clear ho_b
    have hal := (Below.refl (w7).heap.size (w7)).alloc (Nat.le_refl _) (.cells #[.int .i64 xa.1, .slice x_a n_a c_a] 26)
    replace C_c := Lib.hid (C_c.out.on hal)
    replace C_x := Lib.hid (C_x.out.on hal)
    replace C_d := Lib.hid (C_d.out.on hal)
    replace C_k := Lib.hid (C_k.out.on hal)
    replace C_n := Lib.hid (C_n.out.on hal)
    replace C_y := Lib.hid (C_y.out.on hal)
    replace C_z := Lib.hid (C_z.out.on hal)
    replace C_s := Lib.hid (C_s.out.on hal)
    replace H_c := Lib.hid (H_c.out.on hal)
    replace H_x := Lib.hid (H_x.out.on hal)
    replace H_d := Lib.hid (H_d.out.on hal)
    replace H_k := Lib.hid (H_k.out.on hal)
    replace H_n := Lib.hid (H_n.out.on hal)
    replace H_y := Lib.hid (H_y.out.on hal)
    replace H_z := Lib.hid (H_z.out.on hal)
    replace H_s := Lib.hid (H_s.out.on hal)
    replace H_a := Lib.hid (H_a.out.on hal)
    replace H_b := Lib.hid (H_b.out.on hal)
    replace BB := Lib.hid (BB.out.trans (hal.mono BB.out.size))
    have C_a := Lib.hid (Ret.Blk.new' (w := w7) #[.int .i64 xa.1, .slice x_a n_a c_a] 26 (n := w7.heap.size) (by first | rfl | simp)); clear hal
    have hal := (Below.refl ((w7.alloc (.cells #[.int .i64 xa.1, .slice x_a n_a c_a] 26))).heap.size ((w7.alloc (.cells #[.int .i64 xa.1, .slice x_a n_a c_a] 26)))).alloc (Nat.le_refl _) (.cells #[.int .i64 xb.1, .slice x_b n_b c_b] 26)
    replace C_c := Lib.hid (C_c.out.on hal)
    replace C_x := Lib.hid (C_x.out.on hal)
    replace C_d := Lib.hid (C_d.out.on hal)
    replace C_k := Lib.hid (C_k.out.on hal)
    replace C_n := Lib.hid (C_n.out.on hal)
    replace C_y := Lib.hid (C_y.out.on hal)
    replace C_z := Lib.hid (C_z.out.on hal)
    replace C_s := Lib.hid (C_s.out.on hal)
    replace C_a := Lib.hid (C_a.out.on hal)
    replace H_c := Lib.hid (H_c.out.on hal)
    replace H_x := Lib.hid (H_x.out.on hal)
    replace H_d := Lib.hid (H_d.out.on hal)
    replace H_k := Lib.hid (H_k.out.on hal)
    replace H_n := Lib.hid (H_n.out.on hal)
    replace H_y := Lib.hid (H_y.out.on hal)
    replace H_z := Lib.hid (H_z.out.on hal)
    replace H_s := Lib.hid (H_s.out.on hal)
    replace H_a := Lib.hid (H_a.out.on hal)
    replace H_b := Lib.hid (H_b.out.on hal)
    replace BB := Lib.hid (BB.out.trans (hal.mono BB.out.size))
    have C_b := Lib.hid (Ret.Blk.new' (w := (w7.alloc (.cells #[.int .i64 xa.1, .slice x_a n_a c_a] 26))) #[.int .i64 xb.1, .slice x_b n_b c_b] 26 (n := w7.heap.size + 1) (by first | rfl | simp)); clear hal
    go_wp2_with fail
    refine (Draw.dDrawNewContentStore _ _ l0 (Q0.out.on BB.out)).mono ?_
    rintro e w8 ⟨ez, rfl, ta0, ta1, hb⟩
    have s_e := Lib.hid ((Row.smC_new (k := ez) (Row.wfC (by omega) (by omega))).mono (show 0 ≤ 95 by decide)); clear ta0 ta1
    replace C_c := Lib.hid (C_c.out.on hb)
    replace C_x := Lib.hid (C_x.out.on hb)
    replace C_d := Lib.hid (C_d.out.on hb)
    replace C_k := Lib.hid (C_k.out.on hb)
    replace C_n := Lib.hid (C_n.out.on hb)
    replace C_y := Lib.hid (C_y.out.on hb)
    replace C_z := Lib.hid (C_z.out.on hb)
    replace C_s := Lib.hid (C_s.out.on hb)
    replace C_a := Lib.hid (C_a.out.on hb)
    replace C_b := Lib.hid (C_b.out.on hb)
    replace H_c := Lib.hid (H_c.out.on hb)
    replace H_x := Lib.hid (H_x.out.on hb)
    replace H_d := Lib.hid (H_d.out.on hb)
    replace H_k := Lib.hid (H_k.out.on hb)
    replace H_n := Lib.hid (H_n.out.on hb)
    replace H_y := Lib.hid (H_y.out.on hb)
    replace H_z := Lib.hid (H_z.out.on hb)
    replace H_s := Lib.hid (H_s.out.on hb)
    replace H_a := Lib.hid (H_a.out.on hb)
    replace H_b := Lib.hid (H_b.out.on hb)
    replace BB := Lib.hid (BB.out.trans (hb.mono BB.out.size))
    clear hb
    obtain ⟨xt, h_xt⟩ : ∃ z, Row.touchC xk xn t = z := ⟨_, rfl⟩
    have HTO := Lib.hid h_xt; clear h_xt
    obtain ⟨xv, h_xv⟩ : ∃ z, Row.evictC xs wh = z := ⟨_, rfl⟩
    have HEV := Lib.hid h_xv; clear h_xv
    obtain ⟨q1, h_q1⟩ : ∃ z, Row.eqC xa xb = z := ⟨_, rfl⟩
    have HEQ := Lib.hid h_q1; clear h_q1
    obtain ⟨q2, h_q2⟩ : ∃ z, Row.validC xc = z := ⟨_, rfl⟩
    have HVC := Lib.hid h_q2; clear h_q2
    have s_t := Lib.hid (show Row.smC 95 xt by rw [← HTO.out]; exact s_t0.out.mono (by decide)); clear s_t0
    have s_v := Lib.hid (show Row.smC 95 xv by rw [← HEV.out]; exact Row.smC_evict s_s.out)
    go_wp2_with fail
    refine Row.regC11 H_c H_x H_d H_k H_n H_y H_z H_s H_a H_b HCD HTO HEV HEQ HVC s_c s_d s_k s_t s_s s_v s_a s_b s_e HIY HBX HBY HBN (Lib.hid (C_c.out.cell 0)) (Lib.hid (C_c.out.cell 1)) (Lib.hid (C_x.out.cell 0)) (Lib.hid (C_x.out.cell 1)) (Lib.hid (C_x.out.cell 2)) (Lib.hid (C_x.out.cell 3)) (Lib.hid (C_x.out.cell 4)) (Lib.hid (C_d.out.cell 0)) (Lib.hid (C_d.out.cell 1)) (Lib.hid (C_k.out.cell 0)) (Lib.hid (C_k.out.cell 1)) (Lib.hid (C_n.out.cell 0)) (Lib.hid (C_y.out.cell 0)) (Lib.hid (C_y.out.cell 1)) (Lib.hid (C_y.out.cell 2)) (Lib.hid (C_y.out.cell 3)) (Lib.hid (C_y.out.cell 4)) (Lib.hid (C_z.out.cell 0)) (Lib.hid (C_z.out.cell 1)) (Lib.hid (C_z.out.cell 2)) (Lib.hid (C_z.out.cell 3)) (Lib.hid (C_z.out.cell 4)) (Lib.hid (C_s.out.cell 0)) (Lib.hid (C_s.out.cell 1)) (Lib.hid (C_a.out.cell 0)) (Lib.hid (C_a.out.cell 1)) (Lib.hid (C_b.out.cell 0)) (Lib.hid (C_b.out.cell 1)) ?_
    intro u65 u66 u67 u68 u69 u70 u71 u72 u73 u74 u75 u76 u77 u78 u79 u80 u81 u82 u83 u84 u85 u86 u87 u88 u89 u90 u91 u92 u93 u94 u95 u96 u97 u98 u99 u100 u101 u102 u103 u104 u105 u106 u107 u108 u109 u110 u111 u112 u113 u114 u115 u116 u117 u118 u119 u120 u121 u122 u123 u124 u125 u126 u127 u128 u129 u130 u131 u132 u133 u134 u135 wx hb
    replace C_c := Lib.hid (C_c.out.on hb)
    replace C_x := Lib.hid (C_x.out.on hb)
    replace C_d := Lib.hid (C_d.out.on hb)
    replace C_k := Lib.hid (C_k.out.on hb)
    replace C_n := Lib.hid (C_n.out.on hb)
    replace C_y := Lib.hid (C_y.out.on hb)
    replace C_z := Lib.hid (C_z.out.on hb)
    replace C_s := Lib.hid (C_s.out.on hb)
    replace C_a := Lib.hid (C_a.out.on hb)
    replace C_b := Lib.hid (C_b.out.on hb)
    replace H_c := Lib.hid (H_c.out.on hb)
    replace H_x := Lib.hid (H_x.out.on hb)
    replace H_d := Lib.hid (H_d.out.on hb)
    replace H_k := Lib.hid (H_k.out.on hb)
    replace H_n := Lib.hid (H_n.out.on hb)
    replace H_y := Lib.hid (H_y.out.on hb)
    replace H_z := Lib.hid (H_z.out.on hb)
    replace H_s := Lib.hid (H_s.out.on hb)
    replace H_a := Lib.hid (H_a.out.on hb)
    replace H_b := Lib.hid (H_b.out.on hb)
    replace BB := Lib.hid (BB.out.trans (hb.mono BB.out.size))
    clear hb
    clear H_k
    clear C_k
    clear H_n
    clear C_n
    clear H_z
    clear C_z
    clear H_s
    clear C_s
    clear H_a
    clear C_a
    clear H_b
    clear C_b
    clear HTO HEV HEQ s_k s_t s_s s_v s_a s_b s_e HBN
    have c0_c : wx.cell? ⟨w1.heap.size, 0, none⟩ = some (.int .i64 xc.1) := C_c.out.cell 0
    have c1_c : wx.cell? ⟨w1.heap.size, 1, none⟩ = some (.slice x_c n_c c_c) := C_c.out.cell 1
    go_wp2_with fail
    clear c0_c c1_c
    refine (Row.iVcV q2 HVC.out H_c.out s_c.out).mono ?_
    rintro e w9 ⟨rfl, hb⟩
    replace C_c := Lib.hid (C_c.out.on hb)
    replace C_x := Lib.hid (C_x.out.on hb)
    replace C_d := Lib.hid (C_d.out.on hb)
    replace C_y := Lib.hid (C_y.out.on hb)
    replace H_c := Lib.hid (H_c.out.on hb)
    replace H_x := Lib.hid (H_x.out.on hb)
    replace H_d := Lib.hid (H_d.out.on hb)
    replace H_y := Lib.hid (H_y.out.on hb)
    replace BB := Lib.hid (BB.out.trans (hb.mono BB.out.size))
    clear hb
    cases q2 with
    | false =>
      go_wp2_with fail
      go_ret
      exact ⟨rfl, BB.out⟩
    | true =>
      by_cases h0 : xc.1 = 0
      · skip
        have t0 : (xc.1 == 0) = true := by simpa using h0
        have H0 := Lib.hid h0; clear h0
        have HSM := Lib.hid (Row.fin_same HCD.out HVC.out (Or.inl H0.out))
        have c0_c : w9.cell? ⟨w1.heap.size, 0, none⟩ = some (.int .i64 xc.1) := C_c.out.cell 0
        have c1_c : w9.cell? ⟨w1.heap.size, 1, none⟩ = some (.slice x_c n_c c_c) := C_c.out.cell 1
        have c0_d : w9.cell? ⟨w2.heap.size, 0, none⟩ = some (.int .i64 xd.1) := C_d.out.cell 0
        have c1_d : w9.cell? ⟨w2.heap.size, 1, none⟩ = some (.slice x_d n_d c_d) := C_d.out.cell 1
        go_wp2_with fail
        clear c0_c c1_c c0_d c1_d
        refine (Row.sameCQ true HSM.out H_d.out H_c.out s_d.out s_c.out).mono ?_
        rintro e w10 ⟨rfl, hb⟩
        replace C_c := Lib.hid (C_c.out.on hb)
        replace C_x := Lib.hid (C_x.out.on hb)
        replace C_d := Lib.hid (C_d.out.on hb)
        replace C_y := Lib.hid (C_y.out.on hb)
        replace H_c := Lib.hid (H_c.out.on hb)
        replace H_x := Lib.hid (H_x.out.on hb)
        replace H_d := Lib.hid (H_d.out.on hb)
        replace H_y := Lib.hid (H_y.out.on hb)
        replace BB := Lib.hid (BB.out.trans (hb.mono BB.out.size))
        clear hb
        go_wp2_with fail
        go_ret
        exact ⟨rfl, BB.out⟩
      · skip
        have t0 : (xc.1 == 0) = false := by simpa using h0
        obtain ⟨q3, h_q3⟩ : ∃ z, Row.validD xx = z := ⟨_, rfl⟩
        have HVX := Lib.hid h_q3; clear h_q3
        have c0_c : w9.cell? ⟨w1.heap.size, 0, none⟩ = some (.int .i64 xc.1) := C_c.out.cell 0
        have c1_c : w9.cell? ⟨w1.heap.size, 1, none⟩ = some (.slice x_c n_c c_c) := C_c.out.cell 1
        have c0_x : w9.cell? ⟨w1.heap.size + 1, 0, none⟩ = some (.slice x_xa n_xa c_xa) := C_x.out.cell 0
        have c1_x : w9.cell? ⟨w1.heap.size + 1, 1, none⟩ = some (.slice x_xb n_xb c_xb) := C_x.out.cell 1
        have c2_x : w9.cell? ⟨w1.heap.size + 1, 2, none⟩ = some (.slice x_xc n_xc c_xc) := C_x.out.cell 2
        have c3_x : w9.cell? ⟨w1.heap.size + 1, 3, none⟩ = some (.int .i64 xx.2.2.2.1) := C_x.out.cell 3
        have c4_x : w9.cell? ⟨w1.heap.size + 1, 4, none⟩ = some (.int .i64 xx.2.2.2.2) := C_x.out.cell 4
        go_wp2_with fail
        clear c0_c c1_c c0_x c1_x c2_x c3_x c4_x
        refine (Row.iVdV q3 HVX.out H_x.out HBX.out).mono ?_
        rintro e w11 ⟨rfl, hb⟩
        replace C_c := Lib.hid (C_c.out.on hb)
        replace C_x := Lib.hid (C_x.out.on hb)
        replace C_d := Lib.hid (C_d.out.on hb)
        replace C_y := Lib.hid (C_y.out.on hb)
        replace H_c := Lib.hid (H_c.out.on hb)
        replace H_x := Lib.hid (H_x.out.on hb)
        replace H_d := Lib.hid (H_d.out.on hb)
        replace H_y := Lib.hid (H_y.out.on hb)
        replace BB := Lib.hid (BB.out.trans (hb.mono BB.out.size))
        clear hb
        cases q3 with
        | false =>
          have HSM := Lib.hid (Row.fin_same HCD.out HVC.out (Or.inr HVX.out))
          have c0_c : w11.cell? ⟨w1.heap.size, 0, none⟩ = some (.int .i64 xc.1) := C_c.out.cell 0
          have c1_c : w11.cell? ⟨w1.heap.size, 1, none⟩ = some (.slice x_c n_c c_c) := C_c.out.cell 1
          have c0_d : w11.cell? ⟨w2.heap.size, 0, none⟩ = some (.int .i64 xd.1) := C_d.out.cell 0
          have c1_d : w11.cell? ⟨w2.heap.size, 1, none⟩ = some (.slice x_d n_d c_d) := C_d.out.cell 1
          go_wp2_with fail
          clear c0_c c1_c c0_d c1_d
          refine (Row.sameCQ true HSM.out H_d.out H_c.out s_d.out s_c.out).mono ?_
          rintro e w12 ⟨rfl, hb⟩
          replace C_c := Lib.hid (C_c.out.on hb)
          replace C_x := Lib.hid (C_x.out.on hb)
          replace C_d := Lib.hid (C_d.out.on hb)
          replace C_y := Lib.hid (C_y.out.on hb)
          replace H_c := Lib.hid (H_c.out.on hb)
          replace H_x := Lib.hid (H_x.out.on hb)
          replace H_d := Lib.hid (H_d.out.on hb)
          replace H_y := Lib.hid (H_y.out.on hb)
          replace BB := Lib.hid (BB.out.trans (hb.mono BB.out.size))
          clear hb
          go_wp2_with fail
          go_ret
          exact ⟨rfl, BB.out⟩
        | true =>
          have HV1 := Lib.hid (Row.fin_valid HCD.out HVC.out h0 HVX.out).1
          have HL1 := Lib.hid (Row.fin_look HCD.out HVC.out h0 HVX.out)
          have hle : ((n_d : Nat) : Int) ≤ xc.1 := by rw [Row.kCn_len H_d.out]; exact (Row.fin_valid HCD.out HVC.out h0 HVX.out).2
          have HBM := Lib.hid (show Row.bulk xx.1 ≤ 4000 by have h9 := HBX.out; unfold Row.wtDz at h9; omega)
          have c0_x : w11.cell? ⟨w1.heap.size + 1, 0, none⟩ = some (.slice x_xa n_xa c_xa) := C_x.out.cell 0
          have c1_x : w11.cell? ⟨w1.heap.size + 1, 1, none⟩ = some (.slice x_xb n_xb c_xb) := C_x.out.cell 1
          have c2_x : w11.cell? ⟨w1.heap.size + 1, 2, none⟩ = some (.slice x_xc n_xc c_xc) := C_x.out.cell 2
          have c3_x : w11.cell? ⟨w1.heap.size + 1, 3, none⟩ = some (.int .i64 xx.2.2.2.1) := C_x.out.cell 3
          have c4_x : w11.cell? ⟨w1.heap.size + 1, 4, none⟩ = some (.int .i64 xx.2.2.2.2) := C_x.out.cell 4
          have c0_d : w11.cell? ⟨w2.heap.size, 0, none⟩ = some (.int .i64 xd.1) := C_d.out.cell 0
          have c1_d : w11.cell? ⟨w2.heap.size, 1, none⟩ = some (.slice x_d n_d c_d) := C_d.out.cell 1
          go_wp2_with fail
          clear c0_x c1_x c2_x c3_x c4_x c0_d c1_d
          refine (Row.iLkV xx true xx.2.2.2.1 HL1.out.2 HL1.out.1 H_d.out (Row.kDz_name H_x.out) s_d.out HBM.out).mono ?_
          rintro e w13 ⟨U_w, rfl, ho_w, hb⟩
          obtain ⟨x_wa, n_wa, c_wa, x_wb, n_wb, c_wb, x_wc, n_wc, c_wc, rfl, ho_w⟩ := Row.kDz_shape ho_w
          replace C_c := Lib.hid (C_c.out.on hb)
          replace C_x := Lib.hid (C_x.out.on hb)
          replace C_d := Lib.hid (C_d.out.on hb)
          replace C_y := Lib.hid (C_y.out.on hb)
          replace H_c := Lib.hid (H_c.out.on hb)
          replace H_x := Lib.hid (H_x.out.on hb)
          replace H_d := Lib.hid (H_d.out.on hb)
          replace H_y := Lib.hid (H_y.out.on hb)
          replace BB := Lib.hid (BB.out.trans (hb.mono BB.out.size))
          clear hb
          have H_w := Lib.hid ho_w.at; clear ho_w
          have hal := (Below.refl (w13).heap.size (w13)).alloc (Nat.le_refl _) (.cells #[.slice x_wa n_wa c_wa, .slice x_wb n_wb c_wb, .slice x_wc n_wc c_wc, .int .i64 xx.2.2.2.1, .int .i64 xx.2.2.2.2] 31)
          replace C_c := Lib.hid (C_c.out.on hal)
          replace C_x := Lib.hid (C_x.out.on hal)
          replace C_d := Lib.hid (C_d.out.on hal)
          replace C_y := Lib.hid (C_y.out.on hal)
          replace H_c := Lib.hid (H_c.out.on hal)
          replace H_x := Lib.hid (H_x.out.on hal)
          replace H_d := Lib.hid (H_d.out.on hal)
          replace H_y := Lib.hid (H_y.out.on hal)
          replace H_w := Lib.hid (H_w.out.on hal)
          replace BB := Lib.hid (BB.out.trans (hal.mono BB.out.size))
          have C_w := Lib.hid (Ret.Blk.new' (w := w13) #[.slice x_wa n_wa c_wa, .slice x_wb n_wb c_wb, .slice x_wc n_wc c_wc, .int .i64 xx.2.2.2.1, .int .i64 xx.2.2.2.2] 31 (n := w13.heap.size) (by first | rfl | simp)); clear hal
          have c0_d : (w13.alloc (.cells #[.slice x_wa n_wa c_wa, .slice x_wb n_wb c_wb, .slice x_wc n_wc c_wc, .int .i64 xx.2.2.2.1, .int .i64 xx.2.2.2.2] 31)).cell? ⟨w2.heap.size, 0, none⟩ = some (.int .i64 xd.1) := C_d.out.cell 0
          have c1_d : (w13.alloc (.cells #[.slice x_wa n_wa c_wa, .slice x_wb n_wb c_wb, .slice x_wc n_wc c_wc, .int .i64 xx.2.2.2.1, .int .i64 xx.2.2.2.2] 31)).cell? ⟨w2.heap.size, 1, none⟩ = some (.slice x_d n_d c_d) := C_d.out.cell 1
          go_wp2_with fail
          clear c0_d c1_d
          refine (Row.iVcV true HV1.out H_d.out s_d.out).mono ?_
          rintro e w14 ⟨rfl, hb⟩
          replace C_c := Lib.hid (C_c.out.on hb)
          replace C_x := Lib.hid (C_x.out.on hb)
          replace C_d := Lib.hid (C_d.out.on hb)
          replace C_y := Lib.hid (C_y.out.on hb)
          replace C_w := Lib.hid (C_w.out.on hb)
          replace H_c := Lib.hid (H_c.out.on hb)
          replace H_x := Lib.hid (H_x.out.on hb)
          replace H_d := Lib.hid (H_d.out.on hb)
          replace H_y := Lib.hid (H_y.out.on hb)
          replace H_w := Lib.hid (H_w.out.on hb)
          replace BB := Lib.hid (BB.out.trans (hb.mono BB.out.size))
          clear hb
          have c0_x : w14.cell? ⟨w1.heap.size + 1, 0, none⟩ = some (.slice x_xa n_xa c_xa) := C_x.out.cell 0
          have c1_x : w14.cell? ⟨w1.heap.size + 1, 1, none⟩ = some (.slice x_xb n_xb c_xb) := C_x.out.cell 1
          have c2_x : w14.cell? ⟨w1.heap.size + 1, 2, none⟩ = some (.slice x_xc n_xc c_xc) := C_x.out.cell 2
          have c3_x : w14.cell? ⟨w1.heap.size + 1, 3, none⟩ = some (.int .i64 xx.2.2.2.1) := C_x.out.cell 3
          have c4_x : w14.cell? ⟨w1.heap.size + 1, 4, none⟩ = some (.int .i64 xx.2.2.2.2) := C_x.out.cell 4
          have c0_w : w14.cell? ⟨w13.heap.size, 0, none⟩ = some (.slice x_wa n_wa c_wa) := C_w.out.cell 0
          have c1_w : w14.cell? ⟨w13.heap.size, 1, none⟩ = some (.slice x_wb n_wb c_wb) := C_w.out.cell 1
          have c2_w : w14.cell? ⟨w13.heap.size, 2, none⟩ = some (.slice x_wc n_wc c_wc) := C_w.out.cell 2
          have c3_w : w14.cell? ⟨w13.heap.size, 3, none⟩ = some (.int .i64 xx.2.2.2.1) := C_w.out.cell 3
          have c4_w : w14.cell? ⟨w13.heap.size, 4, none⟩ = some (.int .i64 xx.2.2.2.2) := C_w.out.cell 4
          go_wp2_with fail
          clear c0_x c1_x c2_x c3_x c4_x c0_w c1_w c2_w c3_w c4_w
          refine (Row.sameZV H_w.out H_x.out HIX.out HBX.out).mono ?_
          rintro e w15 ⟨rfl, hb⟩
          replace C_c := Lib.hid (C_c.out.on hb)
          replace C_x := Lib.hid (C_x.out.on hb)
          replace C_d := Lib.hid (C_d.out.on hb)
          replace C_y := Lib.hid (C_y.out.on hb)
          replace C_w := Lib.hid (C_w.out.on hb)
          replace H_c := Lib.hid (H_c.out.on hb)
          replace H_x := Lib.hid (H_x.out.on hb)
          replace H_d := Lib.hid (H_d.out.on hb)
          replace H_y := Lib.hid (H_y.out.on hb)
          replace H_w := Lib.hid (H_w.out.on hb)
          replace BB := Lib.hid (BB.out.trans (hb.mono BB.out.size))
          clear hb
          obtain ⟨xe, h_xe⟩ : ∃ z, Row.evictC xd wh = z := ⟨_, rfl⟩
          have HEE := Lib.hid h_xe; clear h_xe
          have s_f := Lib.hid (show Row.smC 95 xe by rw [← HEE.out]; exact Row.smC_evict s_d.out)
          have HVE := Lib.hid (show Row.validC xe = true by rw [← HEE.out]; exact Row.fin_evict HV1.out)
          cases ok with
          | false =>
            have c0_c : w15.cell? ⟨w1.heap.size, 0, none⟩ = some (.int .i64 xc.1) := C_c.out.cell 0
            have c1_c : w15.cell? ⟨w1.heap.size, 1, none⟩ = some (.slice x_c n_c c_c) := C_c.out.cell 1
            have c0_d : w15.cell? ⟨w2.heap.size, 0, none⟩ = some (.int .i64 xd.1) := C_d.out.cell 0
            have c1_d : w15.cell? ⟨w2.heap.size, 1, none⟩ = some (.slice x_d n_d c_d) := C_d.out.cell 1
            go_wp2_with fail
            clear c0_c c1_c c0_d c1_d
            refine (Row.iEvV xe wh HEE.out H_d.out s_d.out).mono ?_
            rintro e w16 ⟨U_f, rfl, ho_f, hb⟩
            obtain ⟨x_f, n_f, c_f, rfl, ho_f⟩ := Row.kCn_shape ho_f
            replace C_c := Lib.hid (C_c.out.on hb)
            replace C_x := Lib.hid (C_x.out.on hb)
            replace C_d := Lib.hid (C_d.out.on hb)
            replace C_y := Lib.hid (C_y.out.on hb)
            replace C_w := Lib.hid (C_w.out.on hb)
            replace H_c := Lib.hid (H_c.out.on hb)
            replace H_x := Lib.hid (H_x.out.on hb)
            replace H_d := Lib.hid (H_d.out.on hb)
            replace H_y := Lib.hid (H_y.out.on hb)
            replace H_w := Lib.hid (H_w.out.on hb)
            replace BB := Lib.hid (BB.out.trans (hb.mono BB.out.size))
            clear hb
            have H_f := Lib.hid ho_f.at; clear ho_f
            go_wp2_with fail
            refine (Row.iVcV true HVE.out H_f.out s_f.out).mono ?_
            rintro e w17 ⟨rfl, hb⟩
            replace C_c := Lib.hid (C_c.out.on hb)
            replace C_x := Lib.hid (C_x.out.on hb)
            replace C_d := Lib.hid (C_d.out.on hb)
            replace C_y := Lib.hid (C_y.out.on hb)
            replace C_w := Lib.hid (C_w.out.on hb)
            replace H_c := Lib.hid (H_c.out.on hb)
            replace H_x := Lib.hid (H_x.out.on hb)
            replace H_d := Lib.hid (H_d.out.on hb)
            replace H_y := Lib.hid (H_y.out.on hb)
            replace H_w := Lib.hid (H_w.out.on hb)
            replace H_f := Lib.hid (H_f.out.on hb)
            replace BB := Lib.hid (BB.out.trans (hb.mono BB.out.size))
            clear hb
            go_wp2_with fail
            go_ret
            exact ⟨rfl, BB.out⟩
          | true =>
            have HFR := Lib.hid (Row.fin_fresh HLK.out HOK.out)
            have c0_c : w15.cell? ⟨w1.heap.size, 0, none⟩ = some (.int .i64 xc.1) := C_c.out.cell 0
            have c1_c : w15.cell? ⟨w1.heap.size, 1, none⟩ = some (.slice x_c n_c c_c) := C_c.out.cell 1
            have c0_d : w15.cell? ⟨w2.heap.size, 0, none⟩ = some (.int .i64 xd.1) := C_d.out.cell 0
            have c1_d : w15.cell? ⟨w2.heap.size, 1, none⟩ = some (.slice x_d n_d c_d) := C_d.out.cell 1
            have c0_y : w15.cell? ⟨w4.heap.size, 0, none⟩ = some (.slice x_ya n_ya c_ya) := C_y.out.cell 0
            have c1_y : w15.cell? ⟨w4.heap.size, 1, none⟩ = some (.slice x_yb n_yb c_yb) := C_y.out.cell 1
            have c2_y : w15.cell? ⟨w4.heap.size, 2, none⟩ = some (.slice x_yc n_yc c_yc) := C_y.out.cell 2
            have c3_y : w15.cell? ⟨w4.heap.size, 3, none⟩ = some (.int .i64 xy.2.2.2.1) := C_y.out.cell 3
            have c4_y : w15.cell? ⟨w4.heap.size, 4, none⟩ = some (.int .i64 xy.2.2.2.2) := C_y.out.cell 4
            go_wp2_with fail
            clear c0_c c1_c c0_d c1_d c0_y c1_y c2_y c3_y c4_y
            refine (Row.iFrV true t HFR.out H_y.out).mono ?_
            rintro e w18 ⟨rfl, hb⟩
            replace C_c := Lib.hid (C_c.out.on hb)
            replace C_x := Lib.hid (C_x.out.on hb)
            replace C_d := Lib.hid (C_d.out.on hb)
            replace C_y := Lib.hid (C_y.out.on hb)
            replace C_w := Lib.hid (C_w.out.on hb)
            replace H_c := Lib.hid (H_c.out.on hb)
            replace H_x := Lib.hid (H_x.out.on hb)
            replace H_d := Lib.hid (H_d.out.on hb)
            replace H_y := Lib.hid (H_y.out.on hb)
            replace H_w := Lib.hid (H_w.out.on hb)
            replace BB := Lib.hid (BB.out.trans (hb.mono BB.out.size))
            clear hb
            have c0_d : w18.cell? ⟨w2.heap.size, 0, none⟩ = some (.int .i64 xd.1) := C_d.out.cell 0
            have c1_d : w18.cell? ⟨w2.heap.size, 1, none⟩ = some (.slice x_d n_d c_d) := C_d.out.cell 1
            go_wp2_with fail
            clear c0_d c1_d
            refine (Row.iEvV xe wh HEE.out H_d.out s_d.out).mono ?_
            rintro e w19 ⟨U_f, rfl, ho_f, hb⟩
            obtain ⟨x_f, n_f, c_f, rfl, ho_f⟩ := Row.kCn_shape ho_f
            replace C_c := Lib.hid (C_c.out.on hb)
            replace C_x := Lib.hid (C_x.out.on hb)
            replace C_d := Lib.hid (C_d.out.on hb)
            replace C_y := Lib.hid (C_y.out.on hb)
            replace C_w := Lib.hid (C_w.out.on hb)
            replace H_c := Lib.hid (H_c.out.on hb)
            replace H_x := Lib.hid (H_x.out.on hb)
            replace H_d := Lib.hid (H_d.out.on hb)
            replace H_y := Lib.hid (H_y.out.on hb)
            replace H_w := Lib.hid (H_w.out.on hb)
            replace BB := Lib.hid (BB.out.trans (hb.mono BB.out.size))
            clear hb
            have H_f := Lib.hid ho_f.at; clear ho_f
            go_wp2_with fail
            refine (Row.iVcV true HVE.out H_f.out s_f.out).mono ?_
            rintro e w20 ⟨rfl, hb⟩
            replace C_c := Lib.hid (C_c.out.on hb)
            replace C_x := Lib.hid (C_x.out.on hb)
            replace C_d := Lib.hid (C_d.out.on hb)
            replace C_y := Lib.hid (C_y.out.on hb)
            replace C_w := Lib.hid (C_w.out.on hb)
            replace H_c := Lib.hid (H_c.out.on hb)
            replace H_x := Lib.hid (H_x.out.on hb)
            replace H_d := Lib.hid (H_d.out.on hb)
            replace H_y := Lib.hid (H_y.out.on hb)
            replace H_w := Lib.hid (H_w.out.on hb)
            replace H_f := Lib.hid (H_f.out.on hb)
            replace BB := Lib.hid (BB.out.trans (hb.mono BB.out.size))
            clear hb
            go_wp2_with fail
            go_ret
            exact ⟨rfl, BB.out⟩
  · obtain ⟨x, cap, rfl, -⟩ := Draw.bytes_at q0
    have hl : decide ((1048576 : Int) < (l0.length : Int)) = true := by simpa using hlen
    clear hlen q0
    obtain ⟨n0, hn0⟩ : ∃ n0, n0 = l0.length := ⟨_, rfl⟩
    rw [← hn0] at hl ⊢
    clear hn0
    go_enter Tryz.func3, Tryz.ntmps3
    go_wp2_with fail
    refine (Draw.big_yes x n0 cap w hl).mono ?_
    rintro e w' ⟨rfl, rfl⟩
    go_wp2_with fail
    go_ret
    exact ⟨rfl, Below.refl _ _⟩

set_option maxRecDepth 100000 in
theorem lifted (os : Os) (started : os.Started) (H : Type) (enc : TypeId × Value → H) :
    ReturnsInHanded {} Tryz.checked os 3 .any (Rows.fnCachesSpec.pre6 enc Tryz.prog Tryz.f3 Rows.fnCachesRow.domain false) (Rows.fnCachesSpec.post enc Tryz.prog Tryz.f3 false true false false) := by
  refine returnsInHanded_of_change_sized (C := Tryz.checked) own started (by kernel_rfl) Tryz.func3
    (ChangeSpec.witness6 (enc := enc) (C := Tryz.checked) false ⟨#[], #[.slice none 0 0], []⟩ 8 (by kernel_rfl) (by kernel_rfl) (by kernel_rfl) (by kernel_rfl)) ?_
  intro W base args ds gs before hval0 hW _ hsz0 _
  have hval : ∀ (j : Nat) t v, Tryz.f3.params[j]? = some t → args[j]? = some v → Value.okWide Tryz.prog W .any base t v := hval0
  have hsz : (DataW.weightsEach Tryz.prog (Tryz.f3.params.toList ++ Rows.fnCachesSpec.plain.varTypes Tryz.prog) (ds ++ gs)).all (· ≤ reachBytes) = true := hsz0
  clear hsz0
  have hW' := hW
  obtain ⟨p, q, hA0, hV, rfl, hfz, hnd⟩ := hW
  have hA : DataW.TrodAll enc Tryz.prog W 0 (fun _ => true) true Tryz.f3.params.toList args.toList ds p := hA0
  rw [Tryz.params3] at hA hval hsz
  obtain ⟨v0, vs0, d0, ds0, p0, q0, hargs, rfl, rfl, h0, r0⟩ := trodAll_cons hA
  obtain ⟨rfl, rfl, rfl⟩ := trodAll_nil r0
  obtain rfl : args = #[v0] := by cases args; simp_all
  obtain ⟨rfl, rfl⟩ := trodVars_none hV
  obtain ⟨l0, q0⟩ := Frame.open_bytes (j := 0) Tryz.underlying22 Tryz.underlying5 (by kernel_rfl) (by kernel_rfl) (hval 0 22 v0 rfl rfl) h0 hsz rfl rfl
  clear hA0 hval0
  refine (walk W _ _ q0).mono fun e W' ⟨he, hb⟩ => ?_
  subst he
  exact ⟨_, rfl, Frame.law_post laidOut (by kernel_rfl) rfl Tryz.underlying4 rfl rfl hW' hb⟩

theorem said : Rows.FnCachesSaid :=
  OpenClaim.holds_of_wide 3 Tryz.f3 rfl rfl rfl rfl rfl rfl rfl ⟨rfl, rfl, rfl, rfl, rfl⟩ rfl rfl rfl rfl rfl (by kernel_rfl) Tryz.func3 (by kernel_rfl)
    (of_decide_eq_true (by kernel_rfl)) (by unfold Func.isWrapper; first | (rw [if_pos (by decide +kernel)]; kernel_rfl) | (rw [if_neg (by decide +kernel)]; exact ⟨rfl, rfl⟩))
    (fun os started H enc _ => lifted os started H enc)

#print axioms said
end Go.Proofs.YtfglcmanmfenpaaGreat.fnCaches
