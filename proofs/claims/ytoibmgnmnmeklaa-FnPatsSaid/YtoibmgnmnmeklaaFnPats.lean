/- For every slice of bytes: the program answers as the model at the drawn patterns, names and bindings; an instance of a pattern matches it; what matches keeps its bindings; a parsed pattern has its text. No conditions. -/
import Derived.Test.YtoibmgnmnmeklaaRows
import Derived.WalkKit
import Derived.ProofKit
import Derived.OpenShut
import Derived.SizedLaws
import Derived.Test.YtoibmgnmnmeklaaFrame
import Derived.Test.YtoibmgnmnmeklaaPatTop
import Derived.Test.YtoibmgnmnmeklaaRegP
namespace Go.Proofs.Ytoibmgnmnmeklaa.fnPats
open Go.ChangeShapes Go.WideShapes Go.ChangeAt Go.RowKit
open Go.ChangeMaps (open_string shut_string)
set_option linter.unusedVariables false

theorem own : ownKnob Try.prog.godebug = none := by kernel_rfl
theorem laidOut : laidOutB Try.prog = true := by kernel_rfl

set_option maxRecDepth 100000 in
set_option maxHeartbeats 80000000 in
theorem walk (w : World) (y0 : Value) (l0 : List UInt8) (q0 : Frame.Bytes w y0 l0) :
    Calls Try.prog 3 #[y0] w fun e w' => e = .returned (.bool true) ∧ Below w.heap.size w w' := by
  by_cases hlen : (l0.length : Int) ≤ 1048576
  · obtain ⟨x, cap, rfl, -⟩ := Draw.bytes_at q0
    have hl : decide ((1048576 : Int) < (l0.length : Int)) = false := by simpa using hlen
    have Q0 := Lib.hid q0; clear q0 hlen
    obtain ⟨n0, hn0⟩ : ∃ n0, n0 = l0.length := ⟨_, rfl⟩
    rw [← hn0] at hl Q0 ⊢
    have HN0 := Lib.hid hn0; clear hn0
    have BB := Lib.hid (Below.refl w.heap.size w)
    go_enter Try.func3, Try.ntmps3
    go_wp2_with fail
    refine (Draw.big_no x n0 cap w hl).mono ?_
    rintro e w' ⟨rfl, rfl⟩
    go_wp2_with fail
    refine (Draw.drawMatch _ _ l0 (Q0.out.on BB.out)).mono ?_
    rintro e w1 ⟨u1, mp, u2, mn, u3, bl, rfl, ho_p, bmp, ho_n, bmn, ho_l, bbl, hb⟩
    obtain ⟨x_p, n_p, c_p, rfl, e_p, -, ho_p⟩ := ho_p.shapeN; have E_p := Lib.hid e_p; clear e_p
    obtain ⟨x_n, n_n, c_n, rfl, e_n, -, ho_n⟩ := ho_n.shapeN; have E_n := Lib.hid e_n; clear e_n
    obtain ⟨x_l, n_l, c_l, rfl, e_l, -, ho_l⟩ := ho_l.shapeN; have E_l := Lib.hid e_l; clear e_l
    replace BB := Lib.hid (BB.out.trans (hb.mono BB.out.size))
    clear hb
    have H_p := Lib.hid ho_p.holds; clear ho_p
    have H_n := Lib.hid ho_n.holds; clear ho_n
    have H_l := Lib.hid ho_l.holds; clear ho_l
    have lbl := Nat.le_trans (Row.bulk2_len bl) bbl
    have hal := (Below.refl (w1).heap.size (w1)).alloc (Nat.le_refl _) (.cells #[.slice x_p n_p c_p] 26)
    replace H_p := Lib.hid (H_p.out.on hal)
    replace H_n := Lib.hid (H_n.out.on hal)
    replace H_l := Lib.hid (H_l.out.on hal)
    replace BB := Lib.hid (BB.out.trans (hal.mono BB.out.size))
    have C_p := Lib.hid (Ret.Box.new' (w := w1) (.slice x_p n_p c_p) 26 (n := w1.heap.size) (by first | rfl | simp)); clear hal
    have hal := (Below.refl ((w1.alloc (.cells #[.slice x_p n_p c_p] 26))).heap.size ((w1.alloc (.cells #[.slice x_p n_p c_p] 26)))).alloc (Nat.le_refl _) (.cells #[.slice x_n n_n c_n] 27)
    replace C_p := Lib.hid (C_p.out.on hal)
    replace H_p := Lib.hid (H_p.out.on hal)
    replace H_n := Lib.hid (H_n.out.on hal)
    replace H_l := Lib.hid (H_l.out.on hal)
    replace BB := Lib.hid (BB.out.trans (hal.mono BB.out.size))
    have C_n := Lib.hid (Ret.Box.new' (w := (w1.alloc (.cells #[.slice x_p n_p c_p] 26))) (.slice x_n n_n c_n) 27 (n := w1.heap.size + 1) (by first | rfl | simp)); clear hal
    have c_p := C_p.out.cell
    have c_n := C_n.out.cell
    go_wp2_with fail
    clear c_p c_n
    refine (Row.implMatchX _ _ _ mp mn bl _ H_p.out H_n.out H_l.out (by omega) (by omega) (by omega)).mono ?_
    rintro e w2 ⟨u4, rfl, ho_b, hb⟩
    obtain ⟨x_b, n_b, c_b, rfl, e_b, -, ho_b⟩ := ho_b.shapeN; have E_b := Lib.hid e_b; clear e_b
    replace C_p := Lib.hid (C_p.out.on hb)
    replace C_n := Lib.hid (C_n.out.on hb)
    replace H_p := Lib.hid (H_p.out.on hb)
    replace H_n := Lib.hid (H_n.out.on hb)
    replace H_l := Lib.hid (H_l.out.on hb)
    replace BB := Lib.hid (BB.out.trans (hb.mono BB.out.size))
    clear hb
    have H_b := Lib.hid ho_b.holds; clear ho_b
    have c_p := C_p.out.cell
    have c_n := C_n.out.cell
    go_wp2_with fail
    clear c_p c_n
    refine (Row.specMatchX _ _ _ mp mn bl _ H_p.out H_n.out H_l.out (by omega) (by omega) (by omega)).mono ?_
    rintro e w3 ⟨u5, rfl, ho_c, hb⟩
    obtain ⟨x_c, n_c, c_c, rfl, e_c, -, ho_c⟩ := ho_c.shapeN; have E_c := Lib.hid e_c; clear e_c
    replace C_p := Lib.hid (C_p.out.on hb)
    replace C_n := Lib.hid (C_n.out.on hb)
    replace H_p := Lib.hid (H_p.out.on hb)
    replace H_n := Lib.hid (H_n.out.on hb)
    replace H_l := Lib.hid (H_l.out.on hb)
    replace H_b := Lib.hid (H_b.out.on hb)
    replace BB := Lib.hid (BB.out.trans (hb.mono BB.out.size))
    clear hb
    have H_c := Lib.hid ho_c.holds; clear ho_c
    have c_p := C_p.out.cell
    have c_n := C_n.out.cell
    go_wp2_with fail
    clear c_p c_n
    refine (Draw.drawMatches _ _ l0 (Q0.out.on BB.out)).mono ?_
    rintro e w4 ⟨u6, mq, u7, mm, rfl, ho_q, bmq, ho_m, bmm, hb⟩
    obtain ⟨x_q, n_q, c_q, rfl, e_q, -, ho_q⟩ := ho_q.shapeN; have E_q := Lib.hid e_q; clear e_q
    obtain ⟨x_m, n_m, c_m, rfl, e_m, -, ho_m⟩ := ho_m.shapeN; have E_m := Lib.hid e_m; clear e_m
    replace C_p := Lib.hid (C_p.out.on hb)
    replace C_n := Lib.hid (C_n.out.on hb)
    replace H_p := Lib.hid (H_p.out.on hb)
    replace H_n := Lib.hid (H_n.out.on hb)
    replace H_l := Lib.hid (H_l.out.on hb)
    replace H_b := Lib.hid (H_b.out.on hb)
    replace H_c := Lib.hid (H_c.out.on hb)
    replace BB := Lib.hid (BB.out.trans (hb.mono BB.out.size))
    clear hb
    have H_q := Lib.hid ho_q.holds; clear ho_q
    have H_m := Lib.hid ho_m.holds; clear ho_m
    have hal := (Below.refl (w4).heap.size (w4)).alloc (Nat.le_refl _) (.cells #[.slice x_q n_q c_q] 26)
    replace C_p := Lib.hid (C_p.out.on hal)
    replace C_n := Lib.hid (C_n.out.on hal)
    replace H_p := Lib.hid (H_p.out.on hal)
    replace H_n := Lib.hid (H_n.out.on hal)
    replace H_l := Lib.hid (H_l.out.on hal)
    replace H_b := Lib.hid (H_b.out.on hal)
    replace H_c := Lib.hid (H_c.out.on hal)
    replace H_q := Lib.hid (H_q.out.on hal)
    replace H_m := Lib.hid (H_m.out.on hal)
    replace BB := Lib.hid (BB.out.trans (hal.mono BB.out.size))
    have C_q := Lib.hid (Ret.Box.new' (w := w4) (.slice x_q n_q c_q) 26 (n := w4.heap.size) (by first | rfl | simp)); clear hal
    have hal := (Below.refl ((w4.alloc (.cells #[.slice x_q n_q c_q] 26))).heap.size ((w4.alloc (.cells #[.slice x_q n_q c_q] 26)))).alloc (Nat.le_refl _) (.cells #[.slice x_m n_m c_m] 27)
    replace C_p := Lib.hid (C_p.out.on hal)
    replace C_n := Lib.hid (C_n.out.on hal)
    replace C_q := Lib.hid (C_q.out.on hal)
    replace H_p := Lib.hid (H_p.out.on hal)
    replace H_n := Lib.hid (H_n.out.on hal)
    replace H_l := Lib.hid (H_l.out.on hal)
    replace H_b := Lib.hid (H_b.out.on hal)
    replace H_c := Lib.hid (H_c.out.on hal)
    replace H_q := Lib.hid (H_q.out.on hal)
    replace H_m := Lib.hid (H_m.out.on hal)
    replace BB := Lib.hid (BB.out.trans (hal.mono BB.out.size))
    have C_m := Lib.hid (Ret.Box.new' (w := (w4.alloc (.cells #[.slice x_q n_q c_q] 26))) (.slice x_m n_m c_m) 27 (n := w4.heap.size + 1) (by first | rfl | simp)); clear hal
    have c_p := C_p.out.cell
    have c_n := C_n.out.cell
    have c_q := C_q.out.cell
    have c_m := C_m.out.cell
    go_wp2_with fail
    clear c_p c_n c_q c_m
    refine (Draw.drawParsePattern _ _ l0 (Q0.out.on BB.out)).mono ?_
    rintro e w5 ⟨s, rfl, bs, hb⟩
    replace C_p := Lib.hid (C_p.out.on hb)
    replace C_n := Lib.hid (C_n.out.on hb)
    replace C_q := Lib.hid (C_q.out.on hb)
    replace C_m := Lib.hid (C_m.out.on hb)
    replace H_p := Lib.hid (H_p.out.on hb)
    replace H_n := Lib.hid (H_n.out.on hb)
    replace H_l := Lib.hid (H_l.out.on hb)
    replace H_b := Lib.hid (H_b.out.on hb)
    replace H_c := Lib.hid (H_c.out.on hb)
    replace H_q := Lib.hid (H_q.out.on hb)
    replace H_m := Lib.hid (H_m.out.on hb)
    replace BB := Lib.hid (BB.out.trans (hb.mono BB.out.size))
    clear hb
    have c_p := C_p.out.cell
    have c_n := C_n.out.cell
    have c_q := C_q.out.cell
    have c_m := C_m.out.cell
    go_wp2_with fail
    clear c_p c_n c_q c_m
    refine (Row.implParsePattern s _ (by omega)).mono ?_
    rintro e w6 ⟨u8, rfl, ho_x, hb⟩
    obtain ⟨x_x, n_x, c_x, rfl, e_x, -, ho_x⟩ := ho_x.shapeN; have E_x := Lib.hid e_x; clear e_x
    replace C_p := Lib.hid (C_p.out.on hb)
    replace C_n := Lib.hid (C_n.out.on hb)
    replace C_q := Lib.hid (C_q.out.on hb)
    replace C_m := Lib.hid (C_m.out.on hb)
    replace H_p := Lib.hid (H_p.out.on hb)
    replace H_n := Lib.hid (H_n.out.on hb)
    replace H_l := Lib.hid (H_l.out.on hb)
    replace H_b := Lib.hid (H_b.out.on hb)
    replace H_c := Lib.hid (H_c.out.on hb)
    replace H_q := Lib.hid (H_q.out.on hb)
    replace H_m := Lib.hid (H_m.out.on hb)
    replace BB := Lib.hid (BB.out.trans (hb.mono BB.out.size))
    clear hb
    have H_x := Lib.hid ho_x.holds; clear ho_x
    have hal := (Below.refl (w6).heap.size (w6)).alloc (Nat.le_refl _) (.cells #[.slice x_x n_x c_x] 26)
    replace C_p := Lib.hid (C_p.out.on hal)
    replace C_n := Lib.hid (C_n.out.on hal)
    replace C_q := Lib.hid (C_q.out.on hal)
    replace C_m := Lib.hid (C_m.out.on hal)
    replace H_p := Lib.hid (H_p.out.on hal)
    replace H_n := Lib.hid (H_n.out.on hal)
    replace H_l := Lib.hid (H_l.out.on hal)
    replace H_b := Lib.hid (H_b.out.on hal)
    replace H_c := Lib.hid (H_c.out.on hal)
    replace H_q := Lib.hid (H_q.out.on hal)
    replace H_m := Lib.hid (H_m.out.on hal)
    replace H_x := Lib.hid (H_x.out.on hal)
    replace BB := Lib.hid (BB.out.trans (hal.mono BB.out.size))
    have C_x := Lib.hid (Ret.Box.new' (w := w6) (.slice x_x n_x c_x) 26 (n := w6.heap.size) (by first | rfl | simp)); clear hal
    have c_p := C_p.out.cell
    have c_n := C_n.out.cell
    have c_q := C_q.out.cell
    have c_m := C_m.out.cell
    have c_x := C_x.out.cell
    go_wp2_with fail
    clear c_p c_n c_q c_m c_x
    refine (Row.specParsePattern s _ (by omega)).mono ?_
    rintro e w7 ⟨u9, rfl, ho_y, hb⟩
    obtain ⟨x_y, n_y, c_y, rfl, e_y, -, ho_y⟩ := ho_y.shapeN; have E_y := Lib.hid e_y; clear e_y
    replace C_p := Lib.hid (C_p.out.on hb)
    replace C_n := Lib.hid (C_n.out.on hb)
    replace C_q := Lib.hid (C_q.out.on hb)
    replace C_m := Lib.hid (C_m.out.on hb)
    replace C_x := Lib.hid (C_x.out.on hb)
    replace H_p := Lib.hid (H_p.out.on hb)
    replace H_n := Lib.hid (H_n.out.on hb)
    replace H_l := Lib.hid (H_l.out.on hb)
    replace H_b := Lib.hid (H_b.out.on hb)
    replace H_c := Lib.hid (H_c.out.on hb)
    replace H_q := Lib.hid (H_q.out.on hb)
    replace H_m := Lib.hid (H_m.out.on hb)
    replace H_x := Lib.hid (H_x.out.on hb)
    replace BB := Lib.hid (BB.out.trans (hb.mono BB.out.size))
    clear hb
    have H_y := Lib.hid ho_y; clear ho_y
    have hal := (Below.refl (w7).heap.size (w7)).alloc (Nat.le_refl _) (.cells #[.slice x_y n_y c_y] 26)
    replace C_p := Lib.hid (C_p.out.on hal)
    replace C_n := Lib.hid (C_n.out.on hal)
    replace C_q := Lib.hid (C_q.out.on hal)
    replace C_m := Lib.hid (C_m.out.on hal)
    replace C_x := Lib.hid (C_x.out.on hal)
    replace H_p := Lib.hid (H_p.out.on hal)
    replace H_n := Lib.hid (H_n.out.on hal)
    replace H_l := Lib.hid (H_l.out.on hal)
    replace H_b := Lib.hid (H_b.out.on hal)
    replace H_c := Lib.hid (H_c.out.on hal)
    replace H_q := Lib.hid (H_q.out.on hal)
    replace H_m := Lib.hid (H_m.out.on hal)
    replace H_x := Lib.hid (H_x.out.on hal)
    replace H_y := Lib.hid (H_y.out.on hal)
    replace BB := Lib.hid (BB.out.trans (hal.mono BB.out.size))
    have C_y := Lib.hid (Ret.Box.new' (w := w7) (.slice x_y n_y c_y) 26 (n := w7.heap.size) (by first | rfl | simp)); clear hal
    have c_p := C_p.out.cell
    have c_n := C_n.out.cell
    have c_q := C_q.out.cell
    have c_m := C_m.out.cell
    have c_x := C_x.out.cell
    have c_y := C_y.out.cell
    go_wp2_with fail
    clear c_p c_n c_q c_m c_x c_y
    refine (Draw.drawInstantiate _ _ l0 (Q0.out.on BB.out)).mono ?_
    rintro e w8 ⟨u10, mf, u11, bg, rfl, ho_f, bmf, ho_g, bbg, hb⟩
    obtain ⟨x_f, n_f, c_f, rfl, e_f, -, ho_f⟩ := ho_f.shapeN; have E_f := Lib.hid e_f; clear e_f
    obtain ⟨x_g, n_g, c_g, rfl, e_g, -, ho_g⟩ := ho_g.shapeN; have E_g := Lib.hid e_g; clear e_g
    replace C_p := Lib.hid (C_p.out.on hb)
    replace C_n := Lib.hid (C_n.out.on hb)
    replace C_q := Lib.hid (C_q.out.on hb)
    replace C_m := Lib.hid (C_m.out.on hb)
    replace C_x := Lib.hid (C_x.out.on hb)
    replace C_y := Lib.hid (C_y.out.on hb)
    replace H_p := Lib.hid (H_p.out.on hb)
    replace H_n := Lib.hid (H_n.out.on hb)
    replace H_l := Lib.hid (H_l.out.on hb)
    replace H_b := Lib.hid (H_b.out.on hb)
    replace H_c := Lib.hid (H_c.out.on hb)
    replace H_q := Lib.hid (H_q.out.on hb)
    replace H_m := Lib.hid (H_m.out.on hb)
    replace H_x := Lib.hid (H_x.out.on hb)
    replace H_y := Lib.hid (H_y.out.on hb)
    replace BB := Lib.hid (BB.out.trans (hb.mono BB.out.size))
    clear hb
    have H_f := Lib.hid ho_f.holds; clear ho_f
    have H_g := Lib.hid ho_g.holds; clear ho_g
    have lbg := Nat.le_trans (Row.bulk2_len bg) bbg
    have hal := (Below.refl (w8).heap.size (w8)).alloc (Nat.le_refl _) (.cells #[.slice x_f n_f c_f] 26)
    replace C_p := Lib.hid (C_p.out.on hal)
    replace C_n := Lib.hid (C_n.out.on hal)
    replace C_q := Lib.hid (C_q.out.on hal)
    replace C_m := Lib.hid (C_m.out.on hal)
    replace C_x := Lib.hid (C_x.out.on hal)
    replace C_y := Lib.hid (C_y.out.on hal)
    replace H_p := Lib.hid (H_p.out.on hal)
    replace H_n := Lib.hid (H_n.out.on hal)
    replace H_l := Lib.hid (H_l.out.on hal)
    replace H_b := Lib.hid (H_b.out.on hal)
    replace H_c := Lib.hid (H_c.out.on hal)
    replace H_q := Lib.hid (H_q.out.on hal)
    replace H_m := Lib.hid (H_m.out.on hal)
    replace H_x := Lib.hid (H_x.out.on hal)
    replace H_y := Lib.hid (H_y.out.on hal)
    replace H_f := Lib.hid (H_f.out.on hal)
    replace H_g := Lib.hid (H_g.out.on hal)
    replace BB := Lib.hid (BB.out.trans (hal.mono BB.out.size))
    have C_f := Lib.hid (Ret.Box.new' (w := w8) (.slice x_f n_f c_f) 26 (n := w8.heap.size) (by first | rfl | simp)); clear hal
    have c_p := C_p.out.cell
    have c_n := C_n.out.cell
    have c_q := C_q.out.cell
    have c_m := C_m.out.cell
    have c_x := C_x.out.cell
    have c_y := C_y.out.cell
    have c_f := C_f.out.cell
    go_wp2_with fail
    clear c_p c_n c_q c_m c_x c_y c_f
    refine (Row.implInstantiate _ _ mf bg _ H_f.out H_g.out (by omega) (by omega)).mono ?_
    rintro e w9 ⟨u12, rfl, ho_u, hb⟩
    obtain ⟨x_u, n_u, c_u, rfl, e_u, -, ho_u⟩ := ho_u.shapeN; have E_u := Lib.hid e_u; clear e_u
    replace C_p := Lib.hid (C_p.out.on hb)
    replace C_n := Lib.hid (C_n.out.on hb)
    replace C_q := Lib.hid (C_q.out.on hb)
    replace C_m := Lib.hid (C_m.out.on hb)
    replace C_x := Lib.hid (C_x.out.on hb)
    replace C_y := Lib.hid (C_y.out.on hb)
    replace C_f := Lib.hid (C_f.out.on hb)
    replace H_p := Lib.hid (H_p.out.on hb)
    replace H_n := Lib.hid (H_n.out.on hb)
    replace H_l := Lib.hid (H_l.out.on hb)
    replace H_b := Lib.hid (H_b.out.on hb)
    replace H_c := Lib.hid (H_c.out.on hb)
    replace H_q := Lib.hid (H_q.out.on hb)
    replace H_m := Lib.hid (H_m.out.on hb)
    replace H_x := Lib.hid (H_x.out.on hb)
    replace H_y := Lib.hid (H_y.out.on hb)
    replace H_f := Lib.hid (H_f.out.on hb)
    replace H_g := Lib.hid (H_g.out.on hb)
    replace BB := Lib.hid (BB.out.trans (hb.mono BB.out.size))
    clear hb
    have H_u := Lib.hid ho_u.holds; clear ho_u
    have hal := (Below.refl (w9).heap.size (w9)).alloc (Nat.le_refl _) (.cells #[.slice x_u n_u c_u] 27)
    replace C_p := Lib.hid (C_p.out.on hal)
    replace C_n := Lib.hid (C_n.out.on hal)
    replace C_q := Lib.hid (C_q.out.on hal)
    replace C_m := Lib.hid (C_m.out.on hal)
    replace C_x := Lib.hid (C_x.out.on hal)
    replace C_y := Lib.hid (C_y.out.on hal)
    replace C_f := Lib.hid (C_f.out.on hal)
    replace H_p := Lib.hid (H_p.out.on hal)
    replace H_n := Lib.hid (H_n.out.on hal)
    replace H_l := Lib.hid (H_l.out.on hal)
    replace H_b := Lib.hid (H_b.out.on hal)
    replace H_c := Lib.hid (H_c.out.on hal)
    replace H_q := Lib.hid (H_q.out.on hal)
    replace H_m := Lib.hid (H_m.out.on hal)
    replace H_x := Lib.hid (H_x.out.on hal)
    replace H_y := Lib.hid (H_y.out.on hal)
    replace H_f := Lib.hid (H_f.out.on hal)
    replace H_g := Lib.hid (H_g.out.on hal)
    replace H_u := Lib.hid (H_u.out.on hal)
    replace BB := Lib.hid (BB.out.trans (hal.mono BB.out.size))
    have C_u := Lib.hid (Ret.Box.new' (w := w9) (.slice x_u n_u c_u) 27 (n := w9.heap.size) (by first | rfl | simp)); clear hal
    have c_p := C_p.out.cell
    have c_n := C_n.out.cell
    have c_q := C_q.out.cell
    have c_m := C_m.out.cell
    have c_x := C_x.out.cell
    have c_y := C_y.out.cell
    have c_f := C_f.out.cell
    have c_u := C_u.out.cell
    go_wp2_with fail
    clear c_p c_n c_q c_m c_x c_y c_f c_u
    refine (Row.specInstantiate _ _ mf bg _ H_f.out H_g.out (by omega) (by omega)).mono ?_
    rintro e w10 ⟨u13, rfl, ho_v, hb⟩
    obtain ⟨x_v, n_v, c_v, rfl, e_v, -, ho_v⟩ := ho_v.shapeN; have E_v := Lib.hid e_v; clear e_v
    replace C_p := Lib.hid (C_p.out.on hb)
    replace C_n := Lib.hid (C_n.out.on hb)
    replace C_q := Lib.hid (C_q.out.on hb)
    replace C_m := Lib.hid (C_m.out.on hb)
    replace C_x := Lib.hid (C_x.out.on hb)
    replace C_y := Lib.hid (C_y.out.on hb)
    replace C_f := Lib.hid (C_f.out.on hb)
    replace C_u := Lib.hid (C_u.out.on hb)
    replace H_p := Lib.hid (H_p.out.on hb)
    replace H_n := Lib.hid (H_n.out.on hb)
    replace H_l := Lib.hid (H_l.out.on hb)
    replace H_b := Lib.hid (H_b.out.on hb)
    replace H_c := Lib.hid (H_c.out.on hb)
    replace H_q := Lib.hid (H_q.out.on hb)
    replace H_m := Lib.hid (H_m.out.on hb)
    replace H_x := Lib.hid (H_x.out.on hb)
    replace H_y := Lib.hid (H_y.out.on hb)
    replace H_f := Lib.hid (H_f.out.on hb)
    replace H_g := Lib.hid (H_g.out.on hb)
    replace H_u := Lib.hid (H_u.out.on hb)
    replace BB := Lib.hid (BB.out.trans (hb.mono BB.out.size))
    clear hb
    have H_v := Lib.hid ho_v.holds; clear ho_v
    have hal := (Below.refl (w10).heap.size (w10)).alloc (Nat.le_refl _) (.cells #[.slice x_v n_v c_v] 27)
    replace C_p := Lib.hid (C_p.out.on hal)
    replace C_n := Lib.hid (C_n.out.on hal)
    replace C_q := Lib.hid (C_q.out.on hal)
    replace C_m := Lib.hid (C_m.out.on hal)
    replace C_x := Lib.hid (C_x.out.on hal)
    replace C_y := Lib.hid (C_y.out.on hal)
    replace C_f := Lib.hid (C_f.out.on hal)
    replace C_u := Lib.hid (C_u.out.on hal)
    replace H_p := Lib.hid (H_p.out.on hal)
    replace H_n := Lib.hid (H_n.out.on hal)
    replace H_l := Lib.hid (H_l.out.on hal)
    replace H_b := Lib.hid (H_b.out.on hal)
    replace H_c := Lib.hid (H_c.out.on hal)
    replace H_q := Lib.hid (H_q.out.on hal)
    replace H_m := Lib.hid (H_m.out.on hal)
    replace H_x := Lib.hid (H_x.out.on hal)
    replace H_y := Lib.hid (H_y.out.on hal)
    replace H_f := Lib.hid (H_f.out.on hal)
    replace H_g := Lib.hid (H_g.out.on hal)
    replace H_u := Lib.hid (H_u.out.on hal)
    replace H_v := Lib.hid (H_v.out.on hal)
    replace BB := Lib.hid (BB.out.trans (hal.mono BB.out.size))
    have C_v := Lib.hid (Ret.Box.new' (w := w10) (.slice x_v n_v c_v) 27 (n := w10.heap.size) (by first | rfl | simp)); clear hal
    have c_p := C_p.out.cell
    have c_n := C_n.out.cell
    have c_q := C_q.out.cell
    have c_m := C_m.out.cell
    have c_x := C_x.out.cell
    have c_y := C_y.out.cell
    have c_f := C_f.out.cell
    have c_u := C_u.out.cell
    have c_v := C_v.out.cell
    go_wp2_with fail
    clear c_p c_n c_q c_m c_x c_y c_f c_u c_v
    refine (Draw.drawBindingValue _ _ l0 (Q0.out.on BB.out)).mono ?_
    rintro e w11 ⟨u14, br, k, rfl, ho_r, bbr, bk, hb⟩
    obtain ⟨x_r, n_r, c_r, rfl, e_r, -, ho_r⟩ := ho_r.shapeN; have E_r := Lib.hid e_r; clear e_r
    replace C_p := Lib.hid (C_p.out.on hb)
    replace C_n := Lib.hid (C_n.out.on hb)
    replace C_q := Lib.hid (C_q.out.on hb)
    replace C_m := Lib.hid (C_m.out.on hb)
    replace C_x := Lib.hid (C_x.out.on hb)
    replace C_y := Lib.hid (C_y.out.on hb)
    replace C_f := Lib.hid (C_f.out.on hb)
    replace C_u := Lib.hid (C_u.out.on hb)
    replace C_v := Lib.hid (C_v.out.on hb)
    replace H_p := Lib.hid (H_p.out.on hb)
    replace H_n := Lib.hid (H_n.out.on hb)
    replace H_l := Lib.hid (H_l.out.on hb)
    replace H_b := Lib.hid (H_b.out.on hb)
    replace H_c := Lib.hid (H_c.out.on hb)
    replace H_q := Lib.hid (H_q.out.on hb)
    replace H_m := Lib.hid (H_m.out.on hb)
    replace H_x := Lib.hid (H_x.out.on hb)
    replace H_y := Lib.hid (H_y.out.on hb)
    replace H_f := Lib.hid (H_f.out.on hb)
    replace H_g := Lib.hid (H_g.out.on hb)
    replace H_u := Lib.hid (H_u.out.on hb)
    replace H_v := Lib.hid (H_v.out.on hb)
    replace BB := Lib.hid (BB.out.trans (hb.mono BB.out.size))
    clear hb
    have H_r := Lib.hid ho_r.holds; clear ho_r
    have c_p := C_p.out.cell
    have c_n := C_n.out.cell
    have c_q := C_q.out.cell
    have c_m := C_m.out.cell
    have c_x := C_x.out.cell
    have c_y := C_y.out.cell
    have c_f := C_f.out.cell
    have c_u := C_u.out.cell
    have c_v := C_v.out.cell
    go_wp2_with fail
    clear c_p c_n c_q c_m c_x c_y c_f c_u c_v
    have lbr := Nat.le_trans (Row.bulk2_len br) bbr; have lpp := Row.ppN_len s; have lin := Row.instN_len mf bg; have lmo := Row.mOut_len mp mn bl; have bpp := Row.bulk_ppN s; have bin := Row.bulk_instN mf bg
    dsimp only [List.append]
    refine Row.reg14 C_q H_q C_m H_m C_x H_x C_y H_y C_u H_u C_v H_v C_f H_f H_b H_c H_r (by omega) (by omega) (by omega) (by omega) (by omega) (by omega) (by omega) ?_
    intro u88 u89 u90 u91 u92 u93 u94 u95 u96 u97 u98 u99 u100 u101 u102 u103 u104 u105 u106 u107 u108 u109 u110 u111 u112 u113 u114 u115 u116 u117 u118 u119 u120 u121 u122 u123 u124 u125 u126 u127 u128 u129 u130 u131 u132 u133 u134 u135 u136 u137 u138 u139 u140 u141 u142 u143 u144 u145 u146 u147 u148 u149 u150 u151 wx hb
    replace C_p := Lib.hid (C_p.out.on hb)
    replace C_n := Lib.hid (C_n.out.on hb)
    replace C_q := Lib.hid (C_q.out.on hb)
    replace C_m := Lib.hid (C_m.out.on hb)
    replace C_x := Lib.hid (C_x.out.on hb)
    replace C_y := Lib.hid (C_y.out.on hb)
    replace C_f := Lib.hid (C_f.out.on hb)
    replace C_u := Lib.hid (C_u.out.on hb)
    replace C_v := Lib.hid (C_v.out.on hb)
    replace H_p := Lib.hid (H_p.out.on hb)
    replace H_n := Lib.hid (H_n.out.on hb)
    replace H_l := Lib.hid (H_l.out.on hb)
    replace H_b := Lib.hid (H_b.out.on hb)
    replace H_c := Lib.hid (H_c.out.on hb)
    replace H_q := Lib.hid (H_q.out.on hb)
    replace H_m := Lib.hid (H_m.out.on hb)
    replace H_x := Lib.hid (H_x.out.on hb)
    replace H_y := Lib.hid (H_y.out.on hb)
    replace H_f := Lib.hid (H_f.out.on hb)
    replace H_g := Lib.hid (H_g.out.on hb)
    replace H_u := Lib.hid (H_u.out.on hb)
    replace H_v := Lib.hid (H_v.out.on hb)
    replace H_r := Lib.hid (H_r.out.on hb)
    replace BB := Lib.hid (BB.out.trans (hb.mono BB.out.size))
    clear hb
    clear H_q
    clear H_m
    clear H_y
    clear H_v
    clear H_r
    clear H_c
    clear C_p
    clear C_n
    clear C_q
    clear C_m
    clear C_y
    clear C_v
    clear H_p
    clear H_n
    cases hg : Row.instOk mf bg
    · skip
      clear hg
      cases ho : Row.mOk mp mn bl
      · skip
        clear ho
        cases hm : Row.ppOk s
        · skip
          clear hm
          have c_x := C_x.out.cell
          have c_f := C_f.out.cell
          have c_u := C_u.out.cell
          go_wp2_with fail
          clear c_x c_f c_u
          go_ret
          exact ⟨by first | rfl | exact Row.ret_bool (by simp), BB.out⟩
        · skip
          have HFM := Lib.hid (show Row.fmtS (Row.ppN s) = s from Row.pt_fmt_pN hm); have HVM := Lib.hid (Row.pt_valid_pN s)
          clear hm
          have c_x := C_x.out.cell
          have c_f := C_f.out.cell
          have c_u := C_u.out.cell
          go_wp2_with fail
          clear c_x c_f c_u
          refine (Row.fmtPV s H_x.out (by omega) HFM.out).mono ?_
          rintro e w12 ⟨rfl, hb⟩
          replace C_x := Lib.hid (C_x.out.on hb)
          replace C_f := Lib.hid (C_f.out.on hb)
          replace C_u := Lib.hid (C_u.out.on hb)
          replace H_l := Lib.hid (H_l.out.on hb)
          replace H_b := Lib.hid (H_b.out.on hb)
          replace H_x := Lib.hid (H_x.out.on hb)
          replace H_f := Lib.hid (H_f.out.on hb)
          replace H_g := Lib.hid (H_g.out.on hb)
          replace H_u := Lib.hid (H_u.out.on hb)
          replace BB := Lib.hid (BB.out.trans (hb.mono BB.out.size))
          clear hb
          have c_x := C_x.out.cell
          have c_f := C_f.out.cell
          have c_u := C_u.out.cell
          go_wp2_with fail
          clear c_x c_f c_u
          refine (Row.validPV true H_x.out (by omega) HVM.out).mono ?_
          rintro e w13 ⟨rfl, hb⟩
          replace C_x := Lib.hid (C_x.out.on hb)
          replace C_f := Lib.hid (C_f.out.on hb)
          replace C_u := Lib.hid (C_u.out.on hb)
          replace H_l := Lib.hid (H_l.out.on hb)
          replace H_b := Lib.hid (H_b.out.on hb)
          replace H_x := Lib.hid (H_x.out.on hb)
          replace H_f := Lib.hid (H_f.out.on hb)
          replace H_g := Lib.hid (H_g.out.on hb)
          replace H_u := Lib.hid (H_u.out.on hb)
          replace BB := Lib.hid (BB.out.trans (hb.mono BB.out.size))
          clear hb
          have c_x := C_x.out.cell
          have c_f := C_f.out.cell
          have c_u := C_u.out.cell
          go_wp2_with fail
          clear c_x c_f c_u
          go_ret
          exact ⟨by first | rfl | exact Row.ret_bool (by simp), BB.out⟩
      · skip
        obtain ⟨hp1, hp2⟩ := Row.mOut_pre ho
        have hcb : n_b ≤ c_b := Row.capLe H_b.out
        have hnb : n_l ≤ n_b := by rw [E_l.out, E_b.out]; exact hp1
        have hnc : n_l ≤ c_b := Nat.le_trans hnb hcb
        have hlt : ¬ (n_b : Int) < (n_l : Int) := by omega
        have H_t := Lib.hid (show Row.HoldsK Row.encBd 2 wx (.slice x_b n_l c_b) bl by have h9 := Row.HoldsK.take Row.szBd H_b.out hp1; rw [hp2, ← E_l.out] at h9; exact h9)
        clear hp1 hp2 hcb
        clear ho
        cases hm : Row.ppOk s
        · skip
          clear hm
          have c_x := C_x.out.cell
          have c_f := C_f.out.cell
          have c_u := C_u.out.cell
          go_wp2_with fail
          clear c_x c_f c_u
          refine (Row.sameBindsT _ _ bl _ H_t.out H_l.out (by omega)).mono ?_
          rintro e w14 ⟨rfl, hb⟩
          replace C_x := Lib.hid (C_x.out.on hb)
          replace C_f := Lib.hid (C_f.out.on hb)
          replace C_u := Lib.hid (C_u.out.on hb)
          replace H_l := Lib.hid (H_l.out.on hb)
          replace H_b := Lib.hid (H_b.out.on hb)
          replace H_x := Lib.hid (H_x.out.on hb)
          replace H_f := Lib.hid (H_f.out.on hb)
          replace H_g := Lib.hid (H_g.out.on hb)
          replace H_u := Lib.hid (H_u.out.on hb)
          replace H_t := Lib.hid (H_t.out.on hb)
          replace BB := Lib.hid (BB.out.trans (hb.mono BB.out.size))
          clear hb
          have c_x := C_x.out.cell
          have c_f := C_f.out.cell
          have c_u := C_u.out.cell
          go_wp2_with fail
          clear c_x c_f c_u
          go_ret
          exact ⟨by first | rfl | exact Row.ret_bool (by simp), BB.out⟩
        · skip
          have HFM := Lib.hid (show Row.fmtS (Row.ppN s) = s from Row.pt_fmt_pN hm); have HVM := Lib.hid (Row.pt_valid_pN s)
          clear hm
          have c_x := C_x.out.cell
          have c_f := C_f.out.cell
          have c_u := C_u.out.cell
          go_wp2_with fail
          clear c_x c_f c_u
          refine (Row.sameBindsT _ _ bl _ H_t.out H_l.out (by omega)).mono ?_
          rintro e w15 ⟨rfl, hb⟩
          replace C_x := Lib.hid (C_x.out.on hb)
          replace C_f := Lib.hid (C_f.out.on hb)
          replace C_u := Lib.hid (C_u.out.on hb)
          replace H_l := Lib.hid (H_l.out.on hb)
          replace H_b := Lib.hid (H_b.out.on hb)
          replace H_x := Lib.hid (H_x.out.on hb)
          replace H_f := Lib.hid (H_f.out.on hb)
          replace H_g := Lib.hid (H_g.out.on hb)
          replace H_u := Lib.hid (H_u.out.on hb)
          replace H_t := Lib.hid (H_t.out.on hb)
          replace BB := Lib.hid (BB.out.trans (hb.mono BB.out.size))
          clear hb
          have c_x := C_x.out.cell
          have c_f := C_f.out.cell
          have c_u := C_u.out.cell
          go_wp2_with fail
          clear c_x c_f c_u
          refine (Row.fmtPV s H_x.out (by omega) HFM.out).mono ?_
          rintro e w16 ⟨rfl, hb⟩
          replace C_x := Lib.hid (C_x.out.on hb)
          replace C_f := Lib.hid (C_f.out.on hb)
          replace C_u := Lib.hid (C_u.out.on hb)
          replace H_l := Lib.hid (H_l.out.on hb)
          replace H_b := Lib.hid (H_b.out.on hb)
          replace H_x := Lib.hid (H_x.out.on hb)
          replace H_f := Lib.hid (H_f.out.on hb)
          replace H_g := Lib.hid (H_g.out.on hb)
          replace H_u := Lib.hid (H_u.out.on hb)
          replace H_t := Lib.hid (H_t.out.on hb)
          replace BB := Lib.hid (BB.out.trans (hb.mono BB.out.size))
          clear hb
          have c_x := C_x.out.cell
          have c_f := C_f.out.cell
          have c_u := C_u.out.cell
          go_wp2_with fail
          clear c_x c_f c_u
          refine (Row.validPV true H_x.out (by omega) HVM.out).mono ?_
          rintro e w17 ⟨rfl, hb⟩
          replace C_x := Lib.hid (C_x.out.on hb)
          replace C_f := Lib.hid (C_f.out.on hb)
          replace C_u := Lib.hid (C_u.out.on hb)
          replace H_l := Lib.hid (H_l.out.on hb)
          replace H_b := Lib.hid (H_b.out.on hb)
          replace H_x := Lib.hid (H_x.out.on hb)
          replace H_f := Lib.hid (H_f.out.on hb)
          replace H_g := Lib.hid (H_g.out.on hb)
          replace H_u := Lib.hid (H_u.out.on hb)
          replace H_t := Lib.hid (H_t.out.on hb)
          replace BB := Lib.hid (BB.out.trans (hb.mono BB.out.size))
          clear hb
          have c_x := C_x.out.cell
          have c_f := C_f.out.cell
          have c_u := C_u.out.cell
          go_wp2_with fail
          clear c_x c_f c_u
          go_ret
          exact ⟨by first | rfl | exact Row.ret_bool (by simp), BB.out⟩
    · skip
      have HIM := Lib.hid (Row.inst_match hg)
      clear hg
      cases ho : Row.mOk mp mn bl
      · skip
        clear ho
        cases hm : Row.ppOk s
        · skip
          clear hm
          have c_x := C_x.out.cell
          have c_f := C_f.out.cell
          have c_u := C_u.out.cell
          go_wp2_with fail
          clear c_x c_f c_u
          refine (Row.matchV true H_f.out H_u.out H_g.out (by omega) (by omega) (by omega) HIM.out).mono ?_
          rintro e w18 ⟨u15, rfl, ho_z, hb⟩
          obtain ⟨x_z, n_z, c_z, rfl, e_z, -, ho_z⟩ := ho_z.shapeN; have E_z := Lib.hid e_z; clear e_z
          replace C_x := Lib.hid (C_x.out.on hb)
          replace C_f := Lib.hid (C_f.out.on hb)
          replace C_u := Lib.hid (C_u.out.on hb)
          replace H_l := Lib.hid (H_l.out.on hb)
          replace H_b := Lib.hid (H_b.out.on hb)
          replace H_x := Lib.hid (H_x.out.on hb)
          replace H_f := Lib.hid (H_f.out.on hb)
          replace H_g := Lib.hid (H_g.out.on hb)
          replace H_u := Lib.hid (H_u.out.on hb)
          replace BB := Lib.hid (BB.out.trans (hb.mono BB.out.size))
          clear hb
          have H_z := Lib.hid ho_z.holds; clear ho_z
          have c_x := C_x.out.cell
          have c_f := C_f.out.cell
          have c_u := C_u.out.cell
          go_wp2_with fail
          clear c_x c_f c_u
          go_ret
          exact ⟨by first | rfl | exact Row.ret_bool (by simp), BB.out⟩
        · skip
          have HFM := Lib.hid (show Row.fmtS (Row.ppN s) = s from Row.pt_fmt_pN hm); have HVM := Lib.hid (Row.pt_valid_pN s)
          clear hm
          have c_x := C_x.out.cell
          have c_f := C_f.out.cell
          have c_u := C_u.out.cell
          go_wp2_with fail
          clear c_x c_f c_u
          refine (Row.matchV true H_f.out H_u.out H_g.out (by omega) (by omega) (by omega) HIM.out).mono ?_
          rintro e w19 ⟨u15, rfl, ho_z, hb⟩
          obtain ⟨x_z, n_z, c_z, rfl, e_z, -, ho_z⟩ := ho_z.shapeN; have E_z := Lib.hid e_z; clear e_z
          replace C_x := Lib.hid (C_x.out.on hb)
          replace C_f := Lib.hid (C_f.out.on hb)
          replace C_u := Lib.hid (C_u.out.on hb)
          replace H_l := Lib.hid (H_l.out.on hb)
          replace H_b := Lib.hid (H_b.out.on hb)
          replace H_x := Lib.hid (H_x.out.on hb)
          replace H_f := Lib.hid (H_f.out.on hb)
          replace H_g := Lib.hid (H_g.out.on hb)
          replace H_u := Lib.hid (H_u.out.on hb)
          replace BB := Lib.hid (BB.out.trans (hb.mono BB.out.size))
          clear hb
          have H_z := Lib.hid ho_z.holds; clear ho_z
          have c_x := C_x.out.cell
          have c_f := C_f.out.cell
          have c_u := C_u.out.cell
          go_wp2_with fail
          clear c_x c_f c_u
          refine (Row.fmtPV s H_x.out (by omega) HFM.out).mono ?_
          rintro e w20 ⟨rfl, hb⟩
          replace C_x := Lib.hid (C_x.out.on hb)
          replace C_f := Lib.hid (C_f.out.on hb)
          replace C_u := Lib.hid (C_u.out.on hb)
          replace H_l := Lib.hid (H_l.out.on hb)
          replace H_b := Lib.hid (H_b.out.on hb)
          replace H_x := Lib.hid (H_x.out.on hb)
          replace H_f := Lib.hid (H_f.out.on hb)
          replace H_g := Lib.hid (H_g.out.on hb)
          replace H_u := Lib.hid (H_u.out.on hb)
          replace H_z := Lib.hid (H_z.out.on hb)
          replace BB := Lib.hid (BB.out.trans (hb.mono BB.out.size))
          clear hb
          have c_x := C_x.out.cell
          have c_f := C_f.out.cell
          have c_u := C_u.out.cell
          go_wp2_with fail
          clear c_x c_f c_u
          refine (Row.validPV true H_x.out (by omega) HVM.out).mono ?_
          rintro e w21 ⟨rfl, hb⟩
          replace C_x := Lib.hid (C_x.out.on hb)
          replace C_f := Lib.hid (C_f.out.on hb)
          replace C_u := Lib.hid (C_u.out.on hb)
          replace H_l := Lib.hid (H_l.out.on hb)
          replace H_b := Lib.hid (H_b.out.on hb)
          replace H_x := Lib.hid (H_x.out.on hb)
          replace H_f := Lib.hid (H_f.out.on hb)
          replace H_g := Lib.hid (H_g.out.on hb)
          replace H_u := Lib.hid (H_u.out.on hb)
          replace H_z := Lib.hid (H_z.out.on hb)
          replace BB := Lib.hid (BB.out.trans (hb.mono BB.out.size))
          clear hb
          have c_x := C_x.out.cell
          have c_f := C_f.out.cell
          have c_u := C_u.out.cell
          go_wp2_with fail
          clear c_x c_f c_u
          go_ret
          exact ⟨by first | rfl | exact Row.ret_bool (by simp), BB.out⟩
      · skip
        obtain ⟨hp1, hp2⟩ := Row.mOut_pre ho
        have hcb : n_b ≤ c_b := Row.capLe H_b.out
        have hnb : n_l ≤ n_b := by rw [E_l.out, E_b.out]; exact hp1
        have hnc : n_l ≤ c_b := Nat.le_trans hnb hcb
        have hlt : ¬ (n_b : Int) < (n_l : Int) := by omega
        have H_t := Lib.hid (show Row.HoldsK Row.encBd 2 wx (.slice x_b n_l c_b) bl by have h9 := Row.HoldsK.take Row.szBd H_b.out hp1; rw [hp2, ← E_l.out] at h9; exact h9)
        clear hp1 hp2 hcb
        clear ho
        cases hm : Row.ppOk s
        · skip
          clear hm
          have c_x := C_x.out.cell
          have c_f := C_f.out.cell
          have c_u := C_u.out.cell
          go_wp2_with fail
          clear c_x c_f c_u
          refine (Row.matchV true H_f.out H_u.out H_g.out (by omega) (by omega) (by omega) HIM.out).mono ?_
          rintro e w22 ⟨u15, rfl, ho_z, hb⟩
          obtain ⟨x_z, n_z, c_z, rfl, e_z, -, ho_z⟩ := ho_z.shapeN; have E_z := Lib.hid e_z; clear e_z
          replace C_x := Lib.hid (C_x.out.on hb)
          replace C_f := Lib.hid (C_f.out.on hb)
          replace C_u := Lib.hid (C_u.out.on hb)
          replace H_l := Lib.hid (H_l.out.on hb)
          replace H_b := Lib.hid (H_b.out.on hb)
          replace H_x := Lib.hid (H_x.out.on hb)
          replace H_f := Lib.hid (H_f.out.on hb)
          replace H_g := Lib.hid (H_g.out.on hb)
          replace H_u := Lib.hid (H_u.out.on hb)
          replace H_t := Lib.hid (H_t.out.on hb)
          replace BB := Lib.hid (BB.out.trans (hb.mono BB.out.size))
          clear hb
          have H_z := Lib.hid ho_z.holds; clear ho_z
          have c_x := C_x.out.cell
          have c_f := C_f.out.cell
          have c_u := C_u.out.cell
          go_wp2_with fail
          clear c_x c_f c_u
          refine (Row.sameBindsT _ _ bl _ H_t.out H_l.out (by omega)).mono ?_
          rintro e w23 ⟨rfl, hb⟩
          replace C_x := Lib.hid (C_x.out.on hb)
          replace C_f := Lib.hid (C_f.out.on hb)
          replace C_u := Lib.hid (C_u.out.on hb)
          replace H_l := Lib.hid (H_l.out.on hb)
          replace H_b := Lib.hid (H_b.out.on hb)
          replace H_x := Lib.hid (H_x.out.on hb)
          replace H_f := Lib.hid (H_f.out.on hb)
          replace H_g := Lib.hid (H_g.out.on hb)
          replace H_u := Lib.hid (H_u.out.on hb)
          replace H_t := Lib.hid (H_t.out.on hb)
          replace H_z := Lib.hid (H_z.out.on hb)
          replace BB := Lib.hid (BB.out.trans (hb.mono BB.out.size))
          clear hb
          have c_x := C_x.out.cell
          have c_f := C_f.out.cell
          have c_u := C_u.out.cell
          go_wp2_with fail
          clear c_x c_f c_u
          go_ret
          exact ⟨by first | rfl | exact Row.ret_bool (by simp), BB.out⟩
        · skip
          have HFM := Lib.hid (show Row.fmtS (Row.ppN s) = s from Row.pt_fmt_pN hm); have HVM := Lib.hid (Row.pt_valid_pN s)
          clear hm
          have c_x := C_x.out.cell
          have c_f := C_f.out.cell
          have c_u := C_u.out.cell
          go_wp2_with fail
          clear c_x c_f c_u
          refine (Row.matchV true H_f.out H_u.out H_g.out (by omega) (by omega) (by omega) HIM.out).mono ?_
          rintro e w24 ⟨u15, rfl, ho_z, hb⟩
          obtain ⟨x_z, n_z, c_z, rfl, e_z, -, ho_z⟩ := ho_z.shapeN; have E_z := Lib.hid e_z; clear e_z
          replace C_x := Lib.hid (C_x.out.on hb)
          replace C_f := Lib.hid (C_f.out.on hb)
          replace C_u := Lib.hid (C_u.out.on hb)
          replace H_l := Lib.hid (H_l.out.on hb)
          replace H_b := Lib.hid (H_b.out.on hb)
          replace H_x := Lib.hid (H_x.out.on hb)
          replace H_f := Lib.hid (H_f.out.on hb)
          replace H_g := Lib.hid (H_g.out.on hb)
          replace H_u := Lib.hid (H_u.out.on hb)
          replace H_t := Lib.hid (H_t.out.on hb)
          replace BB := Lib.hid (BB.out.trans (hb.mono BB.out.size))
          clear hb
          have H_z := Lib.hid ho_z.holds; clear ho_z
          have c_x := C_x.out.cell
          have c_f := C_f.out.cell
          have c_u := C_u.out.cell
          go_wp2_with fail
          clear c_x c_f c_u
          refine (Row.sameBindsT _ _ bl _ H_t.out H_l.out (by omega)).mono ?_
          rintro e w25 ⟨rfl, hb⟩
          replace C_x := Lib.hid (C_x.out.on hb)
          replace C_f := Lib.hid (C_f.out.on hb)
          replace C_u := Lib.hid (C_u.out.on hb)
          replace H_l := Lib.hid (H_l.out.on hb)
          replace H_b := Lib.hid (H_b.out.on hb)
          replace H_x := Lib.hid (H_x.out.on hb)
          replace H_f := Lib.hid (H_f.out.on hb)
          replace H_g := Lib.hid (H_g.out.on hb)
          replace H_u := Lib.hid (H_u.out.on hb)
          replace H_t := Lib.hid (H_t.out.on hb)
          replace H_z := Lib.hid (H_z.out.on hb)
          replace BB := Lib.hid (BB.out.trans (hb.mono BB.out.size))
          clear hb
          have c_x := C_x.out.cell
          have c_f := C_f.out.cell
          have c_u := C_u.out.cell
          go_wp2_with fail
          clear c_x c_f c_u
          refine (Row.fmtPV s H_x.out (by omega) HFM.out).mono ?_
          rintro e w26 ⟨rfl, hb⟩
          replace C_x := Lib.hid (C_x.out.on hb)
          replace C_f := Lib.hid (C_f.out.on hb)
          replace C_u := Lib.hid (C_u.out.on hb)
          replace H_l := Lib.hid (H_l.out.on hb)
          replace H_b := Lib.hid (H_b.out.on hb)
          replace H_x := Lib.hid (H_x.out.on hb)
          replace H_f := Lib.hid (H_f.out.on hb)
          replace H_g := Lib.hid (H_g.out.on hb)
          replace H_u := Lib.hid (H_u.out.on hb)
          replace H_t := Lib.hid (H_t.out.on hb)
          replace H_z := Lib.hid (H_z.out.on hb)
          replace BB := Lib.hid (BB.out.trans (hb.mono BB.out.size))
          clear hb
          have c_x := C_x.out.cell
          have c_f := C_f.out.cell
          have c_u := C_u.out.cell
          go_wp2_with fail
          clear c_x c_f c_u
          refine (Row.validPV true H_x.out (by omega) HVM.out).mono ?_
          rintro e w27 ⟨rfl, hb⟩
          replace C_x := Lib.hid (C_x.out.on hb)
          replace C_f := Lib.hid (C_f.out.on hb)
          replace C_u := Lib.hid (C_u.out.on hb)
          replace H_l := Lib.hid (H_l.out.on hb)
          replace H_b := Lib.hid (H_b.out.on hb)
          replace H_x := Lib.hid (H_x.out.on hb)
          replace H_f := Lib.hid (H_f.out.on hb)
          replace H_g := Lib.hid (H_g.out.on hb)
          replace H_u := Lib.hid (H_u.out.on hb)
          replace H_t := Lib.hid (H_t.out.on hb)
          replace H_z := Lib.hid (H_z.out.on hb)
          replace BB := Lib.hid (BB.out.trans (hb.mono BB.out.size))
          clear hb
          have c_x := C_x.out.cell
          have c_f := C_f.out.cell
          have c_u := C_u.out.cell
          go_wp2_with fail
          clear c_x c_f c_u
          go_ret
          exact ⟨by first | rfl | exact Row.ret_bool (by simp), BB.out⟩
  · obtain ⟨x, cap, rfl, -⟩ := Draw.bytes_at q0
    have hl : decide ((1048576 : Int) < (l0.length : Int)) = true := by simpa using hlen
    clear hlen q0
    obtain ⟨n0, hn0⟩ : ∃ n0, n0 = l0.length := ⟨_, rfl⟩
    rw [← hn0] at hl ⊢
    clear hn0
    go_enter Try.func3, Try.ntmps3
    go_wp2_with fail
    refine (Draw.big_yes x n0 cap w hl).mono ?_
    rintro e w' ⟨rfl, rfl⟩
    go_wp2_with fail
    go_ret
    exact ⟨rfl, Below.refl _ _⟩

set_option maxRecDepth 100000 in
theorem lifted (os : Os) (started : os.Started) (H : Type) (enc : TypeId × Value → H) :
    ReturnsInHanded {} Try.checked os 3 .any (Rows.fnPatsSpec.pre6 enc Try.prog Try.f3 Rows.fnPatsRow.domain false) (Rows.fnPatsSpec.post enc Try.prog Try.f3 false true false false) := by
  refine returnsInHanded_of_change_sized (C := Try.checked) own started (by kernel_rfl) Try.func3
    (ChangeSpec.witness6 (enc := enc) (C := Try.checked) false ⟨#[], #[.slice none 0 0], []⟩ 8 (by kernel_rfl) (by kernel_rfl) (by kernel_rfl) (by kernel_rfl)) ?_
  intro W base args ds gs before hval0 hW _ hsz0 _
  have hval : ∀ (j : Nat) t v, Try.f3.params[j]? = some t → args[j]? = some v → Value.okWide Try.prog W .any base t v := hval0
  have hsz : (DataW.weightsEach Try.prog (Try.f3.params.toList ++ Rows.fnPatsSpec.plain.varTypes Try.prog) (ds ++ gs)).all (· ≤ reachBytes) = true := hsz0
  clear hsz0
  have hW' := hW
  obtain ⟨p, q, hA0, hV, rfl, hfz, hnd⟩ := hW
  have hA : DataW.TrodAll enc Try.prog W 0 (fun _ => true) true Try.f3.params.toList args.toList ds p := hA0
  rw [Try.params3] at hA hval hsz
  obtain ⟨v0, vs0, d0, ds0, p0, q0, hargs, rfl, rfl, h0, r0⟩ := trodAll_cons hA
  obtain ⟨rfl, rfl, rfl⟩ := trodAll_nil r0
  obtain rfl : args = #[v0] := by cases args; simp_all
  obtain ⟨rfl, rfl⟩ := trodVars_none hV
  obtain ⟨l0, q0⟩ := Frame.open_bytes (j := 0) Try.underlying22 Try.underlying5 (by kernel_rfl) (by kernel_rfl) (hval 0 22 v0 rfl rfl) h0 hsz rfl rfl
  clear hA0 hval0
  refine (walk W _ _ q0).mono fun e W' ⟨he, hb⟩ => ?_
  subst he
  exact ⟨_, rfl, Frame.law_post laidOut (by kernel_rfl) rfl Try.underlying4 rfl rfl hW' hb⟩

theorem said : Rows.FnPatsSaid :=
  OpenClaim.holds_of_wide 3 Try.f3 rfl rfl rfl rfl rfl rfl rfl ⟨rfl, rfl, rfl, rfl, rfl⟩ rfl rfl rfl rfl rfl (by kernel_rfl) Try.func3 (by kernel_rfl)
    (of_decide_eq_true (by kernel_rfl)) (by unfold Func.isWrapper; first | (rw [if_pos (by decide +kernel)]; kernel_rfl) | (rw [if_neg (by decide +kernel)]; exact ⟨rfl, rfl⟩))
    (fun os started H enc _ => lifted os started H enc)

#print axioms said
end Go.Proofs.Ytoibmgnmnmeklaa.fnPats
