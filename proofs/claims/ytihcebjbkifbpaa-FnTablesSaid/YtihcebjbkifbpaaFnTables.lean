/- For every code: a stored entry is found, a removed one is not, the longest prefix is a prefix and none is longer, and each table function answers as its model at the drawn arguments; the code reads as it did. No conditions. -/
import Derived.Test.YtihcebjbkifbpaaRows
import Derived.WalkKit
import Derived.ProofKit
import Derived.OpenShut
import Derived.SizedLaws
import Derived.Test.YtihcebjbkifbpaaFrame
import Derived.Test.YtihcebjbkifbpaaTabTop
import Derived.Test.YtihcebjbkifbpaaRegT6
import Derived.Test.YtihcebjbkifbpaaRegT26
namespace Go.Proofs.Ytihcebjbkifbpaa.fnTables
open Go.ChangeShapes Go.WideShapes Go.ChangeAt Go.RowKit
open Go.ChangeMaps (open_string shut_string)
set_option linter.unusedVariables false

theorem own : ownKnob Try.prog.godebug = none := by kernel_rfl
theorem laidOut : laidOutB Try.prog = true := by kernel_rfl

set_option maxRecDepth 100000 in
set_option maxHeartbeats 80000000 in
theorem walk (w : World) (y0 : Value) (l0 : List UInt8) (q0 : Frame.Bytes w y0 l0) :
    Calls Try.prog 3 #[y0] w fun e w' => e = .returned (.bool true) ∧ Below w.heap.size w w' := by
  by_cases hlen : (l0.length : Int) ≤ 1048576
  · obtain ⟨x, cap, rfl, -⟩ := Draw.bytes_at q0
    have hl : decide ((1048576 : Int) < (l0.length : Int)) = false := by simpa using hlen
    have Q0 := Lib.hid q0; clear q0 hlen
    obtain ⟨n0, hn0⟩ : ∃ n0, n0 = l0.length := ⟨_, rfl⟩
    rw [← hn0] at hl Q0 ⊢
    have HN0 := Lib.hid hn0; clear hn0
    have BB := Lib.hid (Below.refl w.heap.size w)
    go_enter Try.func3, Try.ntmps3
    go_wp2_with fail
    refine (Draw.big_no x n0 cap w hl).mono ?_
    rintro e w' ⟨rfl, rfl⟩
    go_wp2_with fail
    refine (Draw.drawPutEntry _ _ l0 (Q0.out.on BB.out)).mono ?_
    rintro e w1 ⟨u1a, tl, u1b, mn, av, rfl, ho_l, L_l, hs_l, ho_n, bmn, a0, a1, hb⟩
    obtain ⟨x_l, n_l, c_l, rfl, e_l, -, ho_l⟩ := ho_l.shapeN; have E_l := Lib.hid e_l; clear e_l
    obtain ⟨x_n, n_n, c_n, rfl, e_n, -, ho_n⟩ := ho_n.shapeN; have E_n := Lib.hid e_n; clear e_n
    replace BB := Lib.hid (BB.out.trans (hb.mono BB.out.size))
    clear hb
    have H_l := Lib.hid ho_l.holds; clear ho_l
    have H_n := Lib.hid ho_n.holds; clear ho_n
    have S_l := Lib.hid hs_l.smT; clear hs_l
    have M_n : mn.length ≤ 2000 := Row.bigLen bmn
    obtain ⟨ok, hok⟩ : ∃ b, Row.putOk tl mn av = b := ⟨_, rfl⟩
    have HOK := Lib.hid hok; clear hok
    have L_x := Row.putT_length tl mn av
    have S_x := Lib.hid (Row.smT_putT (v := av) S_l.out (show Row.bulk mn ≤ 9000000 by omega))
    have hal := (Below.refl (w1).heap.size (w1)).alloc (Nat.le_refl _) (.cells #[.slice x_n n_n c_n] 27)
    replace H_l := Lib.hid (H_l.out.on hal)
    replace H_n := Lib.hid (H_n.out.on hal)
    replace BB := Lib.hid (BB.out.trans (hal.mono BB.out.size))
    have C_n := Lib.hid (Ret.Box.new' (w := w1) (.slice x_n n_n c_n) 27 (n := w1.heap.size) (by first | rfl | simp)); clear hal
    have c_n := C_n.out.cell
    go_wp2_with fail
    clear c_n
    refine (Row.implPutEntry _ _ tl mn av _ H_l.out H_n.out (by omega) S_l.out (by omega)).mono ?_
    rintro e w2 ⟨u3, rfl, ho_x, hb⟩
    obtain ⟨x_x, n_x, c_x, rfl, e_x, -, ho_x⟩ := ho_x.shapeN; have E_x := Lib.hid e_x; clear e_x
    replace C_n := Lib.hid (C_n.out.on hb)
    replace H_l := Lib.hid (H_l.out.on hb)
    replace H_n := Lib.hid (H_n.out.on hb)
    replace BB := Lib.hid (BB.out.trans (hb.mono BB.out.size))
    clear hb
    have H_x := Lib.hid ho_x.holds; clear ho_x
    rw [HOK.out]
    have c_n := C_n.out.cell
    go_wp2_with fail
    clear c_n
    refine (Row.specPutEntry _ _ tl mn av _ H_l.out H_n.out (by omega) S_l.out (by omega)).mono ?_
    rintro e w3 ⟨u4, rfl, ho_y, hb⟩
    obtain ⟨x_y, n_y, c_y, rfl, e_y, -, ho_y⟩ := ho_y.shapeN; have E_y := Lib.hid e_y; clear e_y
    replace C_n := Lib.hid (C_n.out.on hb)
    replace H_l := Lib.hid (H_l.out.on hb)
    replace H_n := Lib.hid (H_n.out.on hb)
    replace H_x := Lib.hid (H_x.out.on hb)
    replace BB := Lib.hid (BB.out.trans (hb.mono BB.out.size))
    clear hb
    have H_y := Lib.hid ho_y.holds; clear ho_y
    rw [HOK.out]
    have c_n := C_n.out.cell
    go_wp2_with fail
    clear c_n
    refine (Draw.drawLongestPrefix _ _ l0 (Q0.out.on BB.out)).mono ?_
    rintro e w4 ⟨u5a, tt, u5b, mm, rfl, ho_t, L_t, hs_t, ho_m, bmm, hb⟩
    obtain ⟨x_t, n_t, c_t, rfl, e_t, -, ho_t⟩ := ho_t.shapeN; have E_t := Lib.hid e_t; clear e_t
    obtain ⟨x_m, n_m, c_m, rfl, e_m, -, ho_m⟩ := ho_m.shapeN; have E_m := Lib.hid e_m; clear e_m
    replace C_n := Lib.hid (C_n.out.on hb)
    replace H_l := Lib.hid (H_l.out.on hb)
    replace H_n := Lib.hid (H_n.out.on hb)
    replace H_x := Lib.hid (H_x.out.on hb)
    replace H_y := Lib.hid (H_y.out.on hb)
    replace BB := Lib.hid (BB.out.trans (hb.mono BB.out.size))
    clear hb
    have H_t := Lib.hid ho_t.holds; clear ho_t
    have H_m := Lib.hid ho_m.holds; clear ho_m
    have S_t := Lib.hid hs_t.smT; clear hs_t
    have M_m : mm.length ≤ 2000 := Row.bigLen bmm
    have hal := (Below.refl (w4).heap.size (w4)).alloc (Nat.le_refl _) (.cells #[.slice x_m n_m c_m] 27)
    replace C_n := Lib.hid (C_n.out.on hal)
    replace H_l := Lib.hid (H_l.out.on hal)
    replace H_n := Lib.hid (H_n.out.on hal)
    replace H_x := Lib.hid (H_x.out.on hal)
    replace H_y := Lib.hid (H_y.out.on hal)
    replace H_t := Lib.hid (H_t.out.on hal)
    replace H_m := Lib.hid (H_m.out.on hal)
    replace BB := Lib.hid (BB.out.trans (hal.mono BB.out.size))
    have C_m := Lib.hid (Ret.Box.new' (w := w4) (.slice x_m n_m c_m) 27 (n := w4.heap.size) (by first | rfl | simp)); clear hal
    have c_n := C_n.out.cell
    have c_m := C_m.out.cell
    go_wp2_with fail
    clear c_n c_m
    refine (Draw.drawRemoveEntry _ _ l0 (Q0.out.on BB.out)).mono ?_
    rintro e w5 ⟨u6a, td, u6b, me, rfl, ho_d, L_d, hs_d, ho_e, bme, hb⟩
    obtain ⟨x_d, n_d, c_d, rfl, e_d, -, ho_d⟩ := ho_d.shapeN; have E_d := Lib.hid e_d; clear e_d
    obtain ⟨x_e, n_e, c_e, rfl, e_e, -, ho_e⟩ := ho_e.shapeN; have E_e := Lib.hid e_e; clear e_e
    replace C_n := Lib.hid (C_n.out.on hb)
    replace C_m := Lib.hid (C_m.out.on hb)
    replace H_l := Lib.hid (H_l.out.on hb)
    replace H_n := Lib.hid (H_n.out.on hb)
    replace H_x := Lib.hid (H_x.out.on hb)
    replace H_y := Lib.hid (H_y.out.on hb)
    replace H_t := Lib.hid (H_t.out.on hb)
    replace H_m := Lib.hid (H_m.out.on hb)
    replace BB := Lib.hid (BB.out.trans (hb.mono BB.out.size))
    clear hb
    have H_d := Lib.hid ho_d.holds; clear ho_d
    have H_e := Lib.hid ho_e.holds; clear ho_e
    have S_d := Lib.hid hs_d.smT; clear hs_d
    have M_e : me.length ≤ 2000 := Row.bigLen bme
    have hal := (Below.refl (w5).heap.size (w5)).alloc (Nat.le_refl _) (.cells #[.slice x_e n_e c_e] 27)
    replace C_n := Lib.hid (C_n.out.on hal)
    replace C_m := Lib.hid (C_m.out.on hal)
    replace H_l := Lib.hid (H_l.out.on hal)
    replace H_n := Lib.hid (H_n.out.on hal)
    replace H_x := Lib.hid (H_x.out.on hal)
    replace H_y := Lib.hid (H_y.out.on hal)
    replace H_t := Lib.hid (H_t.out.on hal)
    replace H_m := Lib.hid (H_m.out.on hal)
    replace H_d := Lib.hid (H_d.out.on hal)
    replace H_e := Lib.hid (H_e.out.on hal)
    replace BB := Lib.hid (BB.out.trans (hal.mono BB.out.size))
    have C_e := Lib.hid (Ret.Box.new' (w := w5) (.slice x_e n_e c_e) 27 (n := w5.heap.size) (by first | rfl | simp)); clear hal
    have c_n := C_n.out.cell
    have c_m := C_m.out.cell
    have c_e := C_e.out.cell
    go_wp2_with fail
    clear c_n c_m c_e
    refine (Draw.drawEntriesUnder _ _ l0 (Q0.out.on BB.out)).mono ?_
    rintro e w6 ⟨u7a, tu, u7b, mp, rfl, ho_u, L_u, hs_u, ho_p, bmp, hb⟩
    obtain ⟨x_u, n_u, c_u, rfl, e_u, -, ho_u⟩ := ho_u.shapeN; have E_u := Lib.hid e_u; clear e_u
    obtain ⟨x_p, n_p, c_p, rfl, e_p, -, ho_p⟩ := ho_p.shapeN; have E_p := Lib.hid e_p; clear e_p
    replace C_n := Lib.hid (C_n.out.on hb)
    replace C_m := Lib.hid (C_m.out.on hb)
    replace C_e := Lib.hid (C_e.out.on hb)
    replace H_l := Lib.hid (H_l.out.on hb)
    replace H_n := Lib.hid (H_n.out.on hb)
    replace H_x := Lib.hid (H_x.out.on hb)
    replace H_y := Lib.hid (H_y.out.on hb)
    replace H_t := Lib.hid (H_t.out.on hb)
    replace H_m := Lib.hid (H_m.out.on hb)
    replace H_d := Lib.hid (H_d.out.on hb)
    replace H_e := Lib.hid (H_e.out.on hb)
    replace BB := Lib.hid (BB.out.trans (hb.mono BB.out.size))
    clear hb
    have H_u := Lib.hid ho_u.holds; clear ho_u
    have H_p := Lib.hid ho_p.holds; clear ho_p
    have S_u := Lib.hid hs_u.smT; clear hs_u
    have M_p : mp.length ≤ 2000 := Row.bigLen bmp
    have hal := (Below.refl (w6).heap.size (w6)).alloc (Nat.le_refl _) (.cells #[.slice x_p n_p c_p] 27)
    replace C_n := Lib.hid (C_n.out.on hal)
    replace C_m := Lib.hid (C_m.out.on hal)
    replace C_e := Lib.hid (C_e.out.on hal)
    replace H_l := Lib.hid (H_l.out.on hal)
    replace H_n := Lib.hid (H_n.out.on hal)
    replace H_x := Lib.hid (H_x.out.on hal)
    replace H_y := Lib.hid (H_y.out.on hal)
    replace H_t := Lib.hid (H_t.out.on hal)
    replace H_m := Lib.hid (H_m.out.on hal)
    replace H_d := Lib.hid (H_d.out.on hal)
    replace H_e := Lib.hid (H_e.out.on hal)
    replace H_u := Lib.hid (H_u.out.on hal)
    replace H_p := Lib.hid (H_p.out.on hal)
    replace BB := Lib.hid (BB.out.trans (hal.mono BB.out.size))
    have C_p := Lib.hid (Ret.Box.new' (w := w6) (.slice x_p n_p c_p) 27 (n := w6.heap.size) (by first | rfl | simp)); clear hal
    have c_n := C_n.out.cell
    have c_m := C_m.out.cell
    have c_e := C_e.out.cell
    have c_p := C_p.out.cell
    go_wp2_with fail
    clear c_n c_m c_e c_p
    refine (Draw.drawEqualTables _ _ l0 (Q0.out.on BB.out)).mono ?_
    rintro e w7 ⟨u8a, ta, u8b, tb, rfl, ho_a, L_a, hs_a, ho_b, L_b, hs_b, hb⟩
    obtain ⟨x_a, n_a, c_a, rfl, e_a, -, ho_a⟩ := ho_a.shapeN; have E_a := Lib.hid e_a; clear e_a
    obtain ⟨x_b, n_b, c_b, rfl, e_b, -, ho_b⟩ := ho_b.shapeN; have E_b := Lib.hid e_b; clear e_b
    replace C_n := Lib.hid (C_n.out.on hb)
    replace C_m := Lib.hid (C_m.out.on hb)
    replace C_e := Lib.hid (C_e.out.on hb)
    replace C_p := Lib.hid (C_p.out.on hb)
    replace H_l := Lib.hid (H_l.out.on hb)
    replace H_n := Lib.hid (H_n.out.on hb)
    replace H_x := Lib.hid (H_x.out.on hb)
    replace H_y := Lib.hid (H_y.out.on hb)
    replace H_t := Lib.hid (H_t.out.on hb)
    replace H_m := Lib.hid (H_m.out.on hb)
    replace H_d := Lib.hid (H_d.out.on hb)
    replace H_e := Lib.hid (H_e.out.on hb)
    replace H_u := Lib.hid (H_u.out.on hb)
    replace H_p := Lib.hid (H_p.out.on hb)
    replace BB := Lib.hid (BB.out.trans (hb.mono BB.out.size))
    clear hb
    have H_a := Lib.hid ho_a.holds; clear ho_a
    have H_b := Lib.hid ho_b.holds; clear ho_b
    have S_a := Lib.hid hs_a.smT; clear hs_a
    have S_b := Lib.hid hs_b.smT; clear hs_b
    have c_n := C_n.out.cell
    have c_m := C_m.out.cell
    have c_e := C_e.out.cell
    have c_p := C_p.out.cell
    go_wp2_with fail
    clear c_n c_m c_e c_p
    refine (Draw.drawLookupEntry _ _ l0 (Q0.out.on BB.out)).mono ?_
    rintro e w8 ⟨u9a, tr, u9b, mq, rfl, ho_r, L_r, hs_r, ho_q, bmq, hb⟩
    obtain ⟨x_r, n_r, c_r, rfl, e_r, -, ho_r⟩ := ho_r.shapeN; have E_r := Lib.hid e_r; clear e_r
    obtain ⟨x_q, n_q, c_q, rfl, e_q, -, ho_q⟩ := ho_q.shapeN; have E_q := Lib.hid e_q; clear e_q
    replace C_n := Lib.hid (C_n.out.on hb)
    replace C_m := Lib.hid (C_m.out.on hb)
    replace C_e := Lib.hid (C_e.out.on hb)
    replace C_p := Lib.hid (C_p.out.on hb)
    replace H_l := Lib.hid (H_l.out.on hb)
    replace H_n := Lib.hid (H_n.out.on hb)
    replace H_x := Lib.hid (H_x.out.on hb)
    replace H_y := Lib.hid (H_y.out.on hb)
    replace H_t := Lib.hid (H_t.out.on hb)
    replace H_m := Lib.hid (H_m.out.on hb)
    replace H_d := Lib.hid (H_d.out.on hb)
    replace H_e := Lib.hid (H_e.out.on hb)
    replace H_u := Lib.hid (H_u.out.on hb)
    replace H_p := Lib.hid (H_p.out.on hb)
    replace H_a := Lib.hid (H_a.out.on hb)
    replace H_b := Lib.hid (H_b.out.on hb)
    replace BB := Lib.hid (BB.out.trans (hb.mono BB.out.size))
    clear hb
    have H_r := Lib.hid ho_r.holds; clear ho_r
    have H_q := Lib.hid ho_q.holds; clear ho_q
    have S_r := Lib.hid hs_r.smT; clear hs_r
    have M_q : mq.length ≤ 2000 := Row.bigLen bmq
    have hal := (Below.refl (w8).heap.size (w8)).alloc (Nat.le_refl _) (.cells #[.slice x_q n_q c_q] 27)
    replace C_n := Lib.hid (C_n.out.on hal)
    replace C_m := Lib.hid (C_m.out.on hal)
    replace C_e := Lib.hid (C_e.out.on hal)
    replace C_p := Lib.hid (C_p.out.on hal)
    replace H_l := Lib.hid (H_l.out.on hal)
    replace H_n := Lib.hid (H_n.out.on hal)
    replace H_x := Lib.hid (H_x.out.on hal)
    replace H_y := Lib.hid (H_y.out.on hal)
    replace H_t := Lib.hid (H_t.out.on hal)
    replace H_m := Lib.hid (H_m.out.on hal)
    replace H_d := Lib.hid (H_d.out.on hal)
    replace H_e := Lib.hid (H_e.out.on hal)
    replace H_u := Lib.hid (H_u.out.on hal)
    replace H_p := Lib.hid (H_p.out.on hal)
    replace H_a := Lib.hid (H_a.out.on hal)
    replace H_b := Lib.hid (H_b.out.on hal)
    replace H_r := Lib.hid (H_r.out.on hal)
    replace H_q := Lib.hid (H_q.out.on hal)
    replace BB := Lib.hid (BB.out.trans (hal.mono BB.out.size))
    have C_q := Lib.hid (Ret.Box.new' (w := w8) (.slice x_q n_q c_q) 27 (n := w8.heap.size) (by first | rfl | simp)); clear hal
    have c_n := C_n.out.cell
    have c_m := C_m.out.cell
    have c_e := C_e.out.cell
    have c_p := C_p.out.cell
    have c_q := C_q.out.cell
    go_wp2_with fail
    clear c_n c_m c_e c_p c_q
    refine (Row.iLkV _ _ rfl rfl H_r.out H_q.out (by omega) S_r.out (by omega)).mono ?_
    rintro e w9 ⟨rfl, hb⟩
    replace C_n := Lib.hid (C_n.out.on hb)
    replace C_m := Lib.hid (C_m.out.on hb)
    replace C_e := Lib.hid (C_e.out.on hb)
    replace C_p := Lib.hid (C_p.out.on hb)
    replace C_q := Lib.hid (C_q.out.on hb)
    replace H_l := Lib.hid (H_l.out.on hb)
    replace H_n := Lib.hid (H_n.out.on hb)
    replace H_x := Lib.hid (H_x.out.on hb)
    replace H_y := Lib.hid (H_y.out.on hb)
    replace H_t := Lib.hid (H_t.out.on hb)
    replace H_m := Lib.hid (H_m.out.on hb)
    replace H_d := Lib.hid (H_d.out.on hb)
    replace H_e := Lib.hid (H_e.out.on hb)
    replace H_u := Lib.hid (H_u.out.on hb)
    replace H_p := Lib.hid (H_p.out.on hb)
    replace H_a := Lib.hid (H_a.out.on hb)
    replace H_b := Lib.hid (H_b.out.on hb)
    replace H_r := Lib.hid (H_r.out.on hb)
    replace H_q := Lib.hid (H_q.out.on hb)
    replace BB := Lib.hid (BB.out.trans (hb.mono BB.out.size))
    clear hb
    have c_n := C_n.out.cell
    have c_m := C_m.out.cell
    have c_e := C_e.out.cell
    have c_p := C_p.out.cell
    have c_q := C_q.out.cell
    go_wp2_with fail
    clear c_n c_m c_e c_p c_q
    refine (Row.sLkV _ _ rfl rfl H_r.out H_q.out (by omega) S_r.out (by omega)).mono ?_
    rintro e w10 ⟨rfl, hb⟩
    replace C_n := Lib.hid (C_n.out.on hb)
    replace C_m := Lib.hid (C_m.out.on hb)
    replace C_e := Lib.hid (C_e.out.on hb)
    replace C_p := Lib.hid (C_p.out.on hb)
    replace C_q := Lib.hid (C_q.out.on hb)
    replace H_l := Lib.hid (H_l.out.on hb)
    replace H_n := Lib.hid (H_n.out.on hb)
    replace H_x := Lib.hid (H_x.out.on hb)
    replace H_y := Lib.hid (H_y.out.on hb)
    replace H_t := Lib.hid (H_t.out.on hb)
    replace H_m := Lib.hid (H_m.out.on hb)
    replace H_d := Lib.hid (H_d.out.on hb)
    replace H_e := Lib.hid (H_e.out.on hb)
    replace H_u := Lib.hid (H_u.out.on hb)
    replace H_p := Lib.hid (H_p.out.on hb)
    replace H_a := Lib.hid (H_a.out.on hb)
    replace H_b := Lib.hid (H_b.out.on hb)
    replace H_r := Lib.hid (H_r.out.on hb)
    replace H_q := Lib.hid (H_q.out.on hb)
    replace BB := Lib.hid (BB.out.trans (hb.mono BB.out.size))
    clear hb
    have c_n := C_n.out.cell
    have c_m := C_m.out.cell
    have c_e := C_e.out.cell
    have c_p := C_p.out.cell
    have c_q := C_q.out.cell
    go_wp2_with fail
    clear c_n c_m c_e c_p c_q
    obtain ⟨k, hk⟩ : ∃ k, Row.lpT tt mm = k := ⟨_, rfl⟩
    have HK := Lib.hid hk; clear hk
    refine (Row.iLpV k HK.out H_t.out H_m.out (by omega) S_t.out (by omega)).mono ?_
    rintro e w11 ⟨rfl, hb⟩
    replace C_n := Lib.hid (C_n.out.on hb)
    replace C_m := Lib.hid (C_m.out.on hb)
    replace C_e := Lib.hid (C_e.out.on hb)
    replace C_p := Lib.hid (C_p.out.on hb)
    replace C_q := Lib.hid (C_q.out.on hb)
    replace H_l := Lib.hid (H_l.out.on hb)
    replace H_n := Lib.hid (H_n.out.on hb)
    replace H_x := Lib.hid (H_x.out.on hb)
    replace H_y := Lib.hid (H_y.out.on hb)
    replace H_t := Lib.hid (H_t.out.on hb)
    replace H_m := Lib.hid (H_m.out.on hb)
    replace H_d := Lib.hid (H_d.out.on hb)
    replace H_e := Lib.hid (H_e.out.on hb)
    replace H_u := Lib.hid (H_u.out.on hb)
    replace H_p := Lib.hid (H_p.out.on hb)
    replace H_a := Lib.hid (H_a.out.on hb)
    replace H_b := Lib.hid (H_b.out.on hb)
    replace H_r := Lib.hid (H_r.out.on hb)
    replace H_q := Lib.hid (H_q.out.on hb)
    replace BB := Lib.hid (BB.out.trans (hb.mono BB.out.size))
    clear hb
    have c_n := C_n.out.cell
    have c_m := C_m.out.cell
    have c_e := C_e.out.cell
    have c_p := C_p.out.cell
    have c_q := C_q.out.cell
    go_wp2_with fail
    clear c_n c_m c_e c_p c_q
    (try dsimp only [List.append])
    refine Row.regT14 C_m H_m C_e H_e C_p H_p H_l H_x H_y H_t H_d H_u H_a H_b S_l (by omega) S_x (by omega) S_t (by omega) S_d (by omega) S_u (by omega) S_a (by omega) S_b (by omega) HK (Lib.hid rfl) (Lib.hid rfl) (by omega) (by omega) (by omega) ?_
    intro u92 u93 u94 u95 u96 u97 u98 u99 u100 u101 u102 u103 u104 u105 u106 u107 u108 u109 u110 u111 u112 u113 u114 u115 u116 u117 u118 u119 u120 u121 u122 u123 u124 u125 u126 u127 u128 u129 u130 u131 u132 u133 u134 u135 u136 u137 u138 u139 u140 u141 u142 u143 u144 u145 u146 u147 u148 u149 u150 u151 u152 wx hb
    replace C_n := Lib.hid (C_n.out.on hb)
    replace C_m := Lib.hid (C_m.out.on hb)
    replace C_e := Lib.hid (C_e.out.on hb)
    replace C_p := Lib.hid (C_p.out.on hb)
    replace C_q := Lib.hid (C_q.out.on hb)
    replace H_l := Lib.hid (H_l.out.on hb)
    replace H_n := Lib.hid (H_n.out.on hb)
    replace H_x := Lib.hid (H_x.out.on hb)
    replace H_y := Lib.hid (H_y.out.on hb)
    replace H_t := Lib.hid (H_t.out.on hb)
    replace H_m := Lib.hid (H_m.out.on hb)
    replace H_d := Lib.hid (H_d.out.on hb)
    replace H_e := Lib.hid (H_e.out.on hb)
    replace H_u := Lib.hid (H_u.out.on hb)
    replace H_p := Lib.hid (H_p.out.on hb)
    replace H_a := Lib.hid (H_a.out.on hb)
    replace H_b := Lib.hid (H_b.out.on hb)
    replace H_r := Lib.hid (H_r.out.on hb)
    replace H_q := Lib.hid (H_q.out.on hb)
    replace BB := Lib.hid (BB.out.trans (hb.mono BB.out.size))
    clear hb
    clear C_e
    clear C_p
    clear C_q
    clear H_y
    clear H_d
    clear H_e
    clear H_u
    clear H_p
    clear H_a
    clear H_b
    clear H_r
    clear H_q
    have hnt : n_t ≤ 40 := by rw [E_t.out]; exact L_t
    have c_n := C_n.out.cell
    have c_m := C_m.out.cell
    go_wp2_with fail
    clear c_n c_m
    go_loopw [25] (fun iv wr => ∃ j : Nat, j ≤ n_t ∧ iv = .int .i64 j ∧ Hid (Below wx.heap.size wx wr)) (fun iv _ => n_t - (intOf iv).toNat)
    case atStart => exact ⟨0, Nat.zero_le _, rfl, Lib.hid (Below.refl _ _)⟩
    case round =>
      obtain ⟨j, hj, rfl, hbr⟩ := hrel
      have hb := hbr.out
      replace C_n := Lib.hid (C_n.out.on hb)
      replace C_m := Lib.hid (C_m.out.on hb)
      replace H_l := Lib.hid (H_l.out.on hb)
      replace H_n := Lib.hid (H_n.out.on hb)
      replace H_x := Lib.hid (H_x.out.on hb)
      replace H_t := Lib.hid (H_t.out.on hb)
      replace H_m := Lib.hid (H_m.out.on hb)
      replace BB := Lib.hid (BB.out.trans (hb.mono BB.out.size))
      clear hb
      by_cases hlt : j < n_t
      · skip
        obtain ⟨Lt, eLt, hLt⟩ := H_t.out
        have hjL : j < Lt.length := by rw [← Row.strip_length, eLt]; (have := E_t.out; omega)
        obtain ⟨bj, offj, hxj, hcj, -, hnj⟩ := hLt.at hjL
        subst hxj
        have hnm : (Row.nth tt j).1 = (Row.nth Lt j).ps := by rw [← eLt, Row.strip_nth hjL]; rfl
        have HL := Lib.hid (show (Row.nth Lt j).ps.length ≤ 9000000 from Row.smT_psl (by rw [eLt]; exact S_t.out) hjL)
        have K1 := Lib.hid hcj; have HA := Lib.hid hnj
        by_cases hp : Row.hpB mm (Row.nth Lt j).ps = true
        · skip
          obtain ⟨kk, hk1, hk2, hk3⟩ := Row.lp_max (T := tt) (m := mm) (j := j) (by rw [← E_t.out]; exact hlt) (by rw [hnm]; exact hp)
          have hkL : kk < Lt.length := by rw [← Row.strip_length, eLt]; exact hk2
          obtain ⟨bk, offk, hxk, hck, -, hnk⟩ := hLt.at hkL
          cases hxk
          obtain rfl : k = (kk : Int) := HK.out.symm.trans hk1
          have hkn : decide (((kk : Nat) : Int) < 0) = false := by simp
          have hnk2 : (Row.nth tt kk).1 = (Row.nth Lt kk).ps := by rw [← eLt, Row.strip_nth hkL]; rfl
          have hle : ¬ (Row.nth Lt kk).n < (Row.nth Lt j).n := by rw [Row.Holds.lenEq hnk, Row.Holds.lenEq hnj, ← hnm, ← hnk2]; omega
          have hk4 : kk < n_t := by rw [E_t.out]; exact hk2
          have K2 := Lib.hid hck
          have HV := Lib.hid hp; have HLE := Lib.hid hle
          clear hck hnk hk1 hk2 hk3 hnk2 hkL hcj hnj hnm eLt hLt hp hle hjL
          have c_n := C_n.out.cell
          have c_m := C_m.out.cell
          go_wp2_with fail
          clear c_n c_m
          refine Row.regT19b C_m H_m (Lib.hid (by omega)) hlt (by omega) K1 HA HL hk4 hkn HLE.out K2 HV ?_
          intro u160 u161 u162 u163 u164 u165 u166 u167 u168 u169 u170 u171 u172 u173 u174 u175 u176 u177 u178 u179 u180 u181 u182 u183 u184 u185 u186 wy hb
          have HBY := Lib.hid (hbr.out.trans (hb.mono hbr.out.size)); clear hb
          go_wp2_with fail
          go_roundw
          case rel => exact ⟨j + 1, by omega, by go_num, HBY⟩
          case measure => simp [intOf]; omega
        · skip
          have HV := Lib.hid (show Row.hpB mm (Row.nth Lt j).ps = false by simpa using hp)
          clear hcj hnj hnm eLt hLt hp hjL
          have c_n := C_n.out.cell
          have c_m := C_m.out.cell
          go_wp2_with fail
          clear c_n c_m
          refine Row.regT19a C_m H_m (Lib.hid (by omega)) hlt (by omega) K1 HA HL HV ?_
          intro u160 u161 u162 u163 u164 u165 u166 u167 u168 u169 u170 u171 u172 u173 u174 u175 u176 u177 u178 u179 u180 u181 u182 u183 u184 u185 u186 wy hb
          have HBY := Lib.hid (hbr.out.trans (hb.mono hbr.out.size)); clear hb
          go_wp2_with fail
          go_roundw
          case rel => exact ⟨j + 1, by omega, by go_num, HBY⟩
          case measure => simp [intOf]; omega
      · skip
        obtain rfl : j = n_t := by omega
        clear hlt
        have c_n := C_n.out.cell
        have c_m := C_m.out.cell
        go_wp2_with fail
        clear c_n c_m
        rcases Row.lp_cases tt mm with h1 | ⟨kk, h1, h2, h3⟩
        · skip
          obtain rfl : k = -1 := HK.out.symm.trans h1
          refine Row.regT21a C_m H_m (Lib.hid (by omega)) ?_
          intro u188 u189 u190 u191 u192 u193 u194 u195 u196 u197 u198 wz hb
          replace C_n := Lib.hid (C_n.out.on hb)
          replace C_m := Lib.hid (C_m.out.on hb)
          replace H_l := Lib.hid (H_l.out.on hb)
          replace H_n := Lib.hid (H_n.out.on hb)
          replace H_x := Lib.hid (H_x.out.on hb)
          replace H_t := Lib.hid (H_t.out.on hb)
          replace H_m := Lib.hid (H_m.out.on hb)
          replace BB := Lib.hid (BB.out.trans (hb.mono BB.out.size))
          clear hb
          cases ok with
          | false =>
            have H_z := Lib.hid (show Row.TabHolds wz (.slice x_x n_x c_x) tl by have h9 := H_x.out; rw [Row.putT_no HOK.out] at h9; exact h9)
            have c_n := C_n.out.cell
            have c_m := C_m.out.cell
            go_wp2_with fail
            clear c_n c_m
            refine (Row.sameRowsT H_z.out H_l.out (by omega) S_l.out).mono ?_
            rintro e w12 ⟨rfl, hb⟩
            replace C_n := Lib.hid (C_n.out.on hb)
            replace C_m := Lib.hid (C_m.out.on hb)
            replace H_l := Lib.hid (H_l.out.on hb)
            replace H_n := Lib.hid (H_n.out.on hb)
            replace H_x := Lib.hid (H_x.out.on hb)
            replace H_t := Lib.hid (H_t.out.on hb)
            replace H_m := Lib.hid (H_m.out.on hb)
            replace H_z := Lib.hid (H_z.out.on hb)
            replace BB := Lib.hid (BB.out.trans (hb.mono BB.out.size))
            clear hb
            have c_n := C_n.out.cell
            have c_m := C_m.out.cell
            go_wp2_with fail
            clear c_n c_m
            go_ret
            exact ⟨rfl, BB.out⟩
          | true =>
            have c_n := C_n.out.cell
            have c_m := C_m.out.cell
            go_wp2_with fail
            clear c_n c_m
            refine (Row.iLkV av true (Row.lk_put HOK.out).1 (Row.lk_put HOK.out).2 H_x.out H_n.out (by omega) S_x.out (by omega)).mono ?_
            rintro e w13 ⟨rfl, hb⟩
            replace C_n := Lib.hid (C_n.out.on hb)
            replace C_m := Lib.hid (C_m.out.on hb)
            replace H_l := Lib.hid (H_l.out.on hb)
            replace H_n := Lib.hid (H_n.out.on hb)
            replace H_x := Lib.hid (H_x.out.on hb)
            replace H_t := Lib.hid (H_t.out.on hb)
            replace H_m := Lib.hid (H_m.out.on hb)
            replace BB := Lib.hid (BB.out.trans (hb.mono BB.out.size))
            clear hb
            have c_n := C_n.out.cell
            have c_m := C_m.out.cell
            go_wp2_with fail
            clear c_n c_m
            refine Row.regT26 C_n H_n H_x S_x (by omega) (by omega) ?_
            intro u28 u211 u212 u213 u214 u215 u216 u217 u218 wv hb
            replace C_n := Lib.hid (C_n.out.on hb)
            replace C_m := Lib.hid (C_m.out.on hb)
            replace H_l := Lib.hid (H_l.out.on hb)
            replace H_n := Lib.hid (H_n.out.on hb)
            replace H_x := Lib.hid (H_x.out.on hb)
            replace H_t := Lib.hid (H_t.out.on hb)
            replace H_m := Lib.hid (H_m.out.on hb)
            replace BB := Lib.hid (BB.out.trans (hb.mono BB.out.size))
            clear hb
            have c_n := C_n.out.cell
            have c_m := C_m.out.cell
            go_wp2_with fail
            clear c_n c_m
            refine (Row.iValTV true (Row.valid_putT HOK.out) H_x.out (by omega) S_x.out).mono ?_
            rintro e w14 ⟨rfl, hb⟩
            replace C_n := Lib.hid (C_n.out.on hb)
            replace C_m := Lib.hid (C_m.out.on hb)
            replace H_l := Lib.hid (H_l.out.on hb)
            replace H_n := Lib.hid (H_n.out.on hb)
            replace H_x := Lib.hid (H_x.out.on hb)
            replace H_t := Lib.hid (H_t.out.on hb)
            replace H_m := Lib.hid (H_m.out.on hb)
            replace BB := Lib.hid (BB.out.trans (hb.mono BB.out.size))
            clear hb
            have c_n := C_n.out.cell
            have c_m := C_m.out.cell
            go_wp2_with fail
            clear c_n c_m
            go_ret
            exact ⟨rfl, BB.out⟩
        · skip
          obtain rfl : k = (kk : Int) := HK.out.symm.trans h1
          obtain ⟨Lt, eLt, hLt⟩ := H_t.out
          have hkL : kk < Lt.length := by rw [← Row.strip_length, eLt]; exact h2
          obtain ⟨bk, offk, hxk, hck, -, hnk⟩ := hLt.at hkL
          subst hxk
          have HL := Lib.hid (show (Row.nth Lt kk).ps.length ≤ 9000000 from Row.smT_psl (by rw [eLt]; exact S_t.out) hkL)
          have hnm : (Row.nth tt kk).1 = (Row.nth Lt kk).ps := by rw [← eLt, Row.strip_nth hkL]; rfl
          have HV := Lib.hid (show Row.hpB mm (Row.nth Lt kk).ps = true by rw [← hnm]; exact h3)
          have hk4 : kk < j := by rw [E_t.out]; exact h2
          refine Row.regT21b C_m H_m (Lib.hid (by omega)) hk4 (by omega) (Lib.hid hck) (Lib.hid hnk) HL HV ?_
          intro u188 u189 u190 u191 u192 u193 u194 u195 u196 u197 u198 wz hb
          replace C_n := Lib.hid (C_n.out.on hb)
          replace C_m := Lib.hid (C_m.out.on hb)
          replace H_l := Lib.hid (H_l.out.on hb)
          replace H_n := Lib.hid (H_n.out.on hb)
          replace H_x := Lib.hid (H_x.out.on hb)
          replace H_t := Lib.hid (H_t.out.on hb)
          replace H_m := Lib.hid (H_m.out.on hb)
          replace BB := Lib.hid (BB.out.trans (hb.mono BB.out.size))
          clear hb
          cases ok with
          | false =>
            have H_z := Lib.hid (show Row.TabHolds wz (.slice x_x n_x c_x) tl by have h9 := H_x.out; rw [Row.putT_no HOK.out] at h9; exact h9)
            have c_n := C_n.out.cell
            have c_m := C_m.out.cell
            go_wp2_with fail
            clear c_n c_m
            refine (Row.sameRowsT H_z.out H_l.out (by omega) S_l.out).mono ?_
            rintro e w15 ⟨rfl, hb⟩
            replace C_n := Lib.hid (C_n.out.on hb)
            replace C_m := Lib.hid (C_m.out.on hb)
            replace H_l := Lib.hid (H_l.out.on hb)
            replace H_n := Lib.hid (H_n.out.on hb)
            replace H_x := Lib.hid (H_x.out.on hb)
            replace H_t := Lib.hid (H_t.out.on hb)
            replace H_m := Lib.hid (H_m.out.on hb)
            replace H_z := Lib.hid (H_z.out.on hb)
            replace BB := Lib.hid (BB.out.trans (hb.mono BB.out.size))
            clear hb
            have c_n := C_n.out.cell
            have c_m := C_m.out.cell
            go_wp2_with fail
            clear c_n c_m
            go_ret
            exact ⟨rfl, BB.out⟩
          | true =>
            have c_n := C_n.out.cell
            have c_m := C_m.out.cell
            go_wp2_with fail
            clear c_n c_m
            refine (Row.iLkV av true (Row.lk_put HOK.out).1 (Row.lk_put HOK.out).2 H_x.out H_n.out (by omega) S_x.out (by omega)).mono ?_
            rintro e w16 ⟨rfl, hb⟩
            replace C_n := Lib.hid (C_n.out.on hb)
            replace C_m := Lib.hid (C_m.out.on hb)
            replace H_l := Lib.hid (H_l.out.on hb)
            replace H_n := Lib.hid (H_n.out.on hb)
            replace H_x := Lib.hid (H_x.out.on hb)
            replace H_t := Lib.hid (H_t.out.on hb)
            replace H_m := Lib.hid (H_m.out.on hb)
            replace BB := Lib.hid (BB.out.trans (hb.mono BB.out.size))
            clear hb
            have c_n := C_n.out.cell
            have c_m := C_m.out.cell
            go_wp2_with fail
            clear c_n c_m
            refine Row.regT26 C_n H_n H_x S_x (by omega) (by omega) ?_
            intro u28 u211 u212 u213 u214 u215 u216 u217 u218 wv hb
            replace C_n := Lib.hid (C_n.out.on hb)
            replace C_m := Lib.hid (C_m.out.on hb)
            replace H_l := Lib.hid (H_l.out.on hb)
            replace H_n := Lib.hid (H_n.out.on hb)
            replace H_x := Lib.hid (H_x.out.on hb)
            replace H_t := Lib.hid (H_t.out.on hb)
            replace H_m := Lib.hid (H_m.out.on hb)
            replace BB := Lib.hid (BB.out.trans (hb.mono BB.out.size))
            clear hb
            have c_n := C_n.out.cell
            have c_m := C_m.out.cell
            go_wp2_with fail
            clear c_n c_m
            refine (Row.iValTV true (Row.valid_putT HOK.out) H_x.out (by omega) S_x.out).mono ?_
            rintro e w17 ⟨rfl, hb⟩
            replace C_n := Lib.hid (C_n.out.on hb)
            replace C_m := Lib.hid (C_m.out.on hb)
            replace H_l := Lib.hid (H_l.out.on hb)
            replace H_n := Lib.hid (H_n.out.on hb)
            replace H_x := Lib.hid (H_x.out.on hb)
            replace H_t := Lib.hid (H_t.out.on hb)
            replace H_m := Lib.hid (H_m.out.on hb)
            replace BB := Lib.hid (BB.out.trans (hb.mono BB.out.size))
            clear hb
            have c_n := C_n.out.cell
            have c_m := C_m.out.cell
            go_wp2_with fail
            clear c_n c_m
            go_ret
            exact ⟨rfl, BB.out⟩
  · obtain ⟨x, cap, rfl, -⟩ := Draw.bytes_at q0
    have hl : decide ((1048576 : Int) < (l0.length : Int)) = true := by simpa using hlen
    clear hlen q0
    obtain ⟨n0, hn0⟩ : ∃ n0, n0 = l0.length := ⟨_, rfl⟩
    rw [← hn0] at hl ⊢
    clear hn0
    go_enter Try.func3, Try.ntmps3
    go_wp2_with fail
    refine (Draw.big_yes x n0 cap w hl).mono ?_
    rintro e w' ⟨rfl, rfl⟩
    go_wp2_with fail
    go_ret
    exact ⟨rfl, Below.refl _ _⟩

set_option maxRecDepth 100000 in
theorem lifted (os : Os) (started : os.Started) (H : Type) (enc : TypeId × Value → H) :
    ReturnsInHanded {} Try.checked os 3 .any (Rows.fnTablesSpec.pre6 enc Try.prog Try.f3 Rows.fnTablesRow.domain false) (Rows.fnTablesSpec.post enc Try.prog Try.f3 false true false false) := by
  refine returnsInHanded_of_change_sized (C := Try.checked) own started (by kernel_rfl) Try.func3
    (ChangeSpec.witness6 (enc := enc) (C := Try.checked) false ⟨#[], #[.slice none 0 0], []⟩ 8 (by kernel_rfl) (by kernel_rfl) (by kernel_rfl) (by kernel_rfl)) ?_
  intro W base args ds gs before hval0 hW _ hsz0 _
  have hval : ∀ (j : Nat) t v, Try.f3.params[j]? = some t → args[j]? = some v → Value.okWide Try.prog W .any base t v := hval0
  have hsz : (DataW.weightsEach Try.prog (Try.f3.params.toList ++ Rows.fnTablesSpec.plain.varTypes Try.prog) (ds ++ gs)).all (· ≤ reachBytes) = true := hsz0
  clear hsz0
  have hW' := hW
  obtain ⟨p, q, hA0, hV, rfl, hfz, hnd⟩ := hW
  have hA : DataW.TrodAll enc Try.prog W 0 (fun _ => true) true Try.f3.params.toList args.toList ds p := hA0
  rw [Try.params3] at hA hval hsz
  obtain ⟨v0, vs0, d0, ds0, p0, q0, hargs, rfl, rfl, h0, r0⟩ := trodAll_cons hA
  obtain ⟨rfl, rfl, rfl⟩ := trodAll_nil r0
  obtain rfl : args = #[v0] := by cases args; simp_all
  obtain ⟨rfl, rfl⟩ := trodVars_none hV
  obtain ⟨l0, q0⟩ := Frame.open_bytes (j := 0) Try.underlying22 Try.underlying5 (by kernel_rfl) (by kernel_rfl) (hval 0 22 v0 rfl rfl) h0 hsz rfl rfl
  clear hA0 hval0
  refine (walk W _ _ q0).mono fun e W' ⟨he, hb⟩ => ?_
  subst he
  exact ⟨_, rfl, Frame.law_post laidOut (by kernel_rfl) rfl Try.underlying4 rfl rfl hW' hb⟩

theorem said : Rows.FnTablesSaid :=
  OpenClaim.holds_of_wide 3 Try.f3 rfl rfl rfl rfl rfl rfl rfl ⟨rfl, rfl, rfl, rfl, rfl⟩ rfl rfl rfl rfl rfl (by kernel_rfl) Try.func3 (by kernel_rfl)
    (of_decide_eq_true (by kernel_rfl)) (by unfold Func.isWrapper; first | (rw [if_pos (by decide +kernel)]; kernel_rfl) | (rw [if_neg (by decide +kernel)]; exact ⟨rfl, rfl⟩))
    (fun os started H enc _ => lifted os started H enc)

#print axioms said
end Go.Proofs.Ytihcebjbkifbpaa.fnTables
