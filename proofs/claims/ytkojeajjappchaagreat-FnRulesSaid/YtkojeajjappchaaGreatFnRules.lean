/- FnRules: whatever bytes are drawn, the answer is true, and what was in memory stays as it was. -/
import Derived.Test.YtkojeajjappchaaGreatRows
import Derived.WalkKit
import Derived.ProofKit
import Derived.OpenShut
import Derived.SizedLaws
import Derived.HandedShaped
import Derived.Test.YtkojeajjappchaaGreatB1
import Derived.Test.YtkojeajjappchaaGreatB16
import Derived.Test.YtkojeajjappchaaGreatB17
import Derived.Test.YtkojeajjappchaaGreatB18
import Derived.Test.YtkojeajjappchaaGreatB19
namespace Go.Proofs.YtkojeajjappchaaGreat.fnRules
open Go.ChangeShapes Go.WideShapes Go.ChangeAt Go.RowKit
open Go.ChangeMaps (open_string shut_string)
set_option linter.unusedVariables false

theorem own : ownKnob Tryz.prog.godebug = none := by kernel_rfl
theorem laidOut : laidOutB Tryz.prog = true := by kernel_rfl

set_option maxRecDepth 100000 in
set_option maxHeartbeats 80000000 in
theorem walk (w : World) (y0 : Value) (l0 : List UInt8) (q0 : Frame.Bytes w y0 l0) (ht : Row.MaxL w) :
    Calls Tryz.prog 3 #[y0] w fun e w' => e = .returned (.bool true) ∧ Below w.heap.size w w' := by
  by_cases hlen : (l0.length : Int) ≤ 1048576
  · obtain ⟨x, cap, rfl, -⟩ := Draw.bytes_at q0
    have hl : decide ((1048576 : Int) < (l0.length : Int)) = false := by simpa using hlen
    have Q0 := Lib.hid q0; clear q0 hlen
    obtain ⟨n0, hn0⟩ : ∃ n0, n0 = l0.length := ⟨_, rfl⟩
    rw [← hn0] at hl Q0 ⊢
    have HN0 := Lib.hid hn0; clear hn0
    have BB := Lib.hid (Below.refl w.heap.size w)
    have H_M := Lib.hid ht; clear ht
    go_enter Tryz.func3, Tryz.ntmps3
    go_wp2_with fail
    refine (Draw.big_no x n0 cap w hl).mono ?_
    rintro e w' ⟨rfl, rfl⟩
    go_wp2_with fail
    refine (Draw.dDrawRuleAllows _ _ l0 (Q0.out.on BB.out)).mono ?_
    rintro e w1 ⟨tr, rn, rb, U_r, U_n, U_b, rfl, ho_r, b_r, ho_n, b_n, ho_b, b_b, hb⟩
    obtain ⟨x_ra, n_ra, c_ra, x_rb, n_rb, c_rb, rfl, ho_r⟩ := Row.kRl_shapeA ho_r
    obtain ⟨x_n, n_n, c_n, rfl, ho_n⟩ := Row.kN_shapeA ho_n
    obtain ⟨x_b, n_b, c_b, rfl, ho_b⟩ := Row.kN_shapeA ho_b
    replace H_M := Lib.hid (H_M.out.on hb)
    replace BB := Lib.hid (BB.out.trans (hb.mono BB.out.size))
    clear hb
    have H_r := Lib.hid ho_r; clear ho_r
    have H_n := Lib.hid ho_n; clear ho_n
    have H_b := Lib.hid ho_b; clear ho_b
    have hal := (Below.refl (w1).heap.size (w1)).alloc (Nat.le_refl _) (.cells #[.slice x_ra n_ra c_ra, .slice x_rb n_rb c_rb] 28)
    replace H_M := Lib.hid (H_M.out.on hal)
    replace H_r := Lib.hid (H_r.out.on hal)
    replace H_n := Lib.hid (H_n.out.on hal)
    replace H_b := Lib.hid (H_b.out.on hal)
    replace BB := Lib.hid (BB.out.trans (hal.mono BB.out.size))
    have C_r := Lib.hid (Ret.Blk.new' (w := w1) #[.slice x_ra n_ra c_ra, .slice x_rb n_rb c_rb] 28 (n := w1.heap.size) (by first | rfl | simp)); clear hal
    have hal := (Below.refl ((w1.alloc (.cells #[.slice x_ra n_ra c_ra, .slice x_rb n_rb c_rb] 28))).heap.size ((w1.alloc (.cells #[.slice x_ra n_ra c_ra, .slice x_rb n_rb c_rb] 28)))).alloc (Nat.le_refl _) (.cells #[.slice x_n n_n c_n] 29)
    replace C_r := Lib.hid (C_r.out.on hal)
    replace H_M := Lib.hid (H_M.out.on hal)
    replace H_r := Lib.hid (H_r.out.on hal)
    replace H_n := Lib.hid (H_n.out.on hal)
    replace H_b := Lib.hid (H_b.out.on hal)
    replace BB := Lib.hid (BB.out.trans (hal.mono BB.out.size))
    have C_n := Lib.hid (Ret.Blk.new' (w := (w1.alloc (.cells #[.slice x_ra n_ra c_ra, .slice x_rb n_rb c_rb] 28))) #[.slice x_n n_n c_n] 29 (n := w1.heap.size + 1) (by first | rfl | simp)); clear hal
    have hal := (Below.refl (((w1.alloc (.cells #[.slice x_ra n_ra c_ra, .slice x_rb n_rb c_rb] 28)).alloc (.cells #[.slice x_n n_n c_n] 29))).heap.size (((w1.alloc (.cells #[.slice x_ra n_ra c_ra, .slice x_rb n_rb c_rb] 28)).alloc (.cells #[.slice x_n n_n c_n] 29)))).alloc (Nat.le_refl _) (.cells #[.slice x_b n_b c_b] 29)
    replace C_r := Lib.hid (C_r.out.on hal)
    replace C_n := Lib.hid (C_n.out.on hal)
    replace H_M := Lib.hid (H_M.out.on hal)
    replace H_r := Lib.hid (H_r.out.on hal)
    replace H_n := Lib.hid (H_n.out.on hal)
    replace H_b := Lib.hid (H_b.out.on hal)
    replace BB := Lib.hid (BB.out.trans (hal.mono BB.out.size))
    have C_b := Lib.hid (Ret.Blk.new' (w := ((w1.alloc (.cells #[.slice x_ra n_ra c_ra, .slice x_rb n_rb c_rb] 28)).alloc (.cells #[.slice x_n n_n c_n] 29))) #[.slice x_b n_b c_b] 29 (n := w1.heap.size + 1 + 1) (by first | rfl | simp)); clear hal
    go_wp2_with fail
    refine (Draw.dDrawAllowed _ _ l0 (Q0.out.on BB.out)).mono ?_
    rintro e w2 ⟨tl, lm, lw, U_l, U_m, U_v, rfl, ho_l, l_l, s_l, ho_m, b_m, ho_v, b_v, hb⟩
    have HRL := Lib.hid (show Row.RL10 tl from ⟨l_l, s_l⟩); clear l_l s_l
    obtain ⟨x_l, n_l, c_l, rfl, ho_l⟩ := Row.kLRl_shapeA ho_l
    obtain ⟨x_m, n_m, c_m, rfl, ho_m⟩ := Row.kN_shapeA ho_m
    obtain ⟨x_v, n_v, c_v, rfl, ho_v⟩ := Row.kN_shapeA ho_v
    replace C_r := Lib.hid (C_r.out.on hb)
    replace C_n := Lib.hid (C_n.out.on hb)
    replace C_b := Lib.hid (C_b.out.on hb)
    replace H_M := Lib.hid (H_M.out.on hb)
    replace H_r := Lib.hid (H_r.out.on hb)
    replace H_n := Lib.hid (H_n.out.on hb)
    replace H_b := Lib.hid (H_b.out.on hb)
    replace BB := Lib.hid (BB.out.trans (hb.mono BB.out.size))
    clear hb
    have H_l := Lib.hid ho_l; clear ho_l
    have H_m := Lib.hid ho_m; clear ho_m
    have H_v := Lib.hid ho_v; clear ho_v
    have hal := (Below.refl (w2).heap.size (w2)).alloc (Nat.le_refl _) (.cells #[.slice x_m n_m c_m] 29)
    replace C_r := Lib.hid (C_r.out.on hal)
    replace C_n := Lib.hid (C_n.out.on hal)
    replace C_b := Lib.hid (C_b.out.on hal)
    replace H_M := Lib.hid (H_M.out.on hal)
    replace H_r := Lib.hid (H_r.out.on hal)
    replace H_n := Lib.hid (H_n.out.on hal)
    replace H_b := Lib.hid (H_b.out.on hal)
    replace H_l := Lib.hid (H_l.out.on hal)
    replace H_m := Lib.hid (H_m.out.on hal)
    replace H_v := Lib.hid (H_v.out.on hal)
    replace BB := Lib.hid (BB.out.trans (hal.mono BB.out.size))
    have C_m := Lib.hid (Ret.Blk.new' (w := w2) #[.slice x_m n_m c_m] 29 (n := w2.heap.size) (by first | rfl | simp)); clear hal
    have hal := (Below.refl ((w2.alloc (.cells #[.slice x_m n_m c_m] 29))).heap.size ((w2.alloc (.cells #[.slice x_m n_m c_m] 29)))).alloc (Nat.le_refl _) (.cells #[.slice x_v n_v c_v] 29)
    replace C_r := Lib.hid (C_r.out.on hal)
    replace C_n := Lib.hid (C_n.out.on hal)
    replace C_b := Lib.hid (C_b.out.on hal)
    replace C_m := Lib.hid (C_m.out.on hal)
    replace H_M := Lib.hid (H_M.out.on hal)
    replace H_r := Lib.hid (H_r.out.on hal)
    replace H_n := Lib.hid (H_n.out.on hal)
    replace H_b := Lib.hid (H_b.out.on hal)
    replace H_l := Lib.hid (H_l.out.on hal)
    replace H_m := Lib.hid (H_m.out.on hal)
    replace H_v := Lib.hid (H_v.out.on hal)
    replace BB := Lib.hid (BB.out.trans (hal.mono BB.out.size))
    have C_v := Lib.hid (Ret.Blk.new' (w := (w2.alloc (.cells #[.slice x_m n_m c_m] 29))) #[.slice x_v n_v c_v] 29 (n := w2.heap.size + 1) (by first | rfl | simp)); clear hal
    go_wp2_with fail
    refine (Draw.dDrawParseRule _ _ l0 (Q0.out.on BB.out)).mono ?_
    rintro e w3 ⟨s, rfl, b_s, hb⟩
    replace C_r := Lib.hid (C_r.out.on hb)
    replace C_n := Lib.hid (C_n.out.on hb)
    replace C_b := Lib.hid (C_b.out.on hb)
    replace C_m := Lib.hid (C_m.out.on hb)
    replace C_v := Lib.hid (C_v.out.on hb)
    replace H_M := Lib.hid (H_M.out.on hb)
    replace H_r := Lib.hid (H_r.out.on hb)
    replace H_n := Lib.hid (H_n.out.on hb)
    replace H_b := Lib.hid (H_b.out.on hb)
    replace H_l := Lib.hid (H_l.out.on hb)
    replace H_m := Lib.hid (H_m.out.on hb)
    replace H_v := Lib.hid (H_v.out.on hb)
    replace BB := Lib.hid (BB.out.trans (hb.mono BB.out.size))
    clear hb
    go_wp2_with fail
    obtain ⟨xx, h_xx⟩ : ∃ z, z = Row.prR s := ⟨_, rfl⟩
    have HXX := Lib.hid h_xx; clear h_xx
    obtain ⟨ok, h_ok⟩ : ∃ z, z = Row.prOk s := ⟨_, rfl⟩
    have HOK := Lib.hid h_ok; clear h_ok
    have b_x : Row.wtRl xx ≤ 9000000 := by rw [HXX.out]; exact Row.wt_pr s
    refine (Row.implParseRule s _ H_M.out (by omega)).mono ?_
    rintro e w4 ⟨U_x, rfl, ho_x, hb⟩
    rw [← HXX.out] at ho_x
    rw [← HOK.out]
    obtain ⟨x_xa, n_xa, c_xa, x_xb, n_xb, c_xb, rfl, ho_x⟩ := Row.kRl_shape ho_x
    replace C_r := Lib.hid (C_r.out.on hb)
    replace C_n := Lib.hid (C_n.out.on hb)
    replace C_b := Lib.hid (C_b.out.on hb)
    replace C_m := Lib.hid (C_m.out.on hb)
    replace C_v := Lib.hid (C_v.out.on hb)
    replace H_M := Lib.hid (H_M.out.on hb)
    replace H_r := Lib.hid (H_r.out.on hb)
    replace H_n := Lib.hid (H_n.out.on hb)
    replace H_b := Lib.hid (H_b.out.on hb)
    replace H_l := Lib.hid (H_l.out.on hb)
    replace H_m := Lib.hid (H_m.out.on hb)
    replace H_v := Lib.hid (H_v.out.on hb)
    replace BB := Lib.hid (BB.out.trans (hb.mono BB.out.size))
    clear hb
    have H_x := Lib.hid ho_x.at; clear ho_x
    have hal := (Below.refl (w4).heap.size (w4)).alloc (Nat.le_refl _) (.cells #[.slice x_xa n_xa c_xa, .slice x_xb n_xb c_xb] 28)
    replace C_r := Lib.hid (C_r.out.on hal)
    replace C_n := Lib.hid (C_n.out.on hal)
    replace C_b := Lib.hid (C_b.out.on hal)
    replace C_m := Lib.hid (C_m.out.on hal)
    replace C_v := Lib.hid (C_v.out.on hal)
    replace H_M := Lib.hid (H_M.out.on hal)
    replace H_r := Lib.hid (H_r.out.on hal)
    replace H_n := Lib.hid (H_n.out.on hal)
    replace H_b := Lib.hid (H_b.out.on hal)
    replace H_l := Lib.hid (H_l.out.on hal)
    replace H_m := Lib.hid (H_m.out.on hal)
    replace H_v := Lib.hid (H_v.out.on hal)
    replace H_x := Lib.hid (H_x.out.on hal)
    replace BB := Lib.hid (BB.out.trans (hal.mono BB.out.size))
    have C_x := Lib.hid (Ret.Blk.new' (w := w4) #[.slice x_xa n_xa c_xa, .slice x_xb n_xb c_xb] 28 (n := w4.heap.size) (by first | rfl | simp)); clear hal
    go_wp2_with fail
    refine (Row.specParseRule s _ (by omega)).mono ?_
    rintro e w5 ⟨U_y, rfl, ho_y, hb⟩
    rw [← HXX.out] at ho_y
    rw [← HOK.out]
    obtain ⟨x_ya, n_ya, c_ya, x_yb, n_yb, c_yb, rfl, ho_y⟩ := Row.kRl_shapeA ho_y
    replace C_r := Lib.hid (C_r.out.on hb)
    replace C_n := Lib.hid (C_n.out.on hb)
    replace C_b := Lib.hid (C_b.out.on hb)
    replace C_m := Lib.hid (C_m.out.on hb)
    replace C_v := Lib.hid (C_v.out.on hb)
    replace C_x := Lib.hid (C_x.out.on hb)
    replace H_M := Lib.hid (H_M.out.on hb)
    replace H_r := Lib.hid (H_r.out.on hb)
    replace H_n := Lib.hid (H_n.out.on hb)
    replace H_b := Lib.hid (H_b.out.on hb)
    replace H_l := Lib.hid (H_l.out.on hb)
    replace H_m := Lib.hid (H_m.out.on hb)
    replace H_v := Lib.hid (H_v.out.on hb)
    replace H_x := Lib.hid (H_x.out.on hb)
    replace BB := Lib.hid (BB.out.trans (hb.mono BB.out.size))
    clear hb
    have H_y := Lib.hid ho_y; clear ho_y
    have hal := (Below.refl (w5).heap.size (w5)).alloc (Nat.le_refl _) (.cells #[.slice x_ya n_ya c_ya, .slice x_yb n_yb c_yb] 28)
    replace C_r := Lib.hid (C_r.out.on hal)
    replace C_n := Lib.hid (C_n.out.on hal)
    replace C_b := Lib.hid (C_b.out.on hal)
    replace C_m := Lib.hid (C_m.out.on hal)
    replace C_v := Lib.hid (C_v.out.on hal)
    replace C_x := Lib.hid (C_x.out.on hal)
    replace H_M := Lib.hid (H_M.out.on hal)
    replace H_r := Lib.hid (H_r.out.on hal)
    replace H_n := Lib.hid (H_n.out.on hal)
    replace H_b := Lib.hid (H_b.out.on hal)
    replace H_l := Lib.hid (H_l.out.on hal)
    replace H_m := Lib.hid (H_m.out.on hal)
    replace H_v := Lib.hid (H_v.out.on hal)
    replace H_x := Lib.hid (H_x.out.on hal)
    replace H_y := Lib.hid (H_y.out.on hal)
    replace BB := Lib.hid (BB.out.trans (hal.mono BB.out.size))
    have C_y := Lib.hid (Ret.Blk.new' (w := w5) #[.slice x_ya n_ya c_ya, .slice x_yb n_yb c_yb] 28 (n := w5.heap.size) (by first | rfl | simp)); clear hal
    go_wp2_with fail
    refine (Draw.dDrawFormatRule _ _ l0 (Q0.out.on BB.out)).mono ?_
    rintro e w6 ⟨tt, U_t, rfl, ho_t, b_t, hb⟩
    obtain ⟨x_ta, n_ta, c_ta, x_tb, n_tb, c_tb, rfl, ho_t⟩ := Row.kRl_shapeA ho_t
    replace C_r := Lib.hid (C_r.out.on hb)
    replace C_n := Lib.hid (C_n.out.on hb)
    replace C_b := Lib.hid (C_b.out.on hb)
    replace C_m := Lib.hid (C_m.out.on hb)
    replace C_v := Lib.hid (C_v.out.on hb)
    replace C_x := Lib.hid (C_x.out.on hb)
    replace C_y := Lib.hid (C_y.out.on hb)
    replace H_M := Lib.hid (H_M.out.on hb)
    replace H_r := Lib.hid (H_r.out.on hb)
    replace H_n := Lib.hid (H_n.out.on hb)
    replace H_b := Lib.hid (H_b.out.on hb)
    replace H_l := Lib.hid (H_l.out.on hb)
    replace H_m := Lib.hid (H_m.out.on hb)
    replace H_v := Lib.hid (H_v.out.on hb)
    replace H_x := Lib.hid (H_x.out.on hb)
    replace H_y := Lib.hid (H_y.out.on hb)
    replace BB := Lib.hid (BB.out.trans (hb.mono BB.out.size))
    clear hb
    have H_t := Lib.hid ho_t; clear ho_t
    have hal := (Below.refl (w6).heap.size (w6)).alloc (Nat.le_refl _) (.cells #[.slice x_ta n_ta c_ta, .slice x_tb n_tb c_tb] 28)
    replace C_r := Lib.hid (C_r.out.on hal)
    replace C_n := Lib.hid (C_n.out.on hal)
    replace C_b := Lib.hid (C_b.out.on hal)
    replace C_m := Lib.hid (C_m.out.on hal)
    replace C_v := Lib.hid (C_v.out.on hal)
    replace C_x := Lib.hid (C_x.out.on hal)
    replace C_y := Lib.hid (C_y.out.on hal)
    replace H_M := Lib.hid (H_M.out.on hal)
    replace H_r := Lib.hid (H_r.out.on hal)
    replace H_n := Lib.hid (H_n.out.on hal)
    replace H_b := Lib.hid (H_b.out.on hal)
    replace H_l := Lib.hid (H_l.out.on hal)
    replace H_m := Lib.hid (H_m.out.on hal)
    replace H_v := Lib.hid (H_v.out.on hal)
    replace H_x := Lib.hid (H_x.out.on hal)
    replace H_y := Lib.hid (H_y.out.on hal)
    replace H_t := Lib.hid (H_t.out.on hal)
    replace BB := Lib.hid (BB.out.trans (hal.mono BB.out.size))
    have C_t := Lib.hid (Ret.Blk.new' (w := w6) #[.slice x_ta n_ta c_ta, .slice x_tb n_tb c_tb] 28 (n := w6.heap.size) (by first | rfl | simp)); clear hal
    go_wp2_with fail
    refine (Draw.dDrawEqualRules _ _ l0 (Q0.out.on BB.out)).mono ?_
    rintro e w7 ⟨ta, tb, U_p, U_q, rfl, ho_p, b_p, ho_q, b_q, hb⟩
    obtain ⟨x_pa, n_pa, c_pa, x_pb, n_pb, c_pb, rfl, ho_p⟩ := Row.kRl_shapeA ho_p
    obtain ⟨x_qa, n_qa, c_qa, x_qb, n_qb, c_qb, rfl, ho_q⟩ := Row.kRl_shapeA ho_q
    replace C_r := Lib.hid (C_r.out.on hb)
    replace C_n := Lib.hid (C_n.out.on hb)
    replace C_b := Lib.hid (C_b.out.on hb)
    replace C_m := Lib.hid (C_m.out.on hb)
    replace C_v := Lib.hid (C_v.out.on hb)
    replace C_x := Lib.hid (C_x.out.on hb)
    replace C_y := Lib.hid (C_y.out.on hb)
    replace C_t := Lib.hid (C_t.out.on hb)
    replace H_M := Lib.hid (H_M.out.on hb)
    replace H_r := Lib.hid (H_r.out.on hb)
    replace H_n := Lib.hid (H_n.out.on hb)
    replace H_b := Lib.hid (H_b.out.on hb)
    replace H_l := Lib.hid (H_l.out.on hb)
    replace H_m := Lib.hid (H_m.out.on hb)
    replace H_v := Lib.hid (H_v.out.on hb)
    replace H_x := Lib.hid (H_x.out.on hb)
    replace H_y := Lib.hid (H_y.out.on hb)
    replace H_t := Lib.hid (H_t.out.on hb)
    replace BB := Lib.hid (BB.out.trans (hb.mono BB.out.size))
    clear hb
    have H_p := Lib.hid ho_p; clear ho_p
    have H_q := Lib.hid ho_q; clear ho_q
    have hal := (Below.refl (w7).heap.size (w7)).alloc (Nat.le_refl _) (.cells #[.slice x_pa n_pa c_pa, .slice x_pb n_pb c_pb] 28)
    replace C_r := Lib.hid (C_r.out.on hal)
    replace C_n := Lib.hid (C_n.out.on hal)
    replace C_b := Lib.hid (C_b.out.on hal)
    replace C_m := Lib.hid (C_m.out.on hal)
    replace C_v := Lib.hid (C_v.out.on hal)
    replace C_x := Lib.hid (C_x.out.on hal)
    replace C_y := Lib.hid (C_y.out.on hal)
    replace C_t := Lib.hid (C_t.out.on hal)
    replace H_M := Lib.hid (H_M.out.on hal)
    replace H_r := Lib.hid (H_r.out.on hal)
    replace H_n := Lib.hid (H_n.out.on hal)
    replace H_b := Lib.hid (H_b.out.on hal)
    replace H_l := Lib.hid (H_l.out.on hal)
    replace H_m := Lib.hid (H_m.out.on hal)
    replace H_v := Lib.hid (H_v.out.on hal)
    replace H_x := Lib.hid (H_x.out.on hal)
    replace H_y := Lib.hid (H_y.out.on hal)
    replace H_t := Lib.hid (H_t.out.on hal)
    replace H_p := Lib.hid (H_p.out.on hal)
    replace H_q := Lib.hid (H_q.out.on hal)
    replace BB := Lib.hid (BB.out.trans (hal.mono BB.out.size))
    have C_p := Lib.hid (Ret.Blk.new' (w := w7) #[.slice x_pa n_pa c_pa, .slice x_pb n_pb c_pb] 28 (n := w7.heap.size) (by first | rfl | simp)); clear hal
    have hal := (Below.refl ((w7.alloc (.cells #[.slice x_pa n_pa c_pa, .slice x_pb n_pb c_pb] 28))).heap.size ((w7.alloc (.cells #[.slice x_pa n_pa c_pa, .slice x_pb n_pb c_pb] 28)))).alloc (Nat.le_refl _) (.cells #[.slice x_qa n_qa c_qa, .slice x_qb n_qb c_qb] 28)
    replace C_r := Lib.hid (C_r.out.on hal)
    replace C_n := Lib.hid (C_n.out.on hal)
    replace C_b := Lib.hid (C_b.out.on hal)
    replace C_m := Lib.hid (C_m.out.on hal)
    replace C_v := Lib.hid (C_v.out.on hal)
    replace C_x := Lib.hid (C_x.out.on hal)
    replace C_y := Lib.hid (C_y.out.on hal)
    replace C_t := Lib.hid (C_t.out.on hal)
    replace C_p := Lib.hid (C_p.out.on hal)
    replace H_M := Lib.hid (H_M.out.on hal)
    replace H_r := Lib.hid (H_r.out.on hal)
    replace H_n := Lib.hid (H_n.out.on hal)
    replace H_b := Lib.hid (H_b.out.on hal)
    replace H_l := Lib.hid (H_l.out.on hal)
    replace H_m := Lib.hid (H_m.out.on hal)
    replace H_v := Lib.hid (H_v.out.on hal)
    replace H_x := Lib.hid (H_x.out.on hal)
    replace H_y := Lib.hid (H_y.out.on hal)
    replace H_t := Lib.hid (H_t.out.on hal)
    replace H_p := Lib.hid (H_p.out.on hal)
    replace H_q := Lib.hid (H_q.out.on hal)
    replace BB := Lib.hid (BB.out.trans (hal.mono BB.out.size))
    have C_q := Lib.hid (Ret.Blk.new' (w := (w7.alloc (.cells #[.slice x_pa n_pa c_pa, .slice x_pb n_pb c_pb] 28))) #[.slice x_qa n_qa c_qa, .slice x_qb n_qb c_qb] 28 (n := w7.heap.size + 1) (by first | rfl | simp)); clear hal
    obtain ⟨k, h_k⟩ : ∃ z, Row.firstR tl lm lw = z := ⟨_, rfl⟩
    have HK := Lib.hid h_k; clear h_k
    obtain ⟨z1, h_z1⟩ : ∃ z, Row.allowsR tr rn rb = z := ⟨_, rfl⟩
    have HZ1 := Lib.hid h_z1; clear h_z1
    obtain ⟨z2, h_z2⟩ : ∃ z, decide (0 ≤ Row.firstR tl lm lw) = z := ⟨_, rfl⟩
    have HZ2 := Lib.hid h_z2; clear h_z2
    obtain ⟨q3, h_q3⟩ : ∃ z, Row.fmtR xx = z := ⟨_, rfl⟩
    have HQ3 := Lib.hid h_q3; clear h_q3
    obtain ⟨q4, h_q4⟩ : ∃ z, Row.fmtR tt = z := ⟨_, rfl⟩
    have HQ4 := Lib.hid h_q4; clear h_q4
    obtain ⟨z5, h_z5⟩ : ∃ z, decide (ta = tb) = z := ⟨_, rfl⟩
    have HZ5 := Lib.hid h_z5; clear h_z5
    obtain ⟨z6, h_z6⟩ : ∃ z, Row.validRs tl = z := ⟨_, rfl⟩
    have HZ6 := Lib.hid h_z6; clear h_z6
    obtain ⟨z7, h_z7⟩ : ∃ z, Row.validR tt = z := ⟨_, rfl⟩
    have HZ7 := Lib.hid h_z7; clear h_z7
    have c0_m : ((w7.alloc (.cells #[.slice x_pa n_pa c_pa, .slice x_pb n_pb c_pb] 28)).alloc (.cells #[.slice x_qa n_qa c_qa, .slice x_qb n_qb c_qb] 28)).cell? ⟨w2.heap.size, 0, none⟩ = some (.slice x_m n_m c_m) := C_m.out.cell 0
    have c0_v : ((w7.alloc (.cells #[.slice x_pa n_pa c_pa, .slice x_pb n_pb c_pb] 28)).alloc (.cells #[.slice x_qa n_qa c_qa, .slice x_qb n_qb c_qb] 28)).cell? ⟨w2.heap.size + 1, 0, none⟩ = some (.slice x_v n_v c_v) := C_v.out.cell 0
    go_wp2_with fail
    clear c0_m c0_v
    refine (Row.iFaV k HK.out H_l.out H_m.out H_v.out HRL.out b_m b_v).mono ?_
    rintro e w8 ⟨rfl, hb⟩
    replace C_r := Lib.hid (C_r.out.on hb)
    replace C_n := Lib.hid (C_n.out.on hb)
    replace C_b := Lib.hid (C_b.out.on hb)
    replace C_m := Lib.hid (C_m.out.on hb)
    replace C_v := Lib.hid (C_v.out.on hb)
    replace C_x := Lib.hid (C_x.out.on hb)
    replace C_y := Lib.hid (C_y.out.on hb)
    replace C_t := Lib.hid (C_t.out.on hb)
    replace C_p := Lib.hid (C_p.out.on hb)
    replace C_q := Lib.hid (C_q.out.on hb)
    replace H_M := Lib.hid (H_M.out.on hb)
    replace H_r := Lib.hid (H_r.out.on hb)
    replace H_n := Lib.hid (H_n.out.on hb)
    replace H_b := Lib.hid (H_b.out.on hb)
    replace H_l := Lib.hid (H_l.out.on hb)
    replace H_m := Lib.hid (H_m.out.on hb)
    replace H_v := Lib.hid (H_v.out.on hb)
    replace H_x := Lib.hid (H_x.out.on hb)
    replace H_y := Lib.hid (H_y.out.on hb)
    replace H_t := Lib.hid (H_t.out.on hb)
    replace H_p := Lib.hid (H_p.out.on hb)
    replace H_q := Lib.hid (H_q.out.on hb)
    replace BB := Lib.hid (BB.out.trans (hb.mono BB.out.size))
    clear hb
    go_wp2_with fail
    refine Row.regU11 H_r H_x H_y H_t H_p H_q H_n H_b H_m H_v H_l HRL HK HZ1 HZ2 HQ3 HQ4 HZ5 HZ6 HZ7 (by omega) b_n b_b b_m b_v b_x (by omega) (by omega) (by omega) (Lib.hid (C_r.out.cell 0)) (Lib.hid (C_r.out.cell 1)) (Lib.hid (C_x.out.cell 0)) (Lib.hid (C_x.out.cell 1)) (Lib.hid (C_y.out.cell 0)) (Lib.hid (C_y.out.cell 1)) (Lib.hid (C_t.out.cell 0)) (Lib.hid (C_t.out.cell 1)) (Lib.hid (C_p.out.cell 0)) (Lib.hid (C_p.out.cell 1)) (Lib.hid (C_q.out.cell 0)) (Lib.hid (C_q.out.cell 1)) (Lib.hid (C_n.out.cell 0)) (Lib.hid (C_b.out.cell 0)) (Lib.hid (C_m.out.cell 0)) (Lib.hid (C_v.out.cell 0)) ?_
    intro u57 u58 u59 u60 u61 u62 u63 u64 u65 u66 u67 u68 u69 u70 u71 u72 u73 u74 u75 u76 u77 u78 u79 u80 u81 u82 u83 u84 u85 u86 u87 u88 u89 u90 u91 u92 u93 u94 u95 u96 u97 u98 u99 u100 u101 u102 u103 u104 u105 u106 u107 u108 u109 u110 u111 u112 u113 u114 u115 u116 u117 u118 u119 u120 u121 u122 u123 u124 u125 u126 u127 u128 u129 u130 u131 u132 wx hb
    replace C_r := Lib.hid (C_r.out.on hb)
    replace C_n := Lib.hid (C_n.out.on hb)
    replace C_b := Lib.hid (C_b.out.on hb)
    replace C_m := Lib.hid (C_m.out.on hb)
    replace C_v := Lib.hid (C_v.out.on hb)
    replace C_x := Lib.hid (C_x.out.on hb)
    replace C_y := Lib.hid (C_y.out.on hb)
    replace C_t := Lib.hid (C_t.out.on hb)
    replace C_p := Lib.hid (C_p.out.on hb)
    replace C_q := Lib.hid (C_q.out.on hb)
    replace H_M := Lib.hid (H_M.out.on hb)
    replace H_r := Lib.hid (H_r.out.on hb)
    replace H_n := Lib.hid (H_n.out.on hb)
    replace H_b := Lib.hid (H_b.out.on hb)
    replace H_l := Lib.hid (H_l.out.on hb)
    replace H_m := Lib.hid (H_m.out.on hb)
    replace H_v := Lib.hid (H_v.out.on hb)
    replace H_x := Lib.hid (H_x.out.on hb)
    replace H_y := Lib.hid (H_y.out.on hb)
    replace H_t := Lib.hid (H_t.out.on hb)
    replace H_p := Lib.hid (H_p.out.on hb)
    replace H_q := Lib.hid (H_q.out.on hb)
    replace BB := Lib.hid (BB.out.trans (hb.mono BB.out.size))
    clear hb
    clear H_r
    clear C_r
    clear H_n
    clear C_n
    clear H_b
    clear C_b
    clear H_y
    clear C_y
    clear H_p
    clear C_p
    clear H_q
    clear C_q
    clear HZ1 HZ2 HQ3 HZ5 HZ6
    have hq4 : q4.size ≤ 3000 := by have h9 := Draw.fmtR_size tt; rw [HQ4.out] at h9; omega
    cases ok with
    | false =>
      have c0_t : wx.cell? ⟨w6.heap.size, 0, none⟩ = some (.slice x_ta n_ta c_ta) := C_t.out.cell 0
      have c1_t : wx.cell? ⟨w6.heap.size, 1, none⟩ = some (.slice x_tb n_tb c_tb) := C_t.out.cell 1
      go_wp2_with fail
      clear c0_t c1_t
      clear H_x
      clear C_x
      refine (Row.iFrV q4 HQ4.out H_t.out (by omega)).mono ?_
      rintro e w9 ⟨rfl, hb⟩
      replace C_m := Lib.hid (C_m.out.on hb)
      replace C_v := Lib.hid (C_v.out.on hb)
      replace C_t := Lib.hid (C_t.out.on hb)
      replace H_M := Lib.hid (H_M.out.on hb)
      replace H_l := Lib.hid (H_l.out.on hb)
      replace H_m := Lib.hid (H_m.out.on hb)
      replace H_v := Lib.hid (H_v.out.on hb)
      replace H_t := Lib.hid (H_t.out.on hb)
      replace BB := Lib.hid (BB.out.trans (hb.mono BB.out.size))
      clear hb
      go_wp2_with fail
      obtain ⟨zz, h_zz⟩ : ∃ z, z = Row.prR q4 := ⟨_, rfl⟩
      have HZZ := Lib.hid h_zz; clear h_zz
      obtain ⟨back, h_back⟩ : ∃ z, z = Row.prOk q4 := ⟨_, rfl⟩
      have HBK := Lib.hid h_back; clear h_back
      refine (Row.implParseRule q4 _ H_M.out (by omega)).mono ?_
      rintro e w10 ⟨U_z, rfl, ho_z, hb⟩
      rw [← HZZ.out] at ho_z
      rw [← HBK.out]
      obtain ⟨x_za, n_za, c_za, x_zb, n_zb, c_zb, rfl, ho_z⟩ := Row.kRl_shape ho_z
      replace C_m := Lib.hid (C_m.out.on hb)
      replace C_v := Lib.hid (C_v.out.on hb)
      replace C_t := Lib.hid (C_t.out.on hb)
      replace H_M := Lib.hid (H_M.out.on hb)
      replace H_l := Lib.hid (H_l.out.on hb)
      replace H_m := Lib.hid (H_m.out.on hb)
      replace H_v := Lib.hid (H_v.out.on hb)
      replace H_t := Lib.hid (H_t.out.on hb)
      replace BB := Lib.hid (BB.out.trans (hb.mono BB.out.size))
      clear hb
      have H_z := Lib.hid ho_z.at; clear ho_z
      have hal := (Below.refl (w10).heap.size (w10)).alloc (Nat.le_refl _) (.cells #[.slice x_za n_za c_za, .slice x_zb n_zb c_zb] 28)
      replace C_m := Lib.hid (C_m.out.on hal)
      replace C_v := Lib.hid (C_v.out.on hal)
      replace C_t := Lib.hid (C_t.out.on hal)
      replace H_M := Lib.hid (H_M.out.on hal)
      replace H_l := Lib.hid (H_l.out.on hal)
      replace H_m := Lib.hid (H_m.out.on hal)
      replace H_v := Lib.hid (H_v.out.on hal)
      replace H_t := Lib.hid (H_t.out.on hal)
      replace H_z := Lib.hid (H_z.out.on hal)
      replace BB := Lib.hid (BB.out.trans (hal.mono BB.out.size))
      have C_z := Lib.hid (Ret.Blk.new' (w := w10) #[.slice x_za n_za c_za, .slice x_zb n_zb c_zb] 28 (n := w10.heap.size) (by first | rfl | simp)); clear hal
      go_upto_region 16 with fail
      cases z7 with
      | false =>
        by_cases hk0 : 0 ≤ k
        · skip
          obtain ⟨j, hkj, hj, hal⟩ := Row.firstR_yes HK.out hk0
          subst hkj
          obtain ⟨bl, off, xe0, xe1, ne0, ce0, ne1, ce1, hxl, hnl, hcl, e0, e1, he⟩ := Row.elem10 H_l.out hj
          subst hxl
          have HAl := Lib.hid hal; have H_e := Lib.hid he; have E0 := Lib.hid e0; have E1 := Lib.hid e1; have hwe := HRL.out.2 _ (Row.nth_mem hj); have hll := HRL.out.1
          have HZ2t := Lib.hid (show decide (0 ≤ Row.firstR tl lm lw) = true from decide_eq_true (by rw [HK.out]; omega))
          clear hal he e0 e1
          refine Row.regU16pi H_m H_v H_t H_e H_l HAl (by omega) (by omega) (by omega) (by omega) HZ2t HZ7 HRL b_m b_v (by omega) (Lib.hid (C_m.out.cell 0)) (Lib.hid (C_v.out.cell 0)) (Lib.hid (C_t.out.cell 0)) (Lib.hid (C_t.out.cell 1)) E0 E1 ?_
          intro u152 u153 u154 u155 u156 u157 u158 u159 u160 u161 u162 u163 u164 u165 u166 u167 u168 u169 u170 u171 u172 u173 u174 u175 u176 u177 u178 u179 u180 u181 u182 u183 u184 wx hb
          have BZ := Lib.hid (BB.out.trans (hb.mono BB.out.size)); clear hb
          go_wp2_with fail
          go_ret
          exact ⟨rfl, BZ.out⟩
        · skip
          have HZ2t := Lib.hid (show decide (0 ≤ Row.firstR tl lm lw) = false from decide_eq_false (by rw [HK.out]; exact hk0))
          have hkn : k < 0 := by omega
          refine Row.regU16ni H_m H_v H_t H_l hkn hk0 HZ2t HZ7 HRL b_m b_v (by omega) (Lib.hid (C_m.out.cell 0)) (Lib.hid (C_v.out.cell 0)) (Lib.hid (C_t.out.cell 0)) (Lib.hid (C_t.out.cell 1)) ?_
          intro u152 u153 u154 u155 u156 u157 u158 u159 u160 u161 u162 u163 u164 u165 u166 u167 u168 u169 u170 u171 u172 u173 u174 u175 u176 u177 u178 u179 u180 u181 u182 u183 u184 wx hb
          have BZ := Lib.hid (BB.out.trans (hb.mono BB.out.size)); clear hb
          go_wp2_with fail
          go_ret
          exact ⟨rfl, BZ.out⟩
      | true =>
        have hbk : back = true := by rw [HBK.out, ← HQ4.out]; exact (Row.fmt_pr HZ7.out).1
        have hzz : zz = tt := by rw [HZZ.out, ← HQ4.out]; exact (Row.fmt_pr HZ7.out).2
        have H_zz := Lib.hid (show Row.kRl.At (w10.alloc (.cells #[.slice x_za n_za c_za, .slice x_zb n_zb c_zb] 28)) (.agg #[.slice x_za n_za c_za, .slice x_zb n_zb c_zb]) tt from hzz ▸ H_z.out)
        clear hzz
        subst hbk
        by_cases hk0 : 0 ≤ k
        · skip
          obtain ⟨j, hkj, hj, hal⟩ := Row.firstR_yes HK.out hk0
          subst hkj
          obtain ⟨bl, off, xe0, xe1, ne0, ce0, ne1, ce1, hxl, hnl, hcl, e0, e1, he⟩ := Row.elem10 H_l.out hj
          subst hxl
          have HAl := Lib.hid hal; have H_e := Lib.hid he; have E0 := Lib.hid e0; have E1 := Lib.hid e1; have hwe := HRL.out.2 _ (Row.nth_mem hj); have hll := HRL.out.1
          have HZ2t := Lib.hid (show decide (0 ≤ Row.firstR tl lm lw) = true from decide_eq_true (by rw [HK.out]; omega))
          clear hal he e0 e1
          refine Row.regU16pv H_m H_v H_t H_e H_l HAl (by omega) (by omega) (by omega) (by omega) H_zz HZ2t HZ7 HRL b_m b_v (by omega) (Lib.hid (C_m.out.cell 0)) (Lib.hid (C_v.out.cell 0)) (Lib.hid (C_t.out.cell 0)) (Lib.hid (C_t.out.cell 1)) E0 E1 (Lib.hid (C_z.out.cell 0)) (Lib.hid (C_z.out.cell 1)) ?_
          intro u152 u153 u154 u155 u156 u157 u158 u159 u160 u161 u162 u163 u164 u165 u166 u167 u168 u169 u170 u171 u172 u173 u174 u175 u176 u177 u178 u179 u180 u181 u182 u183 u184 wx hb
          have BZ := Lib.hid (BB.out.trans (hb.mono BB.out.size)); clear hb
          go_wp2_with fail
          go_ret
          exact ⟨rfl, BZ.out⟩
        · skip
          have HZ2t := Lib.hid (show decide (0 ≤ Row.firstR tl lm lw) = false from decide_eq_false (by rw [HK.out]; exact hk0))
          have hkn : k < 0 := by omega
          refine Row.regU16nv H_m H_v H_t H_l hkn hk0 H_zz HZ2t HZ7 HRL b_m b_v (by omega) (Lib.hid (C_m.out.cell 0)) (Lib.hid (C_v.out.cell 0)) (Lib.hid (C_t.out.cell 0)) (Lib.hid (C_t.out.cell 1)) (Lib.hid (C_z.out.cell 0)) (Lib.hid (C_z.out.cell 1)) ?_
          intro u152 u153 u154 u155 u156 u157 u158 u159 u160 u161 u162 u163 u164 u165 u166 u167 u168 u169 u170 u171 u172 u173 u174 u175 u176 u177 u178 u179 u180 u181 u182 u183 u184 wx hb
          have BZ := Lib.hid (BB.out.trans (hb.mono BB.out.size)); clear hb
          go_wp2_with fail
          go_ret
          exact ⟨rfl, BZ.out⟩
    | true =>
      have HFM := Lib.hid (show Row.fmtR xx = s by rw [HXX.out]; exact Row.pr_fmt HOK.out.symm)
      have HVX := Lib.hid (show Row.validR xx = true by rw [HXX.out]; exact Row.pr_valid HOK.out.symm)
      have c0_x : wx.cell? ⟨w4.heap.size, 0, none⟩ = some (.slice x_xa n_xa c_xa) := C_x.out.cell 0
      have c1_x : wx.cell? ⟨w4.heap.size, 1, none⟩ = some (.slice x_xb n_xb c_xb) := C_x.out.cell 1
      go_wp2_with fail
      clear c0_x c1_x
      refine (Row.iFrV s HFM.out H_x.out b_x).mono ?_
      rintro e w11 ⟨rfl, hb⟩
      replace C_m := Lib.hid (C_m.out.on hb)
      replace C_v := Lib.hid (C_v.out.on hb)
      replace C_x := Lib.hid (C_x.out.on hb)
      replace C_t := Lib.hid (C_t.out.on hb)
      replace H_M := Lib.hid (H_M.out.on hb)
      replace H_l := Lib.hid (H_l.out.on hb)
      replace H_m := Lib.hid (H_m.out.on hb)
      replace H_v := Lib.hid (H_v.out.on hb)
      replace H_x := Lib.hid (H_x.out.on hb)
      replace H_t := Lib.hid (H_t.out.on hb)
      replace BB := Lib.hid (BB.out.trans (hb.mono BB.out.size))
      clear hb
      have c0_x : w11.cell? ⟨w4.heap.size, 0, none⟩ = some (.slice x_xa n_xa c_xa) := C_x.out.cell 0
      have c1_x : w11.cell? ⟨w4.heap.size, 1, none⟩ = some (.slice x_xb n_xb c_xb) := C_x.out.cell 1
      go_wp2_with fail
      clear c0_x c1_x
      refine (Row.iVrV true HVX.out H_x.out b_x).mono ?_
      rintro e w12 ⟨rfl, hb⟩
      replace C_m := Lib.hid (C_m.out.on hb)
      replace C_v := Lib.hid (C_v.out.on hb)
      replace C_x := Lib.hid (C_x.out.on hb)
      replace C_t := Lib.hid (C_t.out.on hb)
      replace H_M := Lib.hid (H_M.out.on hb)
      replace H_l := Lib.hid (H_l.out.on hb)
      replace H_m := Lib.hid (H_m.out.on hb)
      replace H_v := Lib.hid (H_v.out.on hb)
      replace H_x := Lib.hid (H_x.out.on hb)
      replace H_t := Lib.hid (H_t.out.on hb)
      replace BB := Lib.hid (BB.out.trans (hb.mono BB.out.size))
      clear hb
      have c0_t : w12.cell? ⟨w6.heap.size, 0, none⟩ = some (.slice x_ta n_ta c_ta) := C_t.out.cell 0
      have c1_t : w12.cell? ⟨w6.heap.size, 1, none⟩ = some (.slice x_tb n_tb c_tb) := C_t.out.cell 1
      go_wp2_with fail
      clear c0_t c1_t
      clear H_x
      clear C_x
      refine (Row.iFrV q4 HQ4.out H_t.out (by omega)).mono ?_
      rintro e w13 ⟨rfl, hb⟩
      replace C_m := Lib.hid (C_m.out.on hb)
      replace C_v := Lib.hid (C_v.out.on hb)
      replace C_t := Lib.hid (C_t.out.on hb)
      replace H_M := Lib.hid (H_M.out.on hb)
      replace H_l := Lib.hid (H_l.out.on hb)
      replace H_m := Lib.hid (H_m.out.on hb)
      replace H_v := Lib.hid (H_v.out.on hb)
      replace H_t := Lib.hid (H_t.out.on hb)
      replace BB := Lib.hid (BB.out.trans (hb.mono BB.out.size))
      clear hb
      go_wp2_with fail
      obtain ⟨zz, h_zz⟩ : ∃ z, z = Row.prR q4 := ⟨_, rfl⟩
      have HZZ := Lib.hid h_zz; clear h_zz
      obtain ⟨back, h_back⟩ : ∃ z, z = Row.prOk q4 := ⟨_, rfl⟩
      have HBK := Lib.hid h_back; clear h_back
      refine (Row.implParseRule q4 _ H_M.out (by omega)).mono ?_
      rintro e w14 ⟨U_z, rfl, ho_z, hb⟩
      rw [← HZZ.out] at ho_z
      rw [← HBK.out]
      obtain ⟨x_za, n_za, c_za, x_zb, n_zb, c_zb, rfl, ho_z⟩ := Row.kRl_shape ho_z
      replace C_m := Lib.hid (C_m.out.on hb)
      replace C_v := Lib.hid (C_v.out.on hb)
      replace C_t := Lib.hid (C_t.out.on hb)
      replace H_M := Lib.hid (H_M.out.on hb)
      replace H_l := Lib.hid (H_l.out.on hb)
      replace H_m := Lib.hid (H_m.out.on hb)
      replace H_v := Lib.hid (H_v.out.on hb)
      replace H_t := Lib.hid (H_t.out.on hb)
      replace BB := Lib.hid (BB.out.trans (hb.mono BB.out.size))
      clear hb
      have H_z := Lib.hid ho_z.at; clear ho_z
      have hal := (Below.refl (w14).heap.size (w14)).alloc (Nat.le_refl _) (.cells #[.slice x_za n_za c_za, .slice x_zb n_zb c_zb] 28)
      replace C_m := Lib.hid (C_m.out.on hal)
      replace C_v := Lib.hid (C_v.out.on hal)
      replace C_t := Lib.hid (C_t.out.on hal)
      replace H_M := Lib.hid (H_M.out.on hal)
      replace H_l := Lib.hid (H_l.out.on hal)
      replace H_m := Lib.hid (H_m.out.on hal)
      replace H_v := Lib.hid (H_v.out.on hal)
      replace H_t := Lib.hid (H_t.out.on hal)
      replace H_z := Lib.hid (H_z.out.on hal)
      replace BB := Lib.hid (BB.out.trans (hal.mono BB.out.size))
      have C_z := Lib.hid (Ret.Blk.new' (w := w14) #[.slice x_za n_za c_za, .slice x_zb n_zb c_zb] 28 (n := w14.heap.size) (by first | rfl | simp)); clear hal
      go_upto_region 16 with fail
      cases z7 with
      | false =>
        by_cases hk0 : 0 ≤ k
        · skip
          obtain ⟨j, hkj, hj, hal⟩ := Row.firstR_yes HK.out hk0
          subst hkj
          obtain ⟨bl, off, xe0, xe1, ne0, ce0, ne1, ce1, hxl, hnl, hcl, e0, e1, he⟩ := Row.elem10 H_l.out hj
          subst hxl
          have HAl := Lib.hid hal; have H_e := Lib.hid he; have E0 := Lib.hid e0; have E1 := Lib.hid e1; have hwe := HRL.out.2 _ (Row.nth_mem hj); have hll := HRL.out.1
          have HZ2t := Lib.hid (show decide (0 ≤ Row.firstR tl lm lw) = true from decide_eq_true (by rw [HK.out]; omega))
          clear hal he e0 e1
          refine Row.regU16pi H_m H_v H_t H_e H_l HAl (by omega) (by omega) (by omega) (by omega) HZ2t HZ7 HRL b_m b_v (by omega) (Lib.hid (C_m.out.cell 0)) (Lib.hid (C_v.out.cell 0)) (Lib.hid (C_t.out.cell 0)) (Lib.hid (C_t.out.cell 1)) E0 E1 ?_
          intro u152 u153 u154 u155 u156 u157 u158 u159 u160 u161 u162 u163 u164 u165 u166 u167 u168 u169 u170 u171 u172 u173 u174 u175 u176 u177 u178 u179 u180 u181 u182 u183 u184 wx hb
          have BZ := Lib.hid (BB.out.trans (hb.mono BB.out.size)); clear hb
          go_wp2_with fail
          go_ret
          exact ⟨rfl, BZ.out⟩
        · skip
          have HZ2t := Lib.hid (show decide (0 ≤ Row.firstR tl lm lw) = false from decide_eq_false (by rw [HK.out]; exact hk0))
          have hkn : k < 0 := by omega
          refine Row.regU16ni H_m H_v H_t H_l hkn hk0 HZ2t HZ7 HRL b_m b_v (by omega) (Lib.hid (C_m.out.cell 0)) (Lib.hid (C_v.out.cell 0)) (Lib.hid (C_t.out.cell 0)) (Lib.hid (C_t.out.cell 1)) ?_
          intro u152 u153 u154 u155 u156 u157 u158 u159 u160 u161 u162 u163 u164 u165 u166 u167 u168 u169 u170 u171 u172 u173 u174 u175 u176 u177 u178 u179 u180 u181 u182 u183 u184 wx hb
          have BZ := Lib.hid (BB.out.trans (hb.mono BB.out.size)); clear hb
          go_wp2_with fail
          go_ret
          exact ⟨rfl, BZ.out⟩
      | true =>
        have hbk : back = true := by rw [HBK.out, ← HQ4.out]; exact (Row.fmt_pr HZ7.out).1
        have hzz : zz = tt := by rw [HZZ.out, ← HQ4.out]; exact (Row.fmt_pr HZ7.out).2
        have H_zz := Lib.hid (show Row.kRl.At (w14.alloc (.cells #[.slice x_za n_za c_za, .slice x_zb n_zb c_zb] 28)) (.agg #[.slice x_za n_za c_za, .slice x_zb n_zb c_zb]) tt from hzz ▸ H_z.out)
        clear hzz
        subst hbk
        by_cases hk0 : 0 ≤ k
        · skip
          obtain ⟨j, hkj, hj, hal⟩ := Row.firstR_yes HK.out hk0
          subst hkj
          obtain ⟨bl, off, xe0, xe1, ne0, ce0, ne1, ce1, hxl, hnl, hcl, e0, e1, he⟩ := Row.elem10 H_l.out hj
          subst hxl
          have HAl := Lib.hid hal; have H_e := Lib.hid he; have E0 := Lib.hid e0; have E1 := Lib.hid e1; have hwe := HRL.out.2 _ (Row.nth_mem hj); have hll := HRL.out.1
          have HZ2t := Lib.hid (show decide (0 ≤ Row.firstR tl lm lw) = true from decide_eq_true (by rw [HK.out]; omega))
          clear hal he e0 e1
          refine Row.regU16pv H_m H_v H_t H_e H_l HAl (by omega) (by omega) (by omega) (by omega) H_zz HZ2t HZ7 HRL b_m b_v (by omega) (Lib.hid (C_m.out.cell 0)) (Lib.hid (C_v.out.cell 0)) (Lib.hid (C_t.out.cell 0)) (Lib.hid (C_t.out.cell 1)) E0 E1 (Lib.hid (C_z.out.cell 0)) (Lib.hid (C_z.out.cell 1)) ?_
          intro u152 u153 u154 u155 u156 u157 u158 u159 u160 u161 u162 u163 u164 u165 u166 u167 u168 u169 u170 u171 u172 u173 u174 u175 u176 u177 u178 u179 u180 u181 u182 u183 u184 wx hb
          have BZ := Lib.hid (BB.out.trans (hb.mono BB.out.size)); clear hb
          go_wp2_with fail
          go_ret
          exact ⟨rfl, BZ.out⟩
        · skip
          have HZ2t := Lib.hid (show decide (0 ≤ Row.firstR tl lm lw) = false from decide_eq_false (by rw [HK.out]; exact hk0))
          have hkn : k < 0 := by omega
          refine Row.regU16nv H_m H_v H_t H_l hkn hk0 H_zz HZ2t HZ7 HRL b_m b_v (by omega) (Lib.hid (C_m.out.cell 0)) (Lib.hid (C_v.out.cell 0)) (Lib.hid (C_t.out.cell 0)) (Lib.hid (C_t.out.cell 1)) (Lib.hid (C_z.out.cell 0)) (Lib.hid (C_z.out.cell 1)) ?_
          intro u152 u153 u154 u155 u156 u157 u158 u159 u160 u161 u162 u163 u164 u165 u166 u167 u168 u169 u170 u171 u172 u173 u174 u175 u176 u177 u178 u179 u180 u181 u182 u183 u184 wx hb
          have BZ := Lib.hid (BB.out.trans (hb.mono BB.out.size)); clear hb
          go_wp2_with fail
          go_ret
          exact ⟨rfl, BZ.out⟩
  · obtain ⟨x, cap, rfl, -⟩ := Draw.bytes_at q0
    have hl : decide ((1048576 : Int) < (l0.length : Int)) = true := by simpa using hlen
    clear hlen q0
    obtain ⟨n0, hn0⟩ : ∃ n0, n0 = l0.length := ⟨_, rfl⟩
    rw [← hn0] at hl ⊢
    clear hn0
    go_enter Tryz.func3, Tryz.ntmps3
    go_wp2_with fail
    refine (Draw.big_yes x n0 cap w hl).mono ?_
    rintro e w' ⟨rfl, rfl⟩
    go_wp2_with fail
    go_ret
    exact ⟨rfl, Below.refl _ _⟩

set_option maxRecDepth 100000 in
theorem lifted (os : Os) (started : os.Started) (H : Type) (enc : TypeId × Value → H) :
    ReturnsInHanded {} Tryz.checked os 3 .any (Rows.fnRulesSpec.pre6 enc Tryz.prog Tryz.f3 Rows.fnRulesRow.domain false) (Rows.fnRulesSpec.post enc Tryz.prog Tryz.f3 false true false false) := by
  refine returnsInHanded_of_change_shaped (C := Tryz.checked) own started (by kernel_rfl) Tryz.func3
    (ChangeSpec.witness6 (enc := enc) (C := Tryz.checked) false ⟨#[], #[.slice none 0 0], []⟩ 8 (by kernel_rfl) (by kernel_rfl) (by kernel_rfl) (by kernel_rfl)) ?_
  intro W base args ds gs before hval0 hW _ hsz0 hsh _
  have hval : ∀ (j : Nat) t v, Tryz.f3.params[j]? = some t → args[j]? = some v → Value.okWide Tryz.prog W .any base t v := hval0
  have hsz : (DataW.weightsEach Tryz.prog (Tryz.f3.params.toList ++ Rows.fnRulesSpec.plain.varTypes Tryz.prog) (ds ++ gs)).all (· ≤ reachBytes) = true := hsz0
  clear hsz0
  have hW' := hW
  obtain ⟨p, q, hA0, hV, rfl, hfz, hnd⟩ := hW
  have hA : DataW.TrodAll enc Tryz.prog W 0 (fun _ => true) true Tryz.f3.params.toList args.toList ds p := hA0
  rw [Tryz.params3] at hA hval hsz
  obtain ⟨v0, vs0, d0, ds0, p0, q0, hargs, rfl, rfl, h0, r0⟩ := trodAll_cons hA
  obtain ⟨rfl, rfl, rfl⟩ := trodAll_nil r0
  obtain rfl : args = #[v0] := by cases args; simp_all
  obtain ⟨rfl, rfl⟩ := trodVars_none hV
  obtain ⟨l0, q0⟩ := Frame.open_bytes (j := 0) Tryz.underlying22 Tryz.underlying5 (by kernel_rfl) (by kernel_rfl) (hval 0 22 v0 rfl rfl) h0 hsz rfl rfl
  clear hA0 hval0
  refine (walk W _ _ q0 (Row.maxL_of hsh)).mono fun e W' ⟨he, hb⟩ => ?_
  subst he
  exact ⟨_, rfl, Frame.law_post laidOut (by kernel_rfl) rfl Tryz.underlying4 rfl rfl hW' hb⟩

theorem said : Rows.FnRulesSaid :=
  OpenClaim.holds_of_wide 3 Tryz.f3 rfl rfl rfl rfl rfl rfl rfl ⟨rfl, rfl, rfl, rfl, rfl⟩ rfl rfl rfl rfl rfl (by kernel_rfl) Tryz.func3 (by kernel_rfl)
    (of_decide_eq_true (by kernel_rfl)) (by unfold Func.isWrapper; first | (rw [if_pos (by decide +kernel)]; kernel_rfl) | (rw [if_neg (by decide +kernel)]; exact ⟨rfl, rfl⟩))
    (fun os started H enc _ => lifted os started H enc)

#print axioms said
end Go.Proofs.YtkojeajjappchaaGreat.fnRules
