/- For every input: names are parsed from their texts, they are totally ordered, and a name is under its prefixes. No conditions. -/
import Derived.Test.YtnhfdgjbbjogmaaRows
import Derived.WalkKit
import Derived.ProofKit
import Derived.OpenShut
import Derived.SizedLaws
import Derived.Test.YtnhfdgjbbjogmaaFrame
import Derived.Test.YtnhfdgjbbjogmaaNameTop
import Derived.Test.YtnhfdgjbbjogmaaReg
import Derived.Test.YtnhfdgjbbjogmaaRegN
import Derived.Test.YtnhfdgjbbjogmaaRegT
namespace Go.Proofs.Ytnhfdgjbbjogmaa.fnNames
open Go.ChangeShapes Go.WideShapes Go.ChangeAt Go.RowKit
open Go.ChangeMaps (open_string shut_string)
set_option linter.unusedVariables false

theorem own : ownKnob Try.prog.godebug = none := by kernel_rfl
theorem laidOut : laidOutB Try.prog = true := by kernel_rfl

set_option maxRecDepth 100000 in
set_option maxHeartbeats 40000000 in
theorem walk (w : World) (y0 : Value) (l0 : List UInt8) (q0 : Frame.Bytes w y0 l0) :
    Calls Try.prog 3 #[y0] w fun e w' => e = .returned (.bool true) ∧ Below w.heap.size w w' := by
  by_cases hlen : (l0.length : Int) ≤ 1048576
  · obtain ⟨x, cap, rfl, -⟩ := Draw.bytes_at q0
    have hl : decide ((1048576 : Int) < (l0.length : Int)) = false := by simpa using hlen
    have Q0 := Lib.hid q0; clear q0 hlen
    obtain ⟨n0, hn0⟩ : ∃ n0, n0 = l0.length := ⟨_, rfl⟩
    rw [← hn0] at hl Q0 ⊢
    have HN0 := Lib.hid hn0; clear hn0
    have BB := Lib.hid (Below.refl w.heap.size w)
    go_enter Try.func3, Try.ntmps3
    go_wp2_with fail
    refine (Draw.big_no x n0 cap w hl).mono ?_
    rintro e w' ⟨rfl, rfl⟩
    go_wp2_with fail
    refine (Draw.drawFormatName _ _ l0 (Q0.out.on BB.out)).mono ?_
    rintro e w1 ⟨u1, m1, rfl, ho_n, bm1, hb⟩
    obtain ⟨x_n, n_n, c_n, rfl, e_n, -, ho_n⟩ := ho_n.shapeN; have E_n := Lib.hid e_n; clear e_n
    replace BB := Lib.hid (BB.out.trans (hb.mono BB.out.size))
    clear hb
    have H_n := Lib.hid ho_n.holds; clear ho_n
    have hal := (Below.refl (w1).heap.size (w1)).alloc (Nat.le_refl _) (.cells #[.slice x_n n_n c_n] 26)
    replace H_n := Lib.hid (H_n.out.on hal)
    replace BB := Lib.hid (BB.out.trans (hal.mono BB.out.size))
    have C_n := Lib.hid (Ret.Box.new' (w := w1) (.slice x_n n_n c_n) 26 (n := w1.heap.size) (by first | rfl | simp)); clear hal
    have c_n := C_n.out.cell
    go_wp2_with fail
    clear c_n
    refine (Draw.drawParseName _ _ l0 (Q0.out.on BB.out)).mono ?_
    rintro e w2 ⟨s, rfl, bs, hb⟩
    replace C_n := Lib.hid (C_n.out.on hb)
    replace H_n := Lib.hid (H_n.out.on hb)
    replace BB := Lib.hid (BB.out.trans (hb.mono BB.out.size))
    clear hb
    have c_n := C_n.out.cell
    go_wp2_with fail
    clear c_n
    refine (Row.implFormatName _ m1 _ H_n.out (by omega)).mono ?_
    rintro e w3 ⟨rfl, hb⟩
    replace C_n := Lib.hid (C_n.out.on hb)
    replace H_n := Lib.hid (H_n.out.on hb)
    replace BB := Lib.hid (BB.out.trans (hb.mono BB.out.size))
    clear hb
    have fz := Draw.fmt_size m1
    have c_n := C_n.out.cell
    go_wp2_with fail
    clear c_n
    refine (Row.implParseName (Row.fmtS m1) _ (by omega)).mono ?_
    rintro e w4 ⟨u2, rfl, ho_x, hb⟩
    obtain ⟨x_x, n_x, c_x, rfl, e_x, -, ho_x⟩ := ho_x.shapeN; have E_x := Lib.hid e_x; clear e_x
    replace C_n := Lib.hid (C_n.out.on hb)
    replace H_n := Lib.hid (H_n.out.on hb)
    replace BB := Lib.hid (BB.out.trans (hb.mono BB.out.size))
    clear hb
    have H_x := Lib.hid ho_x.holds; clear ho_x
    have hal := (Below.refl (w4).heap.size (w4)).alloc (Nat.le_refl _) (.cells #[.slice x_x n_x c_x] 26)
    replace C_n := Lib.hid (C_n.out.on hal)
    replace H_n := Lib.hid (H_n.out.on hal)
    replace H_x := Lib.hid (H_x.out.on hal)
    replace BB := Lib.hid (BB.out.trans (hal.mono BB.out.size))
    have C_x := Lib.hid (Ret.Box.new' (w := w4) (.slice x_x n_x c_x) 26 (n := w4.heap.size) (by first | rfl | simp)); clear hal
    have c_n := C_n.out.cell
    have c_x := C_x.out.cell
    go_wp2_with fail
    clear c_n c_x
    refine (Row.implParseName s _ (by omega)).mono ?_
    rintro e w5 ⟨u3, rfl, ho_y, hb⟩
    obtain ⟨x_y, n_y, c_y, rfl, e_y, -, ho_y⟩ := ho_y.shapeN; have E_y := Lib.hid e_y; clear e_y
    replace C_n := Lib.hid (C_n.out.on hb)
    replace C_x := Lib.hid (C_x.out.on hb)
    replace H_n := Lib.hid (H_n.out.on hb)
    replace H_x := Lib.hid (H_x.out.on hb)
    replace BB := Lib.hid (BB.out.trans (hb.mono BB.out.size))
    clear hb
    have H_y := Lib.hid ho_y.holds; clear ho_y
    have hal := (Below.refl (w5).heap.size (w5)).alloc (Nat.le_refl _) (.cells #[.slice x_y n_y c_y] 26)
    replace C_n := Lib.hid (C_n.out.on hal)
    replace C_x := Lib.hid (C_x.out.on hal)
    replace H_n := Lib.hid (H_n.out.on hal)
    replace H_x := Lib.hid (H_x.out.on hal)
    replace H_y := Lib.hid (H_y.out.on hal)
    replace BB := Lib.hid (BB.out.trans (hal.mono BB.out.size))
    have C_y := Lib.hid (Ret.Box.new' (w := w5) (.slice x_y n_y c_y) 26 (n := w5.heap.size) (by first | rfl | simp)); clear hal
    have c_n := C_n.out.cell
    have c_x := C_x.out.cell
    have c_y := C_y.out.cell
    go_wp2_with fail
    clear c_n c_x c_y
    refine (Row.specParseName s _ (by omega)).mono ?_
    rintro e w6 ⟨u4, rfl, ho_z, hb⟩
    obtain ⟨x_z, n_z, c_z, rfl, e_z, -, ho_z⟩ := ho_z.shapeN; have E_z := Lib.hid e_z; clear e_z
    replace C_n := Lib.hid (C_n.out.on hb)
    replace C_x := Lib.hid (C_x.out.on hb)
    replace C_y := Lib.hid (C_y.out.on hb)
    replace H_n := Lib.hid (H_n.out.on hb)
    replace H_x := Lib.hid (H_x.out.on hb)
    replace H_y := Lib.hid (H_y.out.on hb)
    replace BB := Lib.hid (BB.out.trans (hb.mono BB.out.size))
    clear hb
    have H_z := Lib.hid ho_z; clear ho_z
    have hal := (Below.refl (w6).heap.size (w6)).alloc (Nat.le_refl _) (.cells #[.slice x_z n_z c_z] 26)
    replace C_n := Lib.hid (C_n.out.on hal)
    replace C_x := Lib.hid (C_x.out.on hal)
    replace C_y := Lib.hid (C_y.out.on hal)
    replace H_n := Lib.hid (H_n.out.on hal)
    replace H_x := Lib.hid (H_x.out.on hal)
    replace H_y := Lib.hid (H_y.out.on hal)
    replace H_z := Lib.hid (H_z.out.on hal)
    replace BB := Lib.hid (BB.out.trans (hal.mono BB.out.size))
    have C_z := Lib.hid (Ret.Box.new' (w := w6) (.slice x_z n_z c_z) 26 (n := w6.heap.size) (by first | rfl | simp)); clear hal
    have c_n := C_n.out.cell
    have c_x := C_x.out.cell
    have c_y := C_y.out.cell
    have c_z := C_z.out.cell
    go_wp2_with fail
    clear c_n c_x c_y c_z
    refine (Draw.drawCompareNames _ _ l0 (Q0.out.on BB.out)).mono ?_
    rintro e w7 ⟨u5, ma, u6, mb, rfl, ho_a, bma, ho_b, bmb, hb⟩
    obtain ⟨x_a, n_a, c_a, rfl, e_a, -, ho_a⟩ := ho_a.shapeN; have E_a := Lib.hid e_a; clear e_a
    obtain ⟨x_b, n_b, c_b, rfl, e_b, -, ho_b⟩ := ho_b.shapeN; have E_b := Lib.hid e_b; clear e_b
    replace C_n := Lib.hid (C_n.out.on hb)
    replace C_x := Lib.hid (C_x.out.on hb)
    replace C_y := Lib.hid (C_y.out.on hb)
    replace C_z := Lib.hid (C_z.out.on hb)
    replace H_n := Lib.hid (H_n.out.on hb)
    replace H_x := Lib.hid (H_x.out.on hb)
    replace H_y := Lib.hid (H_y.out.on hb)
    replace H_z := Lib.hid (H_z.out.on hb)
    replace BB := Lib.hid (BB.out.trans (hb.mono BB.out.size))
    clear hb
    have H_a := Lib.hid ho_a.holds; clear ho_a
    have H_b := Lib.hid ho_b.holds; clear ho_b
    have hal := (Below.refl (w7).heap.size (w7)).alloc (Nat.le_refl _) (.cells #[.slice x_a n_a c_a] 26)
    replace C_n := Lib.hid (C_n.out.on hal)
    replace C_x := Lib.hid (C_x.out.on hal)
    replace C_y := Lib.hid (C_y.out.on hal)
    replace C_z := Lib.hid (C_z.out.on hal)
    replace H_n := Lib.hid (H_n.out.on hal)
    replace H_x := Lib.hid (H_x.out.on hal)
    replace H_y := Lib.hid (H_y.out.on hal)
    replace H_z := Lib.hid (H_z.out.on hal)
    replace H_a := Lib.hid (H_a.out.on hal)
    replace H_b := Lib.hid (H_b.out.on hal)
    replace BB := Lib.hid (BB.out.trans (hal.mono BB.out.size))
    have C_a := Lib.hid (Ret.Box.new' (w := w7) (.slice x_a n_a c_a) 26 (n := w7.heap.size) (by first | rfl | simp)); clear hal
    have hal := (Below.refl ((w7.alloc (.cells #[.slice x_a n_a c_a] 26))).heap.size ((w7.alloc (.cells #[.slice x_a n_a c_a] 26)))).alloc (Nat.le_refl _) (.cells #[.slice x_b n_b c_b] 26)
    replace C_n := Lib.hid (C_n.out.on hal)
    replace C_x := Lib.hid (C_x.out.on hal)
    replace C_y := Lib.hid (C_y.out.on hal)
    replace C_z := Lib.hid (C_z.out.on hal)
    replace C_a := Lib.hid (C_a.out.on hal)
    replace H_n := Lib.hid (H_n.out.on hal)
    replace H_x := Lib.hid (H_x.out.on hal)
    replace H_y := Lib.hid (H_y.out.on hal)
    replace H_z := Lib.hid (H_z.out.on hal)
    replace H_a := Lib.hid (H_a.out.on hal)
    replace H_b := Lib.hid (H_b.out.on hal)
    replace BB := Lib.hid (BB.out.trans (hal.mono BB.out.size))
    have C_b := Lib.hid (Ret.Box.new' (w := (w7.alloc (.cells #[.slice x_a n_a c_a] 26))) (.slice x_b n_b c_b) 26 (n := w7.heap.size + 1) (by first | rfl | simp)); clear hal
    have c_n := C_n.out.cell
    have c_x := C_x.out.cell
    have c_y := C_y.out.cell
    have c_z := C_z.out.cell
    have c_a := C_a.out.cell
    have c_b := C_b.out.cell
    go_wp2_with fail
    clear c_n c_x c_y c_z c_a c_b
    refine (Draw.drawTruncate _ _ l0 (Q0.out.on BB.out)).mono ?_
    rintro e w8 ⟨u7, mp, k, rfl, ho_p, bmp, k0, k1, hb⟩
    obtain ⟨x_p, n_p, c_p, rfl, e_p, -, ho_p⟩ := ho_p.shapeN; have E_p := Lib.hid e_p; clear e_p
    replace C_n := Lib.hid (C_n.out.on hb)
    replace C_x := Lib.hid (C_x.out.on hb)
    replace C_y := Lib.hid (C_y.out.on hb)
    replace C_z := Lib.hid (C_z.out.on hb)
    replace C_a := Lib.hid (C_a.out.on hb)
    replace C_b := Lib.hid (C_b.out.on hb)
    replace H_n := Lib.hid (H_n.out.on hb)
    replace H_x := Lib.hid (H_x.out.on hb)
    replace H_y := Lib.hid (H_y.out.on hb)
    replace H_z := Lib.hid (H_z.out.on hb)
    replace H_a := Lib.hid (H_a.out.on hb)
    replace H_b := Lib.hid (H_b.out.on hb)
    replace BB := Lib.hid (BB.out.trans (hb.mono BB.out.size))
    clear hb
    have H_p := Lib.hid ho_p.holds; clear ho_p
    have hal := (Below.refl (w8).heap.size (w8)).alloc (Nat.le_refl _) (.cells #[.slice x_p n_p c_p] 26)
    replace C_n := Lib.hid (C_n.out.on hal)
    replace C_x := Lib.hid (C_x.out.on hal)
    replace C_y := Lib.hid (C_y.out.on hal)
    replace C_z := Lib.hid (C_z.out.on hal)
    replace C_a := Lib.hid (C_a.out.on hal)
    replace C_b := Lib.hid (C_b.out.on hal)
    replace H_n := Lib.hid (H_n.out.on hal)
    replace H_x := Lib.hid (H_x.out.on hal)
    replace H_y := Lib.hid (H_y.out.on hal)
    replace H_z := Lib.hid (H_z.out.on hal)
    replace H_a := Lib.hid (H_a.out.on hal)
    replace H_b := Lib.hid (H_b.out.on hal)
    replace H_p := Lib.hid (H_p.out.on hal)
    replace BB := Lib.hid (BB.out.trans (hal.mono BB.out.size))
    have C_p := Lib.hid (Ret.Box.new' (w := w8) (.slice x_p n_p c_p) 26 (n := w8.heap.size) (by first | rfl | simp)); clear hal
    have c_n := C_n.out.cell
    have c_x := C_x.out.cell
    have c_y := C_y.out.cell
    have c_z := C_z.out.cell
    have c_a := C_a.out.cell
    have c_b := C_b.out.cell
    have c_p := C_p.out.cell
    go_wp2_with fail
    clear c_n c_x c_y c_z c_a c_b c_p
    refine (Draw.drawValidPart _ _ l0 (Q0.out.on BB.out)).mono ?_
    rintro e w9 ⟨c, rfl, bc, hb⟩
    replace C_n := Lib.hid (C_n.out.on hb)
    replace C_x := Lib.hid (C_x.out.on hb)
    replace C_y := Lib.hid (C_y.out.on hb)
    replace C_z := Lib.hid (C_z.out.on hb)
    replace C_a := Lib.hid (C_a.out.on hb)
    replace C_b := Lib.hid (C_b.out.on hb)
    replace C_p := Lib.hid (C_p.out.on hb)
    replace H_n := Lib.hid (H_n.out.on hb)
    replace H_x := Lib.hid (H_x.out.on hb)
    replace H_y := Lib.hid (H_y.out.on hb)
    replace H_z := Lib.hid (H_z.out.on hb)
    replace H_a := Lib.hid (H_a.out.on hb)
    replace H_b := Lib.hid (H_b.out.on hb)
    replace H_p := Lib.hid (H_p.out.on hb)
    replace BB := Lib.hid (BB.out.trans (hb.mono BB.out.size))
    clear hb
    have c_n := C_n.out.cell
    have c_x := C_x.out.cell
    have c_y := C_y.out.cell
    have c_z := C_z.out.cell
    have c_a := C_a.out.cell
    have c_b := C_b.out.cell
    have c_p := C_p.out.cell
    go_wp2_with fail
    clear c_n c_x c_y c_z c_a c_b c_p
    have la := Row.bigLen bma; have lb := Row.bigLen bmb; have lp := Row.bigLen bmp; have l1 := Row.bigLen bm1; have py := Row.pN_len s; have tl := Row.trN_len mp k
    dsimp only [List.append]
    refine Row.reg11 C_n H_n C_y H_y C_z H_z C_a H_a C_b H_b C_p H_p la lb lp l1 py tl bm1 bc ?_
    intro u50 u51 u52 u53 u54 u55 u56 u57 u58 u59 u60 u61 u62 u63 u64 u65 u66 u67 u68 u69 u70 u71 u72 u73 u74 u75 u76 u77 u78 u79 u80 u81 u82 u83 u84 u85 u86 u87 u88 u89 u90 u91 u92 u93 u94 u95 u96 u97 u98 u99 u100 u101 u102 u103 u104 u105 u106 u107 u108 u109 u110 u111 u112 u113 u114 u115 wx hb
    replace C_n := Lib.hid (C_n.out.on hb)
    replace C_x := Lib.hid (C_x.out.on hb)
    replace C_y := Lib.hid (C_y.out.on hb)
    replace C_z := Lib.hid (C_z.out.on hb)
    replace C_a := Lib.hid (C_a.out.on hb)
    replace C_b := Lib.hid (C_b.out.on hb)
    replace C_p := Lib.hid (C_p.out.on hb)
    replace H_n := Lib.hid (H_n.out.on hb)
    replace H_x := Lib.hid (H_x.out.on hb)
    replace H_y := Lib.hid (H_y.out.on hb)
    replace H_z := Lib.hid (H_z.out.on hb)
    replace H_a := Lib.hid (H_a.out.on hb)
    replace H_b := Lib.hid (H_b.out.on hb)
    replace H_p := Lib.hid (H_p.out.on hb)
    replace BB := Lib.hid (BB.out.trans (hb.mono BB.out.size))
    clear hb
    have H15 := Lib.hid (Row.eqB_cmp ma mb)
    obtain ⟨ca, hca⟩ : ∃ ca, Row.cmpL ma mb = ca := ⟨_, rfl⟩
    obtain ⟨hc0, hc1⟩ := Row.cmpL_in ma mb
    rw [hca] at hc0 hc1 H15
    have HCA := Lib.hid hca; have HCB := Lib.hid (show Row.cmpL mb ma = -ca by rw [Row.cmpL_swap, hca]); clear hca
    have hw1 : IntKind.i64.wrap ca = ca := by rw [IntKind.wrap_i64]; omega
    have hw2 : IntKind.i64.wrap (-(-ca)) = ca := by rw [IntKind.wrap_i64]; omega
    have HHP := Lib.hid (Row.hp_trN mp k)
    cases hp : Row.pOk s
    · skip
      clear hp
      have c_n := C_n.out.cell
      have c_x := C_x.out.cell
      have c_y := C_y.out.cell
      have c_z := C_z.out.cell
      have c_a := C_a.out.cell
      have c_b := C_b.out.cell
      have c_p := C_p.out.cell
      go_wp2_with fail
      clear c_n c_x c_y c_z c_a c_b c_p
      refine Row.reg13 C_a H_a C_b H_b C_p H_p la lb lp tl H15 HCA HCB hw1 hw2 HHP ?_
      intro u117 u118 u119 u120 u121 u122 u123 u124 u125 u126 u127 u128 u129 u130 u131 u132 u133 u134 u135 u136 u137 u138 u139 u140 u141 u142 u143 u144 u145 u146 u147 u148 u149 u150 wx hb
      replace C_n := Lib.hid (C_n.out.on hb)
      replace C_x := Lib.hid (C_x.out.on hb)
      replace C_y := Lib.hid (C_y.out.on hb)
      replace C_z := Lib.hid (C_z.out.on hb)
      replace C_a := Lib.hid (C_a.out.on hb)
      replace C_b := Lib.hid (C_b.out.on hb)
      replace C_p := Lib.hid (C_p.out.on hb)
      replace H_n := Lib.hid (H_n.out.on hb)
      replace H_x := Lib.hid (H_x.out.on hb)
      replace H_y := Lib.hid (H_y.out.on hb)
      replace H_z := Lib.hid (H_z.out.on hb)
      replace H_a := Lib.hid (H_a.out.on hb)
      replace H_b := Lib.hid (H_b.out.on hb)
      replace H_p := Lib.hid (H_p.out.on hb)
      replace BB := Lib.hid (BB.out.trans (hb.mono BB.out.size))
      clear hb
      clear hw1 hw2
      cases hv : Row.validN m1
      · skip
        have HV := Lib.hid hv
        clear hv
        cases hh : Row.hpB ma mb
        · skip
          have HH := Lib.hid hh
          clear hh
          have c_n := C_n.out.cell
          have c_x := C_x.out.cell
          have c_y := C_y.out.cell
          have c_z := C_z.out.cell
          have c_a := C_a.out.cell
          have c_b := C_b.out.cell
          have c_p := C_p.out.cell
          go_wp2_with fail
          clear c_n c_x c_y c_z c_a c_b c_p
          refine (Row.validV false H_n.out (by omega) HV.out).mono ?_
          rintro e w10 ⟨rfl, hb⟩
          replace C_n := Lib.hid (C_n.out.on hb)
          replace C_x := Lib.hid (C_x.out.on hb)
          replace C_y := Lib.hid (C_y.out.on hb)
          replace C_z := Lib.hid (C_z.out.on hb)
          replace C_a := Lib.hid (C_a.out.on hb)
          replace C_b := Lib.hid (C_b.out.on hb)
          replace C_p := Lib.hid (C_p.out.on hb)
          replace H_n := Lib.hid (H_n.out.on hb)
          replace H_x := Lib.hid (H_x.out.on hb)
          replace H_y := Lib.hid (H_y.out.on hb)
          replace H_z := Lib.hid (H_z.out.on hb)
          replace H_a := Lib.hid (H_a.out.on hb)
          replace H_b := Lib.hid (H_b.out.on hb)
          replace H_p := Lib.hid (H_p.out.on hb)
          replace BB := Lib.hid (BB.out.trans (hb.mono BB.out.size))
          clear hb
          have c_n := C_n.out.cell
          have c_x := C_x.out.cell
          have c_y := C_y.out.cell
          have c_z := C_z.out.cell
          have c_a := C_a.out.cell
          have c_b := C_b.out.cell
          have c_p := C_p.out.cell
          go_wp2_with fail
          clear c_n c_x c_y c_z c_a c_b c_p
          refine (Row.hpV false H_a.out H_b.out (by omega) (by omega) HH.out).mono ?_
          rintro e w11 ⟨rfl, hb⟩
          replace C_n := Lib.hid (C_n.out.on hb)
          replace C_x := Lib.hid (C_x.out.on hb)
          replace C_y := Lib.hid (C_y.out.on hb)
          replace C_z := Lib.hid (C_z.out.on hb)
          replace C_a := Lib.hid (C_a.out.on hb)
          replace C_b := Lib.hid (C_b.out.on hb)
          replace C_p := Lib.hid (C_p.out.on hb)
          replace H_n := Lib.hid (H_n.out.on hb)
          replace H_x := Lib.hid (H_x.out.on hb)
          replace H_y := Lib.hid (H_y.out.on hb)
          replace H_z := Lib.hid (H_z.out.on hb)
          replace H_a := Lib.hid (H_a.out.on hb)
          replace H_b := Lib.hid (H_b.out.on hb)
          replace H_p := Lib.hid (H_p.out.on hb)
          replace BB := Lib.hid (BB.out.trans (hb.mono BB.out.size))
          clear hb
          have c_n := C_n.out.cell
          have c_x := C_x.out.cell
          have c_y := C_y.out.cell
          have c_z := C_z.out.cell
          have c_a := C_a.out.cell
          have c_b := C_b.out.cell
          have c_p := C_p.out.cell
          go_wp2_with fail
          clear c_n c_x c_y c_z c_a c_b c_p
          go_ret
          exact ⟨by first | rfl | exact Row.ret_bool (by simpa using hle), BB.out⟩
        · skip
          have HH := Lib.hid hh
          have hle := Row.hp_le hh; rw [HCB.out] at hle
          clear hh
          have c_n := C_n.out.cell
          have c_x := C_x.out.cell
          have c_y := C_y.out.cell
          have c_z := C_z.out.cell
          have c_a := C_a.out.cell
          have c_b := C_b.out.cell
          have c_p := C_p.out.cell
          go_wp2_with fail
          clear c_n c_x c_y c_z c_a c_b c_p
          refine (Row.validV false H_n.out (by omega) HV.out).mono ?_
          rintro e w12 ⟨rfl, hb⟩
          replace C_n := Lib.hid (C_n.out.on hb)
          replace C_x := Lib.hid (C_x.out.on hb)
          replace C_y := Lib.hid (C_y.out.on hb)
          replace C_z := Lib.hid (C_z.out.on hb)
          replace C_a := Lib.hid (C_a.out.on hb)
          replace C_b := Lib.hid (C_b.out.on hb)
          replace C_p := Lib.hid (C_p.out.on hb)
          replace H_n := Lib.hid (H_n.out.on hb)
          replace H_x := Lib.hid (H_x.out.on hb)
          replace H_y := Lib.hid (H_y.out.on hb)
          replace H_z := Lib.hid (H_z.out.on hb)
          replace H_a := Lib.hid (H_a.out.on hb)
          replace H_b := Lib.hid (H_b.out.on hb)
          replace H_p := Lib.hid (H_p.out.on hb)
          replace BB := Lib.hid (BB.out.trans (hb.mono BB.out.size))
          clear hb
          have c_n := C_n.out.cell
          have c_x := C_x.out.cell
          have c_y := C_y.out.cell
          have c_z := C_z.out.cell
          have c_a := C_a.out.cell
          have c_b := C_b.out.cell
          have c_p := C_p.out.cell
          go_wp2_with fail
          clear c_n c_x c_y c_z c_a c_b c_p
          refine (Row.hpV true H_a.out H_b.out (by omega) (by omega) HH.out).mono ?_
          rintro e w13 ⟨rfl, hb⟩
          replace C_n := Lib.hid (C_n.out.on hb)
          replace C_x := Lib.hid (C_x.out.on hb)
          replace C_y := Lib.hid (C_y.out.on hb)
          replace C_z := Lib.hid (C_z.out.on hb)
          replace C_a := Lib.hid (C_a.out.on hb)
          replace C_b := Lib.hid (C_b.out.on hb)
          replace C_p := Lib.hid (C_p.out.on hb)
          replace H_n := Lib.hid (H_n.out.on hb)
          replace H_x := Lib.hid (H_x.out.on hb)
          replace H_y := Lib.hid (H_y.out.on hb)
          replace H_z := Lib.hid (H_z.out.on hb)
          replace H_a := Lib.hid (H_a.out.on hb)
          replace H_b := Lib.hid (H_b.out.on hb)
          replace H_p := Lib.hid (H_p.out.on hb)
          replace BB := Lib.hid (BB.out.trans (hb.mono BB.out.size))
          clear hb
          have c_n := C_n.out.cell
          have c_x := C_x.out.cell
          have c_y := C_y.out.cell
          have c_z := C_z.out.cell
          have c_a := C_a.out.cell
          have c_b := C_b.out.cell
          have c_p := C_p.out.cell
          go_wp2_with fail
          clear c_n c_x c_y c_z c_a c_b c_p
          refine (Row.cmpV (-ca) H_b.out H_a.out (by omega) (by omega) HCB.out).mono ?_
          rintro e w14 ⟨rfl, hb⟩
          replace C_n := Lib.hid (C_n.out.on hb)
          replace C_x := Lib.hid (C_x.out.on hb)
          replace C_y := Lib.hid (C_y.out.on hb)
          replace C_z := Lib.hid (C_z.out.on hb)
          replace C_a := Lib.hid (C_a.out.on hb)
          replace C_b := Lib.hid (C_b.out.on hb)
          replace C_p := Lib.hid (C_p.out.on hb)
          replace H_n := Lib.hid (H_n.out.on hb)
          replace H_x := Lib.hid (H_x.out.on hb)
          replace H_y := Lib.hid (H_y.out.on hb)
          replace H_z := Lib.hid (H_z.out.on hb)
          replace H_a := Lib.hid (H_a.out.on hb)
          replace H_b := Lib.hid (H_b.out.on hb)
          replace H_p := Lib.hid (H_p.out.on hb)
          replace BB := Lib.hid (BB.out.trans (hb.mono BB.out.size))
          clear hb
          have c_n := C_n.out.cell
          have c_x := C_x.out.cell
          have c_y := C_y.out.cell
          have c_z := C_z.out.cell
          have c_a := C_a.out.cell
          have c_b := C_b.out.cell
          have c_p := C_p.out.cell
          go_wp2_with fail
          clear c_n c_x c_y c_z c_a c_b c_p
          go_ret
          exact ⟨by first | rfl | exact Row.ret_bool (by simpa using hle), BB.out⟩
      · skip
        have HV := Lib.hid hv
        rw [Row.pN_fmt hv] at H_x; rw [Row.pOk_fmt hv]
        clear hv
        cases hh : Row.hpB ma mb
        · skip
          have HH := Lib.hid hh
          clear hh
          have c_n := C_n.out.cell
          have c_x := C_x.out.cell
          have c_y := C_y.out.cell
          have c_z := C_z.out.cell
          have c_a := C_a.out.cell
          have c_b := C_b.out.cell
          have c_p := C_p.out.cell
          go_wp2_with fail
          clear c_n c_x c_y c_z c_a c_b c_p
          refine (Row.validV true H_n.out (by omega) HV.out).mono ?_
          rintro e w15 ⟨rfl, hb⟩
          replace C_n := Lib.hid (C_n.out.on hb)
          replace C_x := Lib.hid (C_x.out.on hb)
          replace C_y := Lib.hid (C_y.out.on hb)
          replace C_z := Lib.hid (C_z.out.on hb)
          replace C_a := Lib.hid (C_a.out.on hb)
          replace C_b := Lib.hid (C_b.out.on hb)
          replace C_p := Lib.hid (C_p.out.on hb)
          replace H_n := Lib.hid (H_n.out.on hb)
          replace H_x := Lib.hid (H_x.out.on hb)
          replace H_y := Lib.hid (H_y.out.on hb)
          replace H_z := Lib.hid (H_z.out.on hb)
          replace H_a := Lib.hid (H_a.out.on hb)
          replace H_b := Lib.hid (H_b.out.on hb)
          replace H_p := Lib.hid (H_p.out.on hb)
          replace BB := Lib.hid (BB.out.trans (hb.mono BB.out.size))
          clear hb
          have c_n := C_n.out.cell
          have c_x := C_x.out.cell
          have c_y := C_y.out.cell
          have c_z := C_z.out.cell
          have c_a := C_a.out.cell
          have c_b := C_b.out.cell
          have c_p := C_p.out.cell
          go_wp2_with fail
          clear c_n c_x c_y c_z c_a c_b c_p
          refine (Row.sameNameT _ _ m1 _ H_x.out H_n.out (by omega)).mono ?_
          rintro e w16 ⟨rfl, hb⟩
          replace C_n := Lib.hid (C_n.out.on hb)
          replace C_x := Lib.hid (C_x.out.on hb)
          replace C_y := Lib.hid (C_y.out.on hb)
          replace C_z := Lib.hid (C_z.out.on hb)
          replace C_a := Lib.hid (C_a.out.on hb)
          replace C_b := Lib.hid (C_b.out.on hb)
          replace C_p := Lib.hid (C_p.out.on hb)
          replace H_n := Lib.hid (H_n.out.on hb)
          replace H_x := Lib.hid (H_x.out.on hb)
          replace H_y := Lib.hid (H_y.out.on hb)
          replace H_z := Lib.hid (H_z.out.on hb)
          replace H_a := Lib.hid (H_a.out.on hb)
          replace H_b := Lib.hid (H_b.out.on hb)
          replace H_p := Lib.hid (H_p.out.on hb)
          replace BB := Lib.hid (BB.out.trans (hb.mono BB.out.size))
          clear hb
          have c_n := C_n.out.cell
          have c_x := C_x.out.cell
          have c_y := C_y.out.cell
          have c_z := C_z.out.cell
          have c_a := C_a.out.cell
          have c_b := C_b.out.cell
          have c_p := C_p.out.cell
          go_wp2_with fail
          clear c_n c_x c_y c_z c_a c_b c_p
          refine (Row.hpV false H_a.out H_b.out (by omega) (by omega) HH.out).mono ?_
          rintro e w17 ⟨rfl, hb⟩
          replace C_n := Lib.hid (C_n.out.on hb)
          replace C_x := Lib.hid (C_x.out.on hb)
          replace C_y := Lib.hid (C_y.out.on hb)
          replace C_z := Lib.hid (C_z.out.on hb)
          replace C_a := Lib.hid (C_a.out.on hb)
          replace C_b := Lib.hid (C_b.out.on hb)
          replace C_p := Lib.hid (C_p.out.on hb)
          replace H_n := Lib.hid (H_n.out.on hb)
          replace H_x := Lib.hid (H_x.out.on hb)
          replace H_y := Lib.hid (H_y.out.on hb)
          replace H_z := Lib.hid (H_z.out.on hb)
          replace H_a := Lib.hid (H_a.out.on hb)
          replace H_b := Lib.hid (H_b.out.on hb)
          replace H_p := Lib.hid (H_p.out.on hb)
          replace BB := Lib.hid (BB.out.trans (hb.mono BB.out.size))
          clear hb
          have c_n := C_n.out.cell
          have c_x := C_x.out.cell
          have c_y := C_y.out.cell
          have c_z := C_z.out.cell
          have c_a := C_a.out.cell
          have c_b := C_b.out.cell
          have c_p := C_p.out.cell
          go_wp2_with fail
          clear c_n c_x c_y c_z c_a c_b c_p
          go_ret
          exact ⟨by first | rfl | exact Row.ret_bool (by simpa using hle), BB.out⟩
        · skip
          have HH := Lib.hid hh
          have hle := Row.hp_le hh; rw [HCB.out] at hle
          clear hh
          have c_n := C_n.out.cell
          have c_x := C_x.out.cell
          have c_y := C_y.out.cell
          have c_z := C_z.out.cell
          have c_a := C_a.out.cell
          have c_b := C_b.out.cell
          have c_p := C_p.out.cell
          go_wp2_with fail
          clear c_n c_x c_y c_z c_a c_b c_p
          refine (Row.validV true H_n.out (by omega) HV.out).mono ?_
          rintro e w18 ⟨rfl, hb⟩
          replace C_n := Lib.hid (C_n.out.on hb)
          replace C_x := Lib.hid (C_x.out.on hb)
          replace C_y := Lib.hid (C_y.out.on hb)
          replace C_z := Lib.hid (C_z.out.on hb)
          replace C_a := Lib.hid (C_a.out.on hb)
          replace C_b := Lib.hid (C_b.out.on hb)
          replace C_p := Lib.hid (C_p.out.on hb)
          replace H_n := Lib.hid (H_n.out.on hb)
          replace H_x := Lib.hid (H_x.out.on hb)
          replace H_y := Lib.hid (H_y.out.on hb)
          replace H_z := Lib.hid (H_z.out.on hb)
          replace H_a := Lib.hid (H_a.out.on hb)
          replace H_b := Lib.hid (H_b.out.on hb)
          replace H_p := Lib.hid (H_p.out.on hb)
          replace BB := Lib.hid (BB.out.trans (hb.mono BB.out.size))
          clear hb
          have c_n := C_n.out.cell
          have c_x := C_x.out.cell
          have c_y := C_y.out.cell
          have c_z := C_z.out.cell
          have c_a := C_a.out.cell
          have c_b := C_b.out.cell
          have c_p := C_p.out.cell
          go_wp2_with fail
          clear c_n c_x c_y c_z c_a c_b c_p
          refine (Row.sameNameT _ _ m1 _ H_x.out H_n.out (by omega)).mono ?_
          rintro e w19 ⟨rfl, hb⟩
          replace C_n := Lib.hid (C_n.out.on hb)
          replace C_x := Lib.hid (C_x.out.on hb)
          replace C_y := Lib.hid (C_y.out.on hb)
          replace C_z := Lib.hid (C_z.out.on hb)
          replace C_a := Lib.hid (C_a.out.on hb)
          replace C_b := Lib.hid (C_b.out.on hb)
          replace C_p := Lib.hid (C_p.out.on hb)
          replace H_n := Lib.hid (H_n.out.on hb)
          replace H_x := Lib.hid (H_x.out.on hb)
          replace H_y := Lib.hid (H_y.out.on hb)
          replace H_z := Lib.hid (H_z.out.on hb)
          replace H_a := Lib.hid (H_a.out.on hb)
          replace H_b := Lib.hid (H_b.out.on hb)
          replace H_p := Lib.hid (H_p.out.on hb)
          replace BB := Lib.hid (BB.out.trans (hb.mono BB.out.size))
          clear hb
          have c_n := C_n.out.cell
          have c_x := C_x.out.cell
          have c_y := C_y.out.cell
          have c_z := C_z.out.cell
          have c_a := C_a.out.cell
          have c_b := C_b.out.cell
          have c_p := C_p.out.cell
          go_wp2_with fail
          clear c_n c_x c_y c_z c_a c_b c_p
          refine (Row.hpV true H_a.out H_b.out (by omega) (by omega) HH.out).mono ?_
          rintro e w20 ⟨rfl, hb⟩
          replace C_n := Lib.hid (C_n.out.on hb)
          replace C_x := Lib.hid (C_x.out.on hb)
          replace C_y := Lib.hid (C_y.out.on hb)
          replace C_z := Lib.hid (C_z.out.on hb)
          replace C_a := Lib.hid (C_a.out.on hb)
          replace C_b := Lib.hid (C_b.out.on hb)
          replace C_p := Lib.hid (C_p.out.on hb)
          replace H_n := Lib.hid (H_n.out.on hb)
          replace H_x := Lib.hid (H_x.out.on hb)
          replace H_y := Lib.hid (H_y.out.on hb)
          replace H_z := Lib.hid (H_z.out.on hb)
          replace H_a := Lib.hid (H_a.out.on hb)
          replace H_b := Lib.hid (H_b.out.on hb)
          replace H_p := Lib.hid (H_p.out.on hb)
          replace BB := Lib.hid (BB.out.trans (hb.mono BB.out.size))
          clear hb
          have c_n := C_n.out.cell
          have c_x := C_x.out.cell
          have c_y := C_y.out.cell
          have c_z := C_z.out.cell
          have c_a := C_a.out.cell
          have c_b := C_b.out.cell
          have c_p := C_p.out.cell
          go_wp2_with fail
          clear c_n c_x c_y c_z c_a c_b c_p
          refine (Row.cmpV (-ca) H_b.out H_a.out (by omega) (by omega) HCB.out).mono ?_
          rintro e w21 ⟨rfl, hb⟩
          replace C_n := Lib.hid (C_n.out.on hb)
          replace C_x := Lib.hid (C_x.out.on hb)
          replace C_y := Lib.hid (C_y.out.on hb)
          replace C_z := Lib.hid (C_z.out.on hb)
          replace C_a := Lib.hid (C_a.out.on hb)
          replace C_b := Lib.hid (C_b.out.on hb)
          replace C_p := Lib.hid (C_p.out.on hb)
          replace H_n := Lib.hid (H_n.out.on hb)
          replace H_x := Lib.hid (H_x.out.on hb)
          replace H_y := Lib.hid (H_y.out.on hb)
          replace H_z := Lib.hid (H_z.out.on hb)
          replace H_a := Lib.hid (H_a.out.on hb)
          replace H_b := Lib.hid (H_b.out.on hb)
          replace H_p := Lib.hid (H_p.out.on hb)
          replace BB := Lib.hid (BB.out.trans (hb.mono BB.out.size))
          clear hb
          have c_n := C_n.out.cell
          have c_x := C_x.out.cell
          have c_y := C_y.out.cell
          have c_z := C_z.out.cell
          have c_a := C_a.out.cell
          have c_b := C_b.out.cell
          have c_p := C_p.out.cell
          go_wp2_with fail
          clear c_n c_x c_y c_z c_a c_b c_p
          go_ret
          exact ⟨by first | rfl | exact Row.ret_bool (by simpa using hle), BB.out⟩
    · skip
      have HFM := Lib.hid (show Row.fmtS (Row.pN s) = s from Row.fmt_pN hp); have byy : Row.bulk (Row.pN s) ≤ 60 := Row.bulk_valid (Row.valid_pN s)
      clear hp
      have c_n := C_n.out.cell
      have c_x := C_x.out.cell
      have c_y := C_y.out.cell
      have c_z := C_z.out.cell
      have c_a := C_a.out.cell
      have c_b := C_b.out.cell
      have c_p := C_p.out.cell
      go_wp2_with fail
      clear c_n c_x c_y c_z c_a c_b c_p
      refine Row.reg13t C_a H_a C_b H_b C_p H_p C_y H_y la lb lp tl byy H15 HCA HCB hw1 hw2 HHP HFM ?_
      intro u117 u118 u119 u120 u121 u122 u123 u124 u125 u126 u127 u128 u129 u130 u131 u132 u133 u134 u135 u136 u137 u138 u139 u140 u141 u142 u143 u144 u145 u146 u147 u148 u149 u150 wx hb
      replace C_n := Lib.hid (C_n.out.on hb)
      replace C_x := Lib.hid (C_x.out.on hb)
      replace C_y := Lib.hid (C_y.out.on hb)
      replace C_z := Lib.hid (C_z.out.on hb)
      replace C_a := Lib.hid (C_a.out.on hb)
      replace C_b := Lib.hid (C_b.out.on hb)
      replace C_p := Lib.hid (C_p.out.on hb)
      replace H_n := Lib.hid (H_n.out.on hb)
      replace H_x := Lib.hid (H_x.out.on hb)
      replace H_y := Lib.hid (H_y.out.on hb)
      replace H_z := Lib.hid (H_z.out.on hb)
      replace H_a := Lib.hid (H_a.out.on hb)
      replace H_b := Lib.hid (H_b.out.on hb)
      replace H_p := Lib.hid (H_p.out.on hb)
      replace BB := Lib.hid (BB.out.trans (hb.mono BB.out.size))
      clear hb
      clear hw1 hw2
      cases hv : Row.validN m1
      · skip
        have HV := Lib.hid hv
        clear hv
        cases hh : Row.hpB ma mb
        · skip
          have HH := Lib.hid hh
          clear hh
          have c_n := C_n.out.cell
          have c_x := C_x.out.cell
          have c_y := C_y.out.cell
          have c_z := C_z.out.cell
          have c_a := C_a.out.cell
          have c_b := C_b.out.cell
          have c_p := C_p.out.cell
          go_wp2_with fail
          clear c_n c_x c_y c_z c_a c_b c_p
          refine (Row.validV false H_n.out (by omega) HV.out).mono ?_
          rintro e w22 ⟨rfl, hb⟩
          replace C_n := Lib.hid (C_n.out.on hb)
          replace C_x := Lib.hid (C_x.out.on hb)
          replace C_y := Lib.hid (C_y.out.on hb)
          replace C_z := Lib.hid (C_z.out.on hb)
          replace C_a := Lib.hid (C_a.out.on hb)
          replace C_b := Lib.hid (C_b.out.on hb)
          replace C_p := Lib.hid (C_p.out.on hb)
          replace H_n := Lib.hid (H_n.out.on hb)
          replace H_x := Lib.hid (H_x.out.on hb)
          replace H_y := Lib.hid (H_y.out.on hb)
          replace H_z := Lib.hid (H_z.out.on hb)
          replace H_a := Lib.hid (H_a.out.on hb)
          replace H_b := Lib.hid (H_b.out.on hb)
          replace H_p := Lib.hid (H_p.out.on hb)
          replace BB := Lib.hid (BB.out.trans (hb.mono BB.out.size))
          clear hb
          have c_n := C_n.out.cell
          have c_x := C_x.out.cell
          have c_y := C_y.out.cell
          have c_z := C_z.out.cell
          have c_a := C_a.out.cell
          have c_b := C_b.out.cell
          have c_p := C_p.out.cell
          go_wp2_with fail
          clear c_n c_x c_y c_z c_a c_b c_p
          refine (Row.hpV false H_a.out H_b.out (by omega) (by omega) HH.out).mono ?_
          rintro e w23 ⟨rfl, hb⟩
          replace C_n := Lib.hid (C_n.out.on hb)
          replace C_x := Lib.hid (C_x.out.on hb)
          replace C_y := Lib.hid (C_y.out.on hb)
          replace C_z := Lib.hid (C_z.out.on hb)
          replace C_a := Lib.hid (C_a.out.on hb)
          replace C_b := Lib.hid (C_b.out.on hb)
          replace C_p := Lib.hid (C_p.out.on hb)
          replace H_n := Lib.hid (H_n.out.on hb)
          replace H_x := Lib.hid (H_x.out.on hb)
          replace H_y := Lib.hid (H_y.out.on hb)
          replace H_z := Lib.hid (H_z.out.on hb)
          replace H_a := Lib.hid (H_a.out.on hb)
          replace H_b := Lib.hid (H_b.out.on hb)
          replace H_p := Lib.hid (H_p.out.on hb)
          replace BB := Lib.hid (BB.out.trans (hb.mono BB.out.size))
          clear hb
          have c_n := C_n.out.cell
          have c_x := C_x.out.cell
          have c_y := C_y.out.cell
          have c_z := C_z.out.cell
          have c_a := C_a.out.cell
          have c_b := C_b.out.cell
          have c_p := C_p.out.cell
          go_wp2_with fail
          clear c_n c_x c_y c_z c_a c_b c_p
          go_ret
          exact ⟨by first | rfl | exact Row.ret_bool (by simpa using hle), BB.out⟩
        · skip
          have HH := Lib.hid hh
          have hle := Row.hp_le hh; rw [HCB.out] at hle
          clear hh
          have c_n := C_n.out.cell
          have c_x := C_x.out.cell
          have c_y := C_y.out.cell
          have c_z := C_z.out.cell
          have c_a := C_a.out.cell
          have c_b := C_b.out.cell
          have c_p := C_p.out.cell
          go_wp2_with fail
          clear c_n c_x c_y c_z c_a c_b c_p
          refine (Row.validV false H_n.out (by omega) HV.out).mono ?_
          rintro e w24 ⟨rfl, hb⟩
          replace C_n := Lib.hid (C_n.out.on hb)
          replace C_x := Lib.hid (C_x.out.on hb)
          replace C_y := Lib.hid (C_y.out.on hb)
          replace C_z := Lib.hid (C_z.out.on hb)
          replace C_a := Lib.hid (C_a.out.on hb)
          replace C_b := Lib.hid (C_b.out.on hb)
          replace C_p := Lib.hid (C_p.out.on hb)
          replace H_n := Lib.hid (H_n.out.on hb)
          replace H_x := Lib.hid (H_x.out.on hb)
          replace H_y := Lib.hid (H_y.out.on hb)
          replace H_z := Lib.hid (H_z.out.on hb)
          replace H_a := Lib.hid (H_a.out.on hb)
          replace H_b := Lib.hid (H_b.out.on hb)
          replace H_p := Lib.hid (H_p.out.on hb)
          replace BB := Lib.hid (BB.out.trans (hb.mono BB.out.size))
          clear hb
          have c_n := C_n.out.cell
          have c_x := C_x.out.cell
          have c_y := C_y.out.cell
          have c_z := C_z.out.cell
          have c_a := C_a.out.cell
          have c_b := C_b.out.cell
          have c_p := C_p.out.cell
          go_wp2_with fail
          clear c_n c_x c_y c_z c_a c_b c_p
          refine (Row.hpV true H_a.out H_b.out (by omega) (by omega) HH.out).mono ?_
          rintro e w25 ⟨rfl, hb⟩
          replace C_n := Lib.hid (C_n.out.on hb)
          replace C_x := Lib.hid (C_x.out.on hb)
          replace C_y := Lib.hid (C_y.out.on hb)
          replace C_z := Lib.hid (C_z.out.on hb)
          replace C_a := Lib.hid (C_a.out.on hb)
          replace C_b := Lib.hid (C_b.out.on hb)
          replace C_p := Lib.hid (C_p.out.on hb)
          replace H_n := Lib.hid (H_n.out.on hb)
          replace H_x := Lib.hid (H_x.out.on hb)
          replace H_y := Lib.hid (H_y.out.on hb)
          replace H_z := Lib.hid (H_z.out.on hb)
          replace H_a := Lib.hid (H_a.out.on hb)
          replace H_b := Lib.hid (H_b.out.on hb)
          replace H_p := Lib.hid (H_p.out.on hb)
          replace BB := Lib.hid (BB.out.trans (hb.mono BB.out.size))
          clear hb
          have c_n := C_n.out.cell
          have c_x := C_x.out.cell
          have c_y := C_y.out.cell
          have c_z := C_z.out.cell
          have c_a := C_a.out.cell
          have c_b := C_b.out.cell
          have c_p := C_p.out.cell
          go_wp2_with fail
          clear c_n c_x c_y c_z c_a c_b c_p
          refine (Row.cmpV (-ca) H_b.out H_a.out (by omega) (by omega) HCB.out).mono ?_
          rintro e w26 ⟨rfl, hb⟩
          replace C_n := Lib.hid (C_n.out.on hb)
          replace C_x := Lib.hid (C_x.out.on hb)
          replace C_y := Lib.hid (C_y.out.on hb)
          replace C_z := Lib.hid (C_z.out.on hb)
          replace C_a := Lib.hid (C_a.out.on hb)
          replace C_b := Lib.hid (C_b.out.on hb)
          replace C_p := Lib.hid (C_p.out.on hb)
          replace H_n := Lib.hid (H_n.out.on hb)
          replace H_x := Lib.hid (H_x.out.on hb)
          replace H_y := Lib.hid (H_y.out.on hb)
          replace H_z := Lib.hid (H_z.out.on hb)
          replace H_a := Lib.hid (H_a.out.on hb)
          replace H_b := Lib.hid (H_b.out.on hb)
          replace H_p := Lib.hid (H_p.out.on hb)
          replace BB := Lib.hid (BB.out.trans (hb.mono BB.out.size))
          clear hb
          have c_n := C_n.out.cell
          have c_x := C_x.out.cell
          have c_y := C_y.out.cell
          have c_z := C_z.out.cell
          have c_a := C_a.out.cell
          have c_b := C_b.out.cell
          have c_p := C_p.out.cell
          go_wp2_with fail
          clear c_n c_x c_y c_z c_a c_b c_p
          go_ret
          exact ⟨by first | rfl | exact Row.ret_bool (by simpa using hle), BB.out⟩
      · skip
        have HV := Lib.hid hv
        rw [Row.pN_fmt hv] at H_x; rw [Row.pOk_fmt hv]
        clear hv
        cases hh : Row.hpB ma mb
        · skip
          have HH := Lib.hid hh
          clear hh
          have c_n := C_n.out.cell
          have c_x := C_x.out.cell
          have c_y := C_y.out.cell
          have c_z := C_z.out.cell
          have c_a := C_a.out.cell
          have c_b := C_b.out.cell
          have c_p := C_p.out.cell
          go_wp2_with fail
          clear c_n c_x c_y c_z c_a c_b c_p
          refine (Row.validV true H_n.out (by omega) HV.out).mono ?_
          rintro e w27 ⟨rfl, hb⟩
          replace C_n := Lib.hid (C_n.out.on hb)
          replace C_x := Lib.hid (C_x.out.on hb)
          replace C_y := Lib.hid (C_y.out.on hb)
          replace C_z := Lib.hid (C_z.out.on hb)
          replace C_a := Lib.hid (C_a.out.on hb)
          replace C_b := Lib.hid (C_b.out.on hb)
          replace C_p := Lib.hid (C_p.out.on hb)
          replace H_n := Lib.hid (H_n.out.on hb)
          replace H_x := Lib.hid (H_x.out.on hb)
          replace H_y := Lib.hid (H_y.out.on hb)
          replace H_z := Lib.hid (H_z.out.on hb)
          replace H_a := Lib.hid (H_a.out.on hb)
          replace H_b := Lib.hid (H_b.out.on hb)
          replace H_p := Lib.hid (H_p.out.on hb)
          replace BB := Lib.hid (BB.out.trans (hb.mono BB.out.size))
          clear hb
          have c_n := C_n.out.cell
          have c_x := C_x.out.cell
          have c_y := C_y.out.cell
          have c_z := C_z.out.cell
          have c_a := C_a.out.cell
          have c_b := C_b.out.cell
          have c_p := C_p.out.cell
          go_wp2_with fail
          clear c_n c_x c_y c_z c_a c_b c_p
          refine (Row.sameNameT _ _ m1 _ H_x.out H_n.out (by omega)).mono ?_
          rintro e w28 ⟨rfl, hb⟩
          replace C_n := Lib.hid (C_n.out.on hb)
          replace C_x := Lib.hid (C_x.out.on hb)
          replace C_y := Lib.hid (C_y.out.on hb)
          replace C_z := Lib.hid (C_z.out.on hb)
          replace C_a := Lib.hid (C_a.out.on hb)
          replace C_b := Lib.hid (C_b.out.on hb)
          replace C_p := Lib.hid (C_p.out.on hb)
          replace H_n := Lib.hid (H_n.out.on hb)
          replace H_x := Lib.hid (H_x.out.on hb)
          replace H_y := Lib.hid (H_y.out.on hb)
          replace H_z := Lib.hid (H_z.out.on hb)
          replace H_a := Lib.hid (H_a.out.on hb)
          replace H_b := Lib.hid (H_b.out.on hb)
          replace H_p := Lib.hid (H_p.out.on hb)
          replace BB := Lib.hid (BB.out.trans (hb.mono BB.out.size))
          clear hb
          have c_n := C_n.out.cell
          have c_x := C_x.out.cell
          have c_y := C_y.out.cell
          have c_z := C_z.out.cell
          have c_a := C_a.out.cell
          have c_b := C_b.out.cell
          have c_p := C_p.out.cell
          go_wp2_with fail
          clear c_n c_x c_y c_z c_a c_b c_p
          refine (Row.hpV false H_a.out H_b.out (by omega) (by omega) HH.out).mono ?_
          rintro e w29 ⟨rfl, hb⟩
          replace C_n := Lib.hid (C_n.out.on hb)
          replace C_x := Lib.hid (C_x.out.on hb)
          replace C_y := Lib.hid (C_y.out.on hb)
          replace C_z := Lib.hid (C_z.out.on hb)
          replace C_a := Lib.hid (C_a.out.on hb)
          replace C_b := Lib.hid (C_b.out.on hb)
          replace C_p := Lib.hid (C_p.out.on hb)
          replace H_n := Lib.hid (H_n.out.on hb)
          replace H_x := Lib.hid (H_x.out.on hb)
          replace H_y := Lib.hid (H_y.out.on hb)
          replace H_z := Lib.hid (H_z.out.on hb)
          replace H_a := Lib.hid (H_a.out.on hb)
          replace H_b := Lib.hid (H_b.out.on hb)
          replace H_p := Lib.hid (H_p.out.on hb)
          replace BB := Lib.hid (BB.out.trans (hb.mono BB.out.size))
          clear hb
          have c_n := C_n.out.cell
          have c_x := C_x.out.cell
          have c_y := C_y.out.cell
          have c_z := C_z.out.cell
          have c_a := C_a.out.cell
          have c_b := C_b.out.cell
          have c_p := C_p.out.cell
          go_wp2_with fail
          clear c_n c_x c_y c_z c_a c_b c_p
          go_ret
          exact ⟨by first | rfl | exact Row.ret_bool (by simpa using hle), BB.out⟩
        · skip
          have HH := Lib.hid hh
          have hle := Row.hp_le hh; rw [HCB.out] at hle
          clear hh
          have c_n := C_n.out.cell
          have c_x := C_x.out.cell
          have c_y := C_y.out.cell
          have c_z := C_z.out.cell
          have c_a := C_a.out.cell
          have c_b := C_b.out.cell
          have c_p := C_p.out.cell
          go_wp2_with fail
          clear c_n c_x c_y c_z c_a c_b c_p
          refine (Row.validV true H_n.out (by omega) HV.out).mono ?_
          rintro e w30 ⟨rfl, hb⟩
          replace C_n := Lib.hid (C_n.out.on hb)
          replace C_x := Lib.hid (C_x.out.on hb)
          replace C_y := Lib.hid (C_y.out.on hb)
          replace C_z := Lib.hid (C_z.out.on hb)
          replace C_a := Lib.hid (C_a.out.on hb)
          replace C_b := Lib.hid (C_b.out.on hb)
          replace C_p := Lib.hid (C_p.out.on hb)
          replace H_n := Lib.hid (H_n.out.on hb)
          replace H_x := Lib.hid (H_x.out.on hb)
          replace H_y := Lib.hid (H_y.out.on hb)
          replace H_z := Lib.hid (H_z.out.on hb)
          replace H_a := Lib.hid (H_a.out.on hb)
          replace H_b := Lib.hid (H_b.out.on hb)
          replace H_p := Lib.hid (H_p.out.on hb)
          replace BB := Lib.hid (BB.out.trans (hb.mono BB.out.size))
          clear hb
          have c_n := C_n.out.cell
          have c_x := C_x.out.cell
          have c_y := C_y.out.cell
          have c_z := C_z.out.cell
          have c_a := C_a.out.cell
          have c_b := C_b.out.cell
          have c_p := C_p.out.cell
          go_wp2_with fail
          clear c_n c_x c_y c_z c_a c_b c_p
          refine (Row.sameNameT _ _ m1 _ H_x.out H_n.out (by omega)).mono ?_
          rintro e w31 ⟨rfl, hb⟩
          replace C_n := Lib.hid (C_n.out.on hb)
          replace C_x := Lib.hid (C_x.out.on hb)
          replace C_y := Lib.hid (C_y.out.on hb)
          replace C_z := Lib.hid (C_z.out.on hb)
          replace C_a := Lib.hid (C_a.out.on hb)
          replace C_b := Lib.hid (C_b.out.on hb)
          replace C_p := Lib.hid (C_p.out.on hb)
          replace H_n := Lib.hid (H_n.out.on hb)
          replace H_x := Lib.hid (H_x.out.on hb)
          replace H_y := Lib.hid (H_y.out.on hb)
          replace H_z := Lib.hid (H_z.out.on hb)
          replace H_a := Lib.hid (H_a.out.on hb)
          replace H_b := Lib.hid (H_b.out.on hb)
          replace H_p := Lib.hid (H_p.out.on hb)
          replace BB := Lib.hid (BB.out.trans (hb.mono BB.out.size))
          clear hb
          have c_n := C_n.out.cell
          have c_x := C_x.out.cell
          have c_y := C_y.out.cell
          have c_z := C_z.out.cell
          have c_a := C_a.out.cell
          have c_b := C_b.out.cell
          have c_p := C_p.out.cell
          go_wp2_with fail
          clear c_n c_x c_y c_z c_a c_b c_p
          refine (Row.hpV true H_a.out H_b.out (by omega) (by omega) HH.out).mono ?_
          rintro e w32 ⟨rfl, hb⟩
          replace C_n := Lib.hid (C_n.out.on hb)
          replace C_x := Lib.hid (C_x.out.on hb)
          replace C_y := Lib.hid (C_y.out.on hb)
          replace C_z := Lib.hid (C_z.out.on hb)
          replace C_a := Lib.hid (C_a.out.on hb)
          replace C_b := Lib.hid (C_b.out.on hb)
          replace C_p := Lib.hid (C_p.out.on hb)
          replace H_n := Lib.hid (H_n.out.on hb)
          replace H_x := Lib.hid (H_x.out.on hb)
          replace H_y := Lib.hid (H_y.out.on hb)
          replace H_z := Lib.hid (H_z.out.on hb)
          replace H_a := Lib.hid (H_a.out.on hb)
          replace H_b := Lib.hid (H_b.out.on hb)
          replace H_p := Lib.hid (H_p.out.on hb)
          replace BB := Lib.hid (BB.out.trans (hb.mono BB.out.size))
          clear hb
          have c_n := C_n.out.cell
          have c_x := C_x.out.cell
          have c_y := C_y.out.cell
          have c_z := C_z.out.cell
          have c_a := C_a.out.cell
          have c_b := C_b.out.cell
          have c_p := C_p.out.cell
          go_wp2_with fail
          clear c_n c_x c_y c_z c_a c_b c_p
          refine (Row.cmpV (-ca) H_b.out H_a.out (by omega) (by omega) HCB.out).mono ?_
          rintro e w33 ⟨rfl, hb⟩
          replace C_n := Lib.hid (C_n.out.on hb)
          replace C_x := Lib.hid (C_x.out.on hb)
          replace C_y := Lib.hid (C_y.out.on hb)
          replace C_z := Lib.hid (C_z.out.on hb)
          replace C_a := Lib.hid (C_a.out.on hb)
          replace C_b := Lib.hid (C_b.out.on hb)
          replace C_p := Lib.hid (C_p.out.on hb)
          replace H_n := Lib.hid (H_n.out.on hb)
          replace H_x := Lib.hid (H_x.out.on hb)
          replace H_y := Lib.hid (H_y.out.on hb)
          replace H_z := Lib.hid (H_z.out.on hb)
          replace H_a := Lib.hid (H_a.out.on hb)
          replace H_b := Lib.hid (H_b.out.on hb)
          replace H_p := Lib.hid (H_p.out.on hb)
          replace BB := Lib.hid (BB.out.trans (hb.mono BB.out.size))
          clear hb
          have c_n := C_n.out.cell
          have c_x := C_x.out.cell
          have c_y := C_y.out.cell
          have c_z := C_z.out.cell
          have c_a := C_a.out.cell
          have c_b := C_b.out.cell
          have c_p := C_p.out.cell
          go_wp2_with fail
          clear c_n c_x c_y c_z c_a c_b c_p
          go_ret
          exact ⟨by first | rfl | exact Row.ret_bool (by simpa using hle), BB.out⟩
  · obtain ⟨x, cap, rfl, -⟩ := Draw.bytes_at q0
    have hl : decide ((1048576 : Int) < (l0.length : Int)) = true := by simpa using hlen
    clear hlen q0
    obtain ⟨n0, hn0⟩ : ∃ n0, n0 = l0.length := ⟨_, rfl⟩
    rw [← hn0] at hl ⊢
    clear hn0
    go_enter Try.func3, Try.ntmps3
    go_wp2_with fail
    refine (Draw.big_yes x n0 cap w hl).mono ?_
    rintro e w' ⟨rfl, rfl⟩
    go_wp2_with fail
    go_ret
    exact ⟨rfl, Below.refl _ _⟩

set_option maxRecDepth 100000 in
theorem lifted (os : Os) (started : os.Started) (H : Type) (enc : TypeId × Value → H) :
    ReturnsInHanded {} Try.checked os 3 .any (Rows.fnNamesSpec.pre6 enc Try.prog Try.f3 Rows.fnNamesRow.domain false) (Rows.fnNamesSpec.post enc Try.prog Try.f3 false true false false) := by
  refine returnsInHanded_of_change_sized (C := Try.checked) own started (by kernel_rfl) Try.func3
    (ChangeSpec.witness6 (enc := enc) (C := Try.checked) false ⟨#[], #[.slice none 0 0], []⟩ 8 (by kernel_rfl) (by kernel_rfl) (by kernel_rfl) (by kernel_rfl)) ?_
  intro W base args ds gs before hval0 hW _ hsz0 _
  have hval : ∀ (j : Nat) t v, Try.f3.params[j]? = some t → args[j]? = some v → Value.okWide Try.prog W .any base t v := hval0
  have hsz : (DataW.weightsEach Try.prog (Try.f3.params.toList ++ Rows.fnNamesSpec.plain.varTypes Try.prog) (ds ++ gs)).all (· ≤ reachBytes) = true := hsz0
  clear hsz0
  have hW' := hW
  obtain ⟨p, q, hA0, hV, rfl, hfz, hnd⟩ := hW
  have hA : DataW.TrodAll enc Try.prog W 0 (fun _ => true) true Try.f3.params.toList args.toList ds p := hA0
  rw [Try.params3] at hA hval hsz
  obtain ⟨v0, vs0, d0, ds0, p0, q0, hargs, rfl, rfl, h0, r0⟩ := trodAll_cons hA
  obtain ⟨rfl, rfl, rfl⟩ := trodAll_nil r0
  obtain rfl : args = #[v0] := by cases args; simp_all
  obtain ⟨rfl, rfl⟩ := trodVars_none hV
  obtain ⟨l0, q0⟩ := Frame.open_bytes (j := 0) Try.underlying22 Try.underlying5 (by kernel_rfl) (by kernel_rfl) (hval 0 22 v0 rfl rfl) h0 hsz rfl rfl
  clear hA0 hval0
  refine (walk W _ _ q0).mono fun e W' ⟨he, hb⟩ => ?_
  subst he
  exact ⟨_, rfl, Frame.law_post laidOut (by kernel_rfl) rfl Try.underlying4 rfl rfl hW' hb⟩

theorem said : Rows.FnNamesSaid :=
  OpenClaim.holds_of_wide 3 Try.f3 rfl rfl rfl rfl rfl rfl rfl ⟨rfl, rfl, rfl, rfl, rfl⟩ rfl rfl rfl rfl rfl (by kernel_rfl) Try.func3 (by kernel_rfl)
    (of_decide_eq_true (by kernel_rfl)) (by unfold Func.isWrapper; first | (rw [if_pos (by decide +kernel)]; kernel_rfl) | (rw [if_neg (by decide +kernel)]; exact ⟨rfl, rfl⟩))
    (fun os started H enc _ => lifted os started H enc)

#print axioms said
end Go.Proofs.Ytnhfdgjbbjogmaa.fnNames
