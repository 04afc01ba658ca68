/- For every input: an appended part is the last one, and a name that is under another one has it as a prefix. No conditions. -/
import Derived.Test.YtnhfdgjbbjogmaaRows
import Derived.WalkKit
import Derived.ProofKit
import Derived.OpenShut
import Derived.SizedLaws
import Derived.Test.YtnhfdgjbbjogmaaFrame
import Derived.Test.YtnhfdgjbbjogmaaNameTop
import Derived.Test.YtnhfdgjbbjogmaaReg
import Derived.Test.YtnhfdgjbbjogmaaRegW
namespace Go.Proofs.Ytnhfdgjbbjogmaa.fnWiths
open Go.ChangeShapes Go.WideShapes Go.ChangeAt Go.RowKit
open Go.ChangeMaps (open_string shut_string)
set_option linter.unusedVariables false

theorem own : ownKnob Try.prog.godebug = none := by kernel_rfl
theorem laidOut : laidOutB Try.prog = true := by kernel_rfl

set_option maxRecDepth 100000 in
set_option maxHeartbeats 40000000 in
theorem walk (w : World) (y0 : Value) (l0 : List UInt8) (q0 : Frame.Bytes w y0 l0) :
    Calls Try.prog 4 #[y0] w fun e w' => e = .returned (.bool true) ∧ Below w.heap.size w w' := by
  by_cases hlen : (l0.length : Int) ≤ 1048576
  · obtain ⟨x, cap, rfl, -⟩ := Draw.bytes_at q0
    have hl : decide ((1048576 : Int) < (l0.length : Int)) = false := by simpa using hlen
    have Q0 := Lib.hid q0; clear q0 hlen
    obtain ⟨n0, hn0⟩ : ∃ n0, n0 = l0.length := ⟨_, rfl⟩
    rw [← hn0] at hl Q0 ⊢
    have HN0 := Lib.hid hn0; clear hn0
    have BB := Lib.hid (Below.refl w.heap.size w)
    go_enter Try.func4, Try.ntmps4
    go_wp2_with fail
    refine (Draw.big_no x n0 cap w hl).mono ?_
    rintro e w' ⟨rfl, rfl⟩
    go_wp2_with fail
    refine (Draw.drawAppendPart _ _ l0 (Q0.out.on BB.out)).mono ?_
    rintro e w1 ⟨u1, m1, s, rfl, ho_n, bm1, bs, hb⟩
    obtain ⟨x_n, n_n, c_n, rfl, e_n, -, ho_n⟩ := ho_n.shapeN; have E_n := Lib.hid e_n; clear e_n
    replace BB := Lib.hid (BB.out.trans (hb.mono BB.out.size))
    clear hb
    have H_n := Lib.hid ho_n.holds; clear ho_n
    have hal := (Below.refl (w1).heap.size (w1)).alloc (Nat.le_refl _) (.cells #[.slice x_n n_n c_n] 26)
    replace H_n := Lib.hid (H_n.out.on hal)
    replace BB := Lib.hid (BB.out.trans (hal.mono BB.out.size))
    have C_n := Lib.hid (Ret.Box.new' (w := w1) (.slice x_n n_n c_n) 26 (n := w1.heap.size) (by first | rfl | simp)); clear hal
    have c_n := C_n.out.cell
    go_wp2_with fail
    clear c_n
    refine (Row.implAppendPart _ m1 s _ H_n.out (by omega) (by omega)).mono ?_
    rintro e w2 ⟨u2, rfl, ho_x, hb⟩
    obtain ⟨x_x, n_x, c_x, rfl, e_x, -, ho_x⟩ := ho_x.shapeN; have E_x := Lib.hid e_x; clear e_x
    replace C_n := Lib.hid (C_n.out.on hb)
    replace H_n := Lib.hid (H_n.out.on hb)
    replace BB := Lib.hid (BB.out.trans (hb.mono BB.out.size))
    clear hb
    have H_x := Lib.hid ho_x.holds; clear ho_x
    have hal := (Below.refl (w2).heap.size (w2)).alloc (Nat.le_refl _) (.cells #[.slice x_x n_x c_x] 26)
    replace C_n := Lib.hid (C_n.out.on hal)
    replace H_n := Lib.hid (H_n.out.on hal)
    replace H_x := Lib.hid (H_x.out.on hal)
    replace BB := Lib.hid (BB.out.trans (hal.mono BB.out.size))
    have C_x := Lib.hid (Ret.Box.new' (w := w2) (.slice x_x n_x c_x) 26 (n := w2.heap.size) (by first | rfl | simp)); clear hal
    have c_n := C_n.out.cell
    have c_x := C_x.out.cell
    go_wp2_with fail
    clear c_n c_x
    refine (Row.specAppendPart _ m1 s _ H_n.out (by omega) (by omega)).mono ?_
    rintro e w3 ⟨u3, rfl, ho_y, hb⟩
    obtain ⟨x_y, n_y, c_y, rfl, e_y, -, ho_y⟩ := ho_y.shapeN; have E_y := Lib.hid e_y; clear e_y
    replace C_n := Lib.hid (C_n.out.on hb)
    replace C_x := Lib.hid (C_x.out.on hb)
    replace H_n := Lib.hid (H_n.out.on hb)
    replace H_x := Lib.hid (H_x.out.on hb)
    replace BB := Lib.hid (BB.out.trans (hb.mono BB.out.size))
    clear hb
    have H_y := Lib.hid ho_y.holds; clear ho_y
    have hal := (Below.refl (w3).heap.size (w3)).alloc (Nat.le_refl _) (.cells #[.slice x_y n_y c_y] 26)
    replace C_n := Lib.hid (C_n.out.on hal)
    replace C_x := Lib.hid (C_x.out.on hal)
    replace H_n := Lib.hid (H_n.out.on hal)
    replace H_x := Lib.hid (H_x.out.on hal)
    replace H_y := Lib.hid (H_y.out.on hal)
    replace BB := Lib.hid (BB.out.trans (hal.mono BB.out.size))
    have C_y := Lib.hid (Ret.Box.new' (w := w3) (.slice x_y n_y c_y) 26 (n := w3.heap.size) (by first | rfl | simp)); clear hal
    have c_n := C_n.out.cell
    have c_x := C_x.out.cell
    have c_y := C_y.out.cell
    go_wp2_with fail
    clear c_n c_x c_y
    refine (Draw.drawHasPrefix _ _ l0 (Q0.out.on BB.out)).mono ?_
    rintro e w4 ⟨u5, ma, u6, mb, rfl, ho_a, bma, ho_b, bmb, hb⟩
    obtain ⟨x_a, n_a, c_a, rfl, e_a, -, ho_a⟩ := ho_a.shapeN; have E_a := Lib.hid e_a; clear e_a
    obtain ⟨x_b, n_b, c_b, rfl, e_b, -, ho_b⟩ := ho_b.shapeN; have E_b := Lib.hid e_b; clear e_b
    replace C_n := Lib.hid (C_n.out.on hb)
    replace C_x := Lib.hid (C_x.out.on hb)
    replace C_y := Lib.hid (C_y.out.on hb)
    replace H_n := Lib.hid (H_n.out.on hb)
    replace H_x := Lib.hid (H_x.out.on hb)
    replace H_y := Lib.hid (H_y.out.on hb)
    replace BB := Lib.hid (BB.out.trans (hb.mono BB.out.size))
    clear hb
    have H_a := Lib.hid ho_a.holds; clear ho_a
    have H_b := Lib.hid ho_b.holds; clear ho_b
    have hal := (Below.refl (w4).heap.size (w4)).alloc (Nat.le_refl _) (.cells #[.slice x_a n_a c_a] 26)
    replace C_n := Lib.hid (C_n.out.on hal)
    replace C_x := Lib.hid (C_x.out.on hal)
    replace C_y := Lib.hid (C_y.out.on hal)
    replace H_n := Lib.hid (H_n.out.on hal)
    replace H_x := Lib.hid (H_x.out.on hal)
    replace H_y := Lib.hid (H_y.out.on hal)
    replace H_a := Lib.hid (H_a.out.on hal)
    replace H_b := Lib.hid (H_b.out.on hal)
    replace BB := Lib.hid (BB.out.trans (hal.mono BB.out.size))
    have C_a := Lib.hid (Ret.Box.new' (w := w4) (.slice x_a n_a c_a) 26 (n := w4.heap.size) (by first | rfl | simp)); clear hal
    have hal := (Below.refl ((w4.alloc (.cells #[.slice x_a n_a c_a] 26))).heap.size ((w4.alloc (.cells #[.slice x_a n_a c_a] 26)))).alloc (Nat.le_refl _) (.cells #[.slice x_b n_b c_b] 26)
    replace C_n := Lib.hid (C_n.out.on hal)
    replace C_x := Lib.hid (C_x.out.on hal)
    replace C_y := Lib.hid (C_y.out.on hal)
    replace C_a := Lib.hid (C_a.out.on hal)
    replace H_n := Lib.hid (H_n.out.on hal)
    replace H_x := Lib.hid (H_x.out.on hal)
    replace H_y := Lib.hid (H_y.out.on hal)
    replace H_a := Lib.hid (H_a.out.on hal)
    replace H_b := Lib.hid (H_b.out.on hal)
    replace BB := Lib.hid (BB.out.trans (hal.mono BB.out.size))
    have C_b := Lib.hid (Ret.Box.new' (w := (w4.alloc (.cells #[.slice x_a n_a c_a] 26))) (.slice x_b n_b c_b) 26 (n := w4.heap.size + 1) (by first | rfl | simp)); clear hal
    have la := Row.bigLen bma; have lb := Row.bigLen bmb; have l1 := Row.bigLen bm1; have lx := Row.appN_len m1 s
    have c_n := C_n.out.cell
    have c_x := C_x.out.cell
    have c_y := C_y.out.cell
    have c_a := C_a.out.cell
    have c_b := C_b.out.cell
    go_wp2_with fail
    clear c_n c_x c_y c_a c_b
    refine (Row.sameNameT _ _ (Row.appN m1 s) _ H_x.out H_y.out (by omega)).mono ?_
    rintro e w5 ⟨rfl, hb⟩
    replace C_n := Lib.hid (C_n.out.on hb)
    replace C_x := Lib.hid (C_x.out.on hb)
    replace C_y := Lib.hid (C_y.out.on hb)
    replace C_a := Lib.hid (C_a.out.on hb)
    replace C_b := Lib.hid (C_b.out.on hb)
    replace H_n := Lib.hid (H_n.out.on hb)
    replace H_x := Lib.hid (H_x.out.on hb)
    replace H_y := Lib.hid (H_y.out.on hb)
    replace H_a := Lib.hid (H_a.out.on hb)
    replace H_b := Lib.hid (H_b.out.on hb)
    replace BB := Lib.hid (BB.out.trans (hb.mono BB.out.size))
    clear hb
    cases hh : Row.hpB ma mb
    · skip
      have HH := Lib.hid hh
      clear hh
      have c_n := C_n.out.cell
      have c_x := C_x.out.cell
      have c_y := C_y.out.cell
      have c_a := C_a.out.cell
      have c_b := C_b.out.cell
      go_wp2_with fail
      clear c_n c_x c_y c_a c_b
      refine Row.reg9 C_a H_a C_b H_b la lb HH ?_
      intro u44 u45 u46 u47 u48 u49 u50 u51 u52 u53 u54 u55 wx hb
      replace C_n := Lib.hid (C_n.out.on hb)
      replace C_x := Lib.hid (C_x.out.on hb)
      replace C_y := Lib.hid (C_y.out.on hb)
      replace C_a := Lib.hid (C_a.out.on hb)
      replace C_b := Lib.hid (C_b.out.on hb)
      replace H_n := Lib.hid (H_n.out.on hb)
      replace H_x := Lib.hid (H_x.out.on hb)
      replace H_y := Lib.hid (H_y.out.on hb)
      replace H_a := Lib.hid (H_a.out.on hb)
      replace H_b := Lib.hid (H_b.out.on hb)
      replace BB := Lib.hid (BB.out.trans (hb.mono BB.out.size))
      clear hb
      cases hv : Row.validN (m1 ++ [s])
      · skip
        rw [Row.appN_no hv] at H_x; clear hv
        have c_n := C_n.out.cell
        have c_x := C_x.out.cell
        have c_y := C_y.out.cell
        have c_a := C_a.out.cell
        have c_b := C_b.out.cell
        go_wp2_with fail
        clear c_n c_x c_y c_a c_b
        refine (Row.sameNameT _ _ m1 _ H_x.out H_n.out (by omega)).mono ?_
        rintro e w6 ⟨rfl, hb⟩
        replace C_n := Lib.hid (C_n.out.on hb)
        replace C_x := Lib.hid (C_x.out.on hb)
        replace C_y := Lib.hid (C_y.out.on hb)
        replace C_a := Lib.hid (C_a.out.on hb)
        replace C_b := Lib.hid (C_b.out.on hb)
        replace H_n := Lib.hid (H_n.out.on hb)
        replace H_x := Lib.hid (H_x.out.on hb)
        replace H_y := Lib.hid (H_y.out.on hb)
        replace H_a := Lib.hid (H_a.out.on hb)
        replace H_b := Lib.hid (H_b.out.on hb)
        replace BB := Lib.hid (BB.out.trans (hb.mono BB.out.size))
        clear hb
        have c_n := C_n.out.cell
        have c_x := C_x.out.cell
        have c_y := C_y.out.cell
        have c_a := C_a.out.cell
        have c_b := C_b.out.cell
        go_wp2_with fail
        clear c_n c_x c_y c_a c_b
        go_ret
        exact ⟨rfl, BB.out⟩
      · skip
        have HV := Lib.hid hv
        rw [Row.appN_yes hv] at H_x E_x lx; clear hv
        have bx : Row.bulk (m1 ++ [s]) ≤ 10000 := by rw [Row.bulk_append, Row.bulk_one]; omega
        have en := E_n.out; have ex := E_x.out; rw [List.length_append, List.length_singleton, ← en] at ex
        obtain ⟨bb, off, hbx, hcx⟩ := H_x.out.at (j := n_n) (by rw [List.length_append, List.length_singleton, ← en]; omega)
        rw [Row.nth_eq (by rw [List.length_append, List.length_singleton, ← en]; omega)] at hcx
        have hs : (m1 ++ [s])[n_n]'(by rw [List.length_append, List.length_singleton, ← en]; omega) = s := by simp [en]
        rw [hs] at hcx; clear hs
        have HCX := Lib.hid hcx; clear hcx
        have hxn : ((n_x : Int) == (n_n : Int) + 1) = true := by rw [ex]; simp
        have hw1 : IntKind.i64.wrap ((n_n : Int) + 1) = (n_n : Int) + 1 := by rw [IntKind.wrap_i64]; omega
        have hn0 : (0 : Int) ≤ (n_n : Int) := by omega
        have hnx : (n_n : Int) < (n_x : Int) := by omega
        have HTX := Lib.hid (show Row.trN (m1 ++ [s]) (n_n : Int) = m1 by rw [en]; exact Row.trN_app m1 s)
        have HP1 := Lib.hid (Row.hp_app m1 s); have HP2 := Lib.hid (Row.hp_not m1 s)
        have lxx : (m1 ++ [s]).length ≤ 2000 := by rw [List.length_append, List.length_singleton]; omega
        have HEN := Lib.hid en; have HEX := Lib.hid ex; clear en ex
        subst hbx
        have c_n := C_n.out.cell
        have c_x := C_x.out.cell
        have c_y := C_y.out.cell
        have c_a := C_a.out.cell
        have c_b := C_b.out.cell
        go_wp2_with fail
        clear c_n c_x c_y c_a c_b
        refine Row.regw C_n H_n C_x H_x HCX l1 lxx bx hxn hw1 hn0 hnx HV HP1 HP2 HTX ?_
        intro u62 u63 u64 u65 u66 u67 u68 u69 u70 u71 u72 u73 u74 u75 u76 u77 u78 u79 u80 u81 u82 u83 u84 u85 u86 u87 u88 u89 u90 u91 u92 u93 u94 u95 u96 u97 u98 u99 u100 u101 u102 u103 u104 wx hb
        replace C_n := Lib.hid (C_n.out.on hb)
        replace C_x := Lib.hid (C_x.out.on hb)
        replace C_y := Lib.hid (C_y.out.on hb)
        replace C_a := Lib.hid (C_a.out.on hb)
        replace C_b := Lib.hid (C_b.out.on hb)
        replace H_n := Lib.hid (H_n.out.on hb)
        replace H_x := Lib.hid (H_x.out.on hb)
        replace H_y := Lib.hid (H_y.out.on hb)
        replace H_a := Lib.hid (H_a.out.on hb)
        replace H_b := Lib.hid (H_b.out.on hb)
        replace BB := Lib.hid (BB.out.trans (hb.mono BB.out.size))
        clear hb
        have c_n := C_n.out.cell
        have c_x := C_x.out.cell
        have c_y := C_y.out.cell
        have c_a := C_a.out.cell
        have c_b := C_b.out.cell
        go_wp2_with fail
        clear c_n c_x c_y c_a c_b
        go_ret
        exact ⟨by first | rfl | exact Row.ret_bool (by simp), BB.out⟩
    · skip
      have HH := Lib.hid hh
      have HTR := Lib.hid (show Row.trN ma (n_b : Int) = mb by rw [E_b.out]; exact Row.trN_hp hh)
      clear hh
      have c_n := C_n.out.cell
      have c_x := C_x.out.cell
      have c_y := C_y.out.cell
      have c_a := C_a.out.cell
      have c_b := C_b.out.cell
      go_wp2_with fail
      clear c_n c_x c_y c_a c_b
      have hdr : Below (w5).heap.size (w5) (w5).drew := (Below.refl _ _).drew
      replace C_n := Lib.hid (C_n.out.on hdr)
      replace C_x := Lib.hid (C_x.out.on hdr)
      replace C_y := Lib.hid (C_y.out.on hdr)
      replace C_a := Lib.hid (C_a.out.on hdr)
      replace C_b := Lib.hid (C_b.out.on hdr)
      replace H_n := Lib.hid (H_n.out.on hdr)
      replace H_x := Lib.hid (H_x.out.on hdr)
      replace H_y := Lib.hid (H_y.out.on hdr)
      replace H_a := Lib.hid (H_a.out.on hdr)
      replace H_b := Lib.hid (H_b.out.on hdr)
      replace BB := Lib.hid (BB.out.trans (hdr.mono BB.out.size))
      clear hdr
      go_region_held3 (fun w' => w'.cell? ⟨w4.heap.size, 0, none⟩ = some (.slice x_a n_a c_a) ∧ w'.cell? ⟨w4.heap.size + 1, 0, none⟩ = some (.slice x_b n_b c_b)) (exact ⟨C_a.out.cell, C_b.out.cell⟩) (first | (go_at_call 33; refine (Row.hpV true H_a.out H_b.out (by omega) (by omega) HH.out).mono ?_; rintro e wx ⟨rfl, hb⟩; replace C_n := Lib.hid (C_n.out.on hb); replace C_x := Lib.hid (C_x.out.on hb); replace C_y := Lib.hid (C_y.out.on hb); replace C_a := Lib.hid (C_a.out.on hb); replace C_b := Lib.hid (C_b.out.on hb); replace H_n := Lib.hid (H_n.out.on hb); replace H_x := Lib.hid (H_x.out.on hb); replace H_y := Lib.hid (H_y.out.on hb); replace H_a := Lib.hid (H_a.out.on hb); replace H_b := Lib.hid (H_b.out.on hb); replace BB := Lib.hid (BB.out.trans (hb.mono BB.out.size)); clear hb) | (go_at_call 27; refine (Row.truncV (n_b : Int) mb H_a.out (by omega) HTR.out).mono ?_; rintro e wx ⟨u8, rfl, ho_t, hb⟩; obtain ⟨x_t, n_t, c_t, rfl, -, -, ho_t⟩ := ho_t.shapeN; replace C_n := Lib.hid (C_n.out.on hb); replace C_x := Lib.hid (C_x.out.on hb); replace C_y := Lib.hid (C_y.out.on hb); replace C_a := Lib.hid (C_a.out.on hb); replace C_b := Lib.hid (C_b.out.on hb); replace H_n := Lib.hid (H_n.out.on hb); replace H_x := Lib.hid (H_x.out.on hb); replace H_y := Lib.hid (H_y.out.on hb); replace H_a := Lib.hid (H_a.out.on hb); replace H_b := Lib.hid (H_b.out.on hb); replace BB := Lib.hid (BB.out.trans (hb.mono BB.out.size)); have H_t := Lib.hid ho_t.holds; clear hb ho_t) | (go_at_call 24; refine (Row.sameNameT _ _ mb _ H_t.out H_b.out (by omega)).mono ?_; rintro e wx ⟨rfl, hb⟩; replace C_n := Lib.hid (C_n.out.on hb); replace C_x := Lib.hid (C_x.out.on hb); replace C_y := Lib.hid (C_y.out.on hb); replace C_a := Lib.hid (C_a.out.on hb); replace C_b := Lib.hid (C_b.out.on hb); replace H_n := Lib.hid (H_n.out.on hb); replace H_x := Lib.hid (H_x.out.on hb); replace H_y := Lib.hid (H_y.out.on hb); replace H_a := Lib.hid (H_a.out.on hb); replace H_b := Lib.hid (H_b.out.on hb); replace BB := Lib.hid (BB.out.trans (hb.mono BB.out.size)); clear hb))
      cases hv : Row.validN (m1 ++ [s])
      · skip
        rw [Row.appN_no hv] at H_x; clear hv
        have c_n := C_n.out.cell
        have c_x := C_x.out.cell
        have c_y := C_y.out.cell
        have c_a := C_a.out.cell
        have c_b := C_b.out.cell
        go_wp2_with fail
        clear c_n c_x c_y c_a c_b
        refine (Row.sameNameT _ _ m1 _ H_x.out H_n.out (by omega)).mono ?_
        rintro e w7 ⟨rfl, hb⟩
        replace C_n := Lib.hid (C_n.out.on hb)
        replace C_x := Lib.hid (C_x.out.on hb)
        replace C_y := Lib.hid (C_y.out.on hb)
        replace C_a := Lib.hid (C_a.out.on hb)
        replace C_b := Lib.hid (C_b.out.on hb)
        replace H_n := Lib.hid (H_n.out.on hb)
        replace H_x := Lib.hid (H_x.out.on hb)
        replace H_y := Lib.hid (H_y.out.on hb)
        replace H_a := Lib.hid (H_a.out.on hb)
        replace H_b := Lib.hid (H_b.out.on hb)
        replace BB := Lib.hid (BB.out.trans (hb.mono BB.out.size))
        clear hb
        have c_n := C_n.out.cell
        have c_x := C_x.out.cell
        have c_y := C_y.out.cell
        have c_a := C_a.out.cell
        have c_b := C_b.out.cell
        go_wp2_with fail
        clear c_n c_x c_y c_a c_b
        go_ret
        exact ⟨rfl, BB.out⟩
      · skip
        have HV := Lib.hid hv
        rw [Row.appN_yes hv] at H_x E_x lx; clear hv
        have bx : Row.bulk (m1 ++ [s]) ≤ 10000 := by rw [Row.bulk_append, Row.bulk_one]; omega
        have en := E_n.out; have ex := E_x.out; rw [List.length_append, List.length_singleton, ← en] at ex
        obtain ⟨bb, off, hbx, hcx⟩ := H_x.out.at (j := n_n) (by rw [List.length_append, List.length_singleton, ← en]; omega)
        rw [Row.nth_eq (by rw [List.length_append, List.length_singleton, ← en]; omega)] at hcx
        have hs : (m1 ++ [s])[n_n]'(by rw [List.length_append, List.length_singleton, ← en]; omega) = s := by simp [en]
        rw [hs] at hcx; clear hs
        have HCX := Lib.hid hcx; clear hcx
        have hxn : ((n_x : Int) == (n_n : Int) + 1) = true := by rw [ex]; simp
        have hw1 : IntKind.i64.wrap ((n_n : Int) + 1) = (n_n : Int) + 1 := by rw [IntKind.wrap_i64]; omega
        have hn0 : (0 : Int) ≤ (n_n : Int) := by omega
        have hnx : (n_n : Int) < (n_x : Int) := by omega
        have HTX := Lib.hid (show Row.trN (m1 ++ [s]) (n_n : Int) = m1 by rw [en]; exact Row.trN_app m1 s)
        have HP1 := Lib.hid (Row.hp_app m1 s); have HP2 := Lib.hid (Row.hp_not m1 s)
        have lxx : (m1 ++ [s]).length ≤ 2000 := by rw [List.length_append, List.length_singleton]; omega
        have HEN := Lib.hid en; have HEX := Lib.hid ex; clear en ex
        subst hbx
        have c_n := C_n.out.cell
        have c_x := C_x.out.cell
        have c_y := C_y.out.cell
        have c_a := C_a.out.cell
        have c_b := C_b.out.cell
        go_wp2_with fail
        clear c_n c_x c_y c_a c_b
        refine Row.regw C_n H_n C_x H_x HCX l1 lxx bx hxn hw1 hn0 hnx HV HP1 HP2 HTX ?_
        intro u62 u63 u64 u65 u66 u67 u68 u69 u70 u71 u72 u73 u74 u75 u76 u77 u78 u79 u80 u81 u82 u83 u84 u85 u86 u87 u88 u89 u90 u91 u92 u93 u94 u95 u96 u97 u98 u99 u100 u101 u102 u103 u104 wx hb
        replace C_n := Lib.hid (C_n.out.on hb)
        replace C_x := Lib.hid (C_x.out.on hb)
        replace C_y := Lib.hid (C_y.out.on hb)
        replace C_a := Lib.hid (C_a.out.on hb)
        replace C_b := Lib.hid (C_b.out.on hb)
        replace H_n := Lib.hid (H_n.out.on hb)
        replace H_x := Lib.hid (H_x.out.on hb)
        replace H_y := Lib.hid (H_y.out.on hb)
        replace H_a := Lib.hid (H_a.out.on hb)
        replace H_b := Lib.hid (H_b.out.on hb)
        replace BB := Lib.hid (BB.out.trans (hb.mono BB.out.size))
        clear hb
        have c_n := C_n.out.cell
        have c_x := C_x.out.cell
        have c_y := C_y.out.cell
        have c_a := C_a.out.cell
        have c_b := C_b.out.cell
        go_wp2_with fail
        clear c_n c_x c_y c_a c_b
        go_ret
        exact ⟨by first | rfl | exact Row.ret_bool (by simp), BB.out⟩
  · obtain ⟨x, cap, rfl, -⟩ := Draw.bytes_at q0
    have hl : decide ((1048576 : Int) < (l0.length : Int)) = true := by simpa using hlen
    clear hlen q0
    obtain ⟨n0, hn0⟩ : ∃ n0, n0 = l0.length := ⟨_, rfl⟩
    rw [← hn0] at hl ⊢
    clear hn0
    go_enter Try.func4, Try.ntmps4
    go_wp2_with fail
    refine (Draw.big_yes x n0 cap w hl).mono ?_
    rintro e w' ⟨rfl, rfl⟩
    go_wp2_with fail
    go_ret
    exact ⟨rfl, Below.refl _ _⟩

set_option maxRecDepth 100000 in
theorem lifted (os : Os) (started : os.Started) (H : Type) (enc : TypeId × Value → H) :
    ReturnsInHanded {} Try.checked os 4 .any (Rows.fnWithsSpec.pre6 enc Try.prog Try.f4 Rows.fnWithsRow.domain false) (Rows.fnWithsSpec.post enc Try.prog Try.f4 false true false false) := by
  refine returnsInHanded_of_change_sized (C := Try.checked) own started (by kernel_rfl) Try.func4
    (ChangeSpec.witness6 (enc := enc) (C := Try.checked) false ⟨#[], #[.slice none 0 0], []⟩ 8 (by kernel_rfl) (by kernel_rfl) (by kernel_rfl) (by kernel_rfl)) ?_
  intro W base args ds gs before hval0 hW _ hsz0 _
  have hval : ∀ (j : Nat) t v, Try.f4.params[j]? = some t → args[j]? = some v → Value.okWide Try.prog W .any base t v := hval0
  have hsz : (DataW.weightsEach Try.prog (Try.f4.params.toList ++ Rows.fnWithsSpec.plain.varTypes Try.prog) (ds ++ gs)).all (· ≤ reachBytes) = true := hsz0
  clear hsz0
  have hW' := hW
  obtain ⟨p, q, hA0, hV, rfl, hfz, hnd⟩ := hW
  have hA : DataW.TrodAll enc Try.prog W 0 (fun _ => true) true Try.f4.params.toList args.toList ds p := hA0
  rw [Try.params4] at hA hval hsz
  obtain ⟨v0, vs0, d0, ds0, p0, q0, hargs, rfl, rfl, h0, r0⟩ := trodAll_cons hA
  obtain ⟨rfl, rfl, rfl⟩ := trodAll_nil r0
  obtain rfl : args = #[v0] := by cases args; simp_all
  obtain ⟨rfl, rfl⟩ := trodVars_none hV
  obtain ⟨l0, q0⟩ := Frame.open_bytes (j := 0) Try.underlying22 Try.underlying5 (by kernel_rfl) (by kernel_rfl) (hval 0 22 v0 rfl rfl) h0 hsz rfl rfl
  clear hA0 hval0
  refine (walk W _ _ q0).mono fun e W' ⟨he, hb⟩ => ?_
  subst he
  exact ⟨_, rfl, Frame.law_post laidOut (by kernel_rfl) rfl Try.underlying4 rfl rfl hW' hb⟩

theorem said : Rows.FnWithsSaid :=
  OpenClaim.holds_of_wide 4 Try.f4 rfl rfl rfl rfl rfl rfl rfl ⟨rfl, rfl, rfl, rfl, rfl⟩ rfl rfl rfl rfl rfl (by kernel_rfl) Try.func4 (by kernel_rfl)
    (of_decide_eq_true (by kernel_rfl)) (by unfold Func.isWrapper; first | (rw [if_pos (by decide +kernel)]; kernel_rfl) | (rw [if_neg (by decide +kernel)]; exact ⟨rfl, rfl⟩))
    (fun os started H enc _ => lifted os started H enc)

#print axioms said
end Go.Proofs.Ytnhfdgjbbjogmaa.fnWiths
