/- FnSeens: a nonce that was added is known, as long as there is room. -/
import Derived.Test.YtdaahcaafdleaaaRows
import Derived.WalkKit
import Derived.ProofKit
import Derived.OpenShut
import Derived.SizedLaws
import Derived.Test.YtdaahcaafdleaaaB1
import Derived.Test.YtdaahcaafdleaaaB8
import Derived.Test.YtdaahcaafdleaaaB9
namespace Go.Proofs.Ytdaahcaafdleaaa.fnSeens
open Go.ChangeShapes Go.WideShapes Go.ChangeAt Go.RowKit
open Go.ChangeMaps (open_string shut_string)
set_option linter.unusedVariables false

theorem own : ownKnob Try.prog.godebug = none := by kernel_rfl
theorem laidOut : laidOutB Try.prog = true := by kernel_rfl

set_option maxRecDepth 100000 in
set_option maxHeartbeats 80000000 in
theorem walk (w : World) (y0 : Value) (l0 : List UInt8) (q0 : Frame.Bytes w y0 l0) :
    Calls Try.prog 3 #[y0] w fun e w' => e = .returned (.bool true) ∧ Below w.heap.size w w' := by
  by_cases hlen : (l0.length : Int) ≤ 1048576
  · obtain ⟨x, cap, rfl, -⟩ := Draw.bytes_at q0
    have hl : decide ((1048576 : Int) < (l0.length : Int)) = false := by simpa using hlen
    have Q0 := Lib.hid q0; clear q0 hlen
    obtain ⟨n0, hn0⟩ : ∃ n0, n0 = l0.length := ⟨_, rfl⟩
    rw [← hn0] at hl Q0 ⊢
    have HN0 := Lib.hid hn0; clear hn0
    have BB := Lib.hid (Below.refl w.heap.size w)
    go_enter Try.func3, Try.ntmps3
    go_wp2_with fail
    refine (Draw.big_no x n0 cap w hl).mono ?_
    rintro e w' ⟨rfl, rfl⟩
    go_wp2_with fail
    refine (Draw.dDrawAddSeenNonce _ _ l0 (Q0.out.on BB.out)).mono ?_
    rintro e w1 ⟨ls, mm, k, U_s, U_n, rfl, ho_s, m_s, ho_n, b_n, ka0, ka1, hb⟩
    have s_s := Lib.hid m_s; clear m_s
    have HBM := Lib.hid b_n; clear b_n
    have HK0 := Lib.hid ka0; have HK1 := Lib.hid ka1; clear ka0 ka1
    obtain ⟨x_s, n_s, c_s, rfl, ho_s⟩ := Row.kLSn_shapeA ho_s
    obtain ⟨x_n, n_n, c_n, rfl, ho_n⟩ := Row.kN_shapeA ho_n
    replace BB := Lib.hid (BB.out.trans (hb.mono BB.out.size))
    clear hb
    have H_s := Lib.hid ho_s; clear ho_s
    have H_n := Lib.hid ho_n; clear ho_n
    have hal := (Below.refl (w1).heap.size (w1)).alloc (Nat.le_refl _) (.cells #[.slice x_n n_n c_n] 27)
    replace H_s := Lib.hid (H_s.out.on hal)
    replace H_n := Lib.hid (H_n.out.on hal)
    replace BB := Lib.hid (BB.out.trans (hal.mono BB.out.size))
    have C_n := Lib.hid (Ret.Blk.new' (w := w1) #[.slice x_n n_n c_n] 27 (n := w1.heap.size) (by first | rfl | simp)); clear hal
    have c0_n : (w1.alloc (.cells #[.slice x_n n_n c_n] 27)).cell? ⟨w1.heap.size, 0, none⟩ = some (.slice x_n n_n c_n) := C_n.out.cell 0
    go_wp2_with fail
    clear c0_n
    obtain ⟨lx, h_lx⟩ : ∃ z, Row.seenS ls mm k = z := ⟨_, rfl⟩
    have HLX := Lib.hid h_lx; clear h_lx
    have s_x := Lib.hid (show Row.smS9 24 lx by rw [← HLX.out]; exact Row.seen_sm s_s.out HBM.out HK0.out HK1.out)
    have HLO := Lib.hid (show Row.loopP [] lx (mm, k, 0, 1) = true by rw [← HLX.out]; exact Row.seen_loop)
    have HLS := Lib.hid (show ∃ pre, lx = pre ++ [(mm, k)] by rw [← HLX.out]; exact Row.seen_last)
    have HML := Lib.hid (show mm.length ≤ 9000000 by have h9 := HBM.out; have h8 := Row.bulk_len mm; omega)
    refine (Row.iSeV lx HLX.out H_s.out H_n.out s_s.out HBM.out).mono ?_
    rintro e w2 ⟨U_x, rfl, ho_x, hb⟩
    obtain ⟨x_x, n_x, c_x, rfl, ho_x⟩ := Row.kLSn_shapeA ho_x
    replace C_n := Lib.hid (C_n.out.on hb)
    replace H_s := Lib.hid (H_s.out.on hb)
    replace H_n := Lib.hid (H_n.out.on hb)
    replace BB := Lib.hid (BB.out.trans (hb.mono BB.out.size))
    clear hb
    have H_x := Lib.hid ho_x; clear ho_x
    have c0_n : w2.cell? ⟨w1.heap.size, 0, none⟩ = some (.slice x_n n_n c_n) := C_n.out.cell 0
    go_wp2_with fail
    clear c0_n
    refine (Row.sSeV lx HLX.out H_s.out H_n.out s_s.out HBM.out).mono ?_
    rintro e w3 ⟨U_y, rfl, ho_y, hb⟩
    obtain ⟨x_y, n_y, c_y, rfl, ho_y⟩ := Row.kLSn_shapeA ho_y
    replace C_n := Lib.hid (C_n.out.on hb)
    replace H_s := Lib.hid (H_s.out.on hb)
    replace H_n := Lib.hid (H_n.out.on hb)
    replace H_x := Lib.hid (H_x.out.on hb)
    replace BB := Lib.hid (BB.out.trans (hb.mono BB.out.size))
    clear hb
    have H_y := Lib.hid ho_y; clear ho_y
    go_wp2_with fail
    refine (Row.sameSeV H_x.out H_y.out s_x.out).mono ?_
    rintro e w4 ⟨rfl, hb⟩
    replace C_n := Lib.hid (C_n.out.on hb)
    replace H_s := Lib.hid (H_s.out.on hb)
    replace H_n := Lib.hid (H_n.out.on hb)
    replace H_x := Lib.hid (H_x.out.on hb)
    replace H_y := Lib.hid (H_y.out.on hb)
    replace BB := Lib.hid (BB.out.trans (hb.mono BB.out.size))
    clear hb
    clear H_y
    obtain ⟨pre, hpre⟩ := HLS.out
    obtain ⟨b, off, k6, xl, nl, cl, hxb, hn6, hc6, -, -⟩ := Row.last_elem H_x.out hpre
    have HNS := Lib.hid (show n_s ≤ 24 by have h9 := s_s.out.1; have h8 : n_s = ls.length := Row.kLSn_len H_s.out; omega)
    have HNX := Lib.hid (show n_x ≤ 24 by have h9 := s_x.out.1; have h8 : n_x = lx.length := Row.kLSn_len H_x.out; omega)
    have t1 : ((n_x : Int) == 0) = false := by rw [hn6]; simp; omega
    have HP := Lib.hid hpre; have HN6 := Lib.hid hn6; have HC6 := Lib.hid hc6; clear hpre hxb hn6 hc6
    have c0_n : w4.cell? ⟨w1.heap.size, 0, none⟩ = some (.slice x_n n_n c_n) := C_n.out.cell 0
    go_wp2_with fail
    clear c0_n
    have hal := (Below.refl (w4).heap.size (w4)).alloc (Nat.le_refl _) (.cells #[.slice x_n n_n c_n, .int .i64 k, .int .i64 0, .int .i64 1] 33)
    replace C_n := Lib.hid (C_n.out.on hal)
    replace H_s := Lib.hid (H_s.out.on hal)
    replace H_n := Lib.hid (H_n.out.on hal)
    replace H_x := Lib.hid (H_x.out.on hal)
    replace BB := Lib.hid (BB.out.trans (hal.mono BB.out.size))
    have C_w := Lib.hid (Ret.Blk.new' (w := w4) #[.slice x_n n_n c_n, .int .i64 k, .int .i64 0, .int .i64 1] 33 (n := w4.heap.size) (by first | rfl | simp)); clear hal
    have H_w := Lib.hid (show Row.kW.At (w4.alloc (.cells #[.slice x_n n_n c_n, .int .i64 k, .int .i64 0, .int .i64 1] 33)) (.agg #[.slice x_n n_n c_n, .int .i64 k, .int .i64 0, .int .i64 1]) (mm, k, 0, 1) from Row.want_of H_n.out)
    obtain ⟨b9, off9, k9, xl9, nl9, cl9, hxb, hn9, hc9, hcell, hnm⟩ := Row.last_elem H_x.out HP.out
    subst hxb
    have KX := Lib.hid hcell; have H_l := Lib.hid hnm
    refine Row.regS8 (k6 := k9) (by omega) (by omega) (by have := HNX.out; omega) (by rw [IntKind.wrap_i64]; have := HNX.out; omega) (decide_eq_false (by have := HNS.out; omega)) (decide_eq_true (by have := HNX.out; omega)) H_x H_w H_n H_l HLO s_x HBM HML (Lib.hid (C_n.out.cell 0)) KX (Lib.hid (C_w.out.cell 0)) (Lib.hid (C_w.out.cell 1)) (Lib.hid (C_w.out.cell 2)) (Lib.hid (C_w.out.cell 3)) ?_
    intro u35 u36 u37 u38 u39 u40 u41 u42 u43 u44 u45 u46 u47 u48 u49 u50 u51 u52 u53 u54 u55 u56 u57 u58 wx hb
    replace BB := Lib.hid (BB.out.trans (hb.mono BB.out.size)); clear hb
    go_wp2_with fail
    go_ret
    exact ⟨rfl, BB.out⟩
  · obtain ⟨x, cap, rfl, -⟩ := Draw.bytes_at q0
    have hl : decide ((1048576 : Int) < (l0.length : Int)) = true := by simpa using hlen
    clear hlen q0
    obtain ⟨n0, hn0⟩ : ∃ n0, n0 = l0.length := ⟨_, rfl⟩
    rw [← hn0] at hl ⊢
    clear hn0
    go_enter Try.func3, Try.ntmps3
    go_wp2_with fail
    refine (Draw.big_yes x n0 cap w hl).mono ?_
    rintro e w' ⟨rfl, rfl⟩
    go_wp2_with fail
    go_ret
    exact ⟨rfl, Below.refl _ _⟩

set_option maxRecDepth 100000 in
theorem lifted (os : Os) (started : os.Started) (H : Type) (enc : TypeId × Value → H) :
    ReturnsInHanded {} Try.checked os 3 .any (Rows.fnSeensSpec.pre6 enc Try.prog Try.f3 Rows.fnSeensRow.domain false) (Rows.fnSeensSpec.post enc Try.prog Try.f3 false true false false) := by
  refine returnsInHanded_of_change_sized (C := Try.checked) own started (by kernel_rfl) Try.func3
    (ChangeSpec.witness6 (enc := enc) (C := Try.checked) false ⟨#[], #[.slice none 0 0], []⟩ 8 (by kernel_rfl) (by kernel_rfl) (by kernel_rfl) (by kernel_rfl)) ?_
  intro W base args ds gs before hval0 hW _ hsz0 _
  have hval : ∀ (j : Nat) t v, Try.f3.params[j]? = some t → args[j]? = some v → Value.okWide Try.prog W .any base t v := hval0
  have hsz : (DataW.weightsEach Try.prog (Try.f3.params.toList ++ Rows.fnSeensSpec.plain.varTypes Try.prog) (ds ++ gs)).all (· ≤ reachBytes) = true := hsz0
  clear hsz0
  have hW' := hW
  obtain ⟨p, q, hA0, hV, rfl, hfz, hnd⟩ := hW
  have hA : DataW.TrodAll enc Try.prog W 0 (fun _ => true) true Try.f3.params.toList args.toList ds p := hA0
  rw [Try.params3] at hA hval hsz
  obtain ⟨v0, vs0, d0, ds0, p0, q0, hargs, rfl, rfl, h0, r0⟩ := trodAll_cons hA
  obtain ⟨rfl, rfl, rfl⟩ := trodAll_nil r0
  obtain rfl : args = #[v0] := by cases args; simp_all
  obtain ⟨rfl, rfl⟩ := trodVars_none hV
  obtain ⟨l0, q0⟩ := Frame.open_bytes (j := 0) Try.underlying22 Try.underlying5 (by kernel_rfl) (by kernel_rfl) (hval 0 22 v0 rfl rfl) h0 hsz rfl rfl
  clear hA0 hval0
  refine (walk W _ _ q0).mono fun e W' ⟨he, hb⟩ => ?_
  subst he
  exact ⟨_, rfl, Frame.law_post laidOut (by kernel_rfl) rfl Try.underlying4 rfl rfl hW' hb⟩

theorem said : Rows.FnSeensSaid :=
  OpenClaim.holds_of_wide 3 Try.f3 rfl rfl rfl rfl rfl rfl rfl ⟨rfl, rfl, rfl, rfl, rfl⟩ rfl rfl rfl rfl rfl (by kernel_rfl) Try.func3 (by kernel_rfl)
    (of_decide_eq_true (by kernel_rfl)) (by unfold Func.isWrapper; first | (rw [if_pos (by decide +kernel)]; kernel_rfl) | (rw [if_neg (by decide +kernel)]; exact ⟨rfl, rfl⟩))
    (fun os started H enc _ => lifted os started H enc)

#print axioms said
end Go.Proofs.Ytdaahcaafdleaaa.fnSeens
