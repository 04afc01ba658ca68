/- Contracts and mathematics, joined: PendL0, PendL1, PendL, SeenB. No conditions but those that each states. -/
import Derived.WalkKit
import Derived.Deep.RegionHeld3
import Derived.Deep.RegionLaw
import Derived.RangeFuncNested
import Derived.RangeFuncBound
import Derived.RangeFuncCalls
import Derived.RangeFuncLeaves
import Derived.RangeFuncBox
import Derived.Shelf.Abstract
import Derived.Shelf.RegionOpen
import Derived.OwnWalkIn
import Derived.TacticsInMore
import Derived.LoopNIn
import Derived.LoopIn
import Derived.Test.YtdaahcaafdleaaaB7
import Derived.Test.YtdaahcaafdleaaaB6
/- requestersOf: what its iterator hands to a loop. No conditions but that lengths fit. -/
namespace Go.Proofs.Ytdaahcaafdleaaa.Row
open Go.ChangeShapes Go.WideShapes Go.ChangeAt Go.RowKit Go.Instr
open Go.Shelf
attribute [local go_sem] Oper.semAt_some
set_option linter.unusedVariables false
set_option maxRecDepth 100000
def reqsOf (n : List ByteArray) (l : List Pit) : List Rqt := l.flatMap fun x => if isP n x = true then x.2.1 else []
theorem reqsOf_nx {n : List ByteArray} {l : List Pit} {k : Nat} (h : k < l.length) : reqsOf n (l.take (k + 1)) = reqsOf n (l.take k) ++ (if isP n (nth l k) = true then (nth l k).2.1 else []) := by
  unfold reqsOf
  rw [take_nx h, List.flatMap_append]
  simp
theorem reqsOf_pre {n : List ByteArray} {l : List Pit} {k : Nat} : reqsOf n (l.take k) <+: reqsOf n l := by
  refine ⟨reqsOf n (l.drop k), ?_⟩
  unfold reqsOf
  rw [← List.flatMap_append, List.take_append_drop]
theorem reqsOf_any (n : List ByteArray) (k : Int) (l : List Pit) : (reqsOf n l).any (nnR k) = l.any (loopR n k) := by
  unfold reqsOf
  induction l with
  | nil => rfl
  | cons a r ih =>
    rw [List.flatMap_cons, List.any_append, ih, List.any_cons]
    congr 1
    unfold loopR
    cases h : isP n a <;> simp
set_option maxHeartbeats 8000000 in
theorem reqs_in (n : Nat) (hn : 1 ≤ n) (lp Bl Bn n₀ : Nat) (x : Option Addr) (len cap : Nat) (xn : Option Addr) (nn cn : Nat) (l : List Pit) (nm9 : List ByteArray) (w0 : World) (hw0 : w0.heap.size = n₀)
    (J Jx : List Rqt → World → Prop) (hJ : ∀ s W W', J s W → Below W.heap.size W W' → J s W')
    (hBl : w0.cell? ⟨Bl, 0, none⟩ = some (.slice x len cap)) (hBn : w0.cell? ⟨Bn, 0, none⟩ = some (.slice xn nn cn)) (h : kLPi.At w0 (.slice x len cap) l) (g : kN.At w0 (.agg #[.slice xn nn cn]) nm9) (hf : FitP l) (hm : bulk nm9 ≤ 1200000)
    (hY : ∀ pre y W, J pre W → pre.length < (reqsOf nm9 l).length → YieldAt Fence.wide (n - 1) Try.prog lp #[rqV y] W fun e W' =>
      (e = .returned (.bool true) ∧ J (pre ++ [y]) W' ∧ Below n₀ W W') ∨ (e = .returned (.bool false) ∧ Jx (pre ++ [y]) W'))
    (W : World) (hW : Below n₀ w0 W) (h0 : J [] W) :
    CallsIn Fence.wide n Try.prog 77 #[.func (.yield lp) #[] #[], .pointer (some ⟨Bl, 0, none⟩), .pointer (some ⟨Bn, 0, none⟩)] W fun e W' => (∃ v, e = .returned v) ∧ (J (reqsOf nm9 l) W' ∨ ∃ pre, pre <+: reqsOf nm9 l ∧ Jx pre W') := by
  have hl9 := hf.len
  obtain ⟨x', n', c', L, e9, hnl, ht, hh, hel⟩ := kLPi_at h
  cases e9
  have hlen : l.length = len := by rw [← ht, List.length_map]; exact hnl.symm
  rw [hlen] at hl9
  have hcap : len ≤ cap := by obtain ⟨x', n', cap', hv, hn', hc', -⟩ := hh.shapeN; cases hv; exact hc'
  refine callsIn_of_wp Try.func77 rfl trivial ?_ rfl
  simp only [Try.ntmps77, List.size_toArray, List.length_cons, List.length_nil, Nat.reduceAdd, Nat.reduceSub, Array.replicate_succ, Array.replicate_zero, List.push_toArray, List.append_toArray, List.nil_append, List.cons_append]
  have q0 : W.cell? ⟨Bl, 0, none⟩ = some (.slice x len cap) := (hW.cell (by rw [← hw0]; exact Ret.cell_lt hBl)).trans hBl
  have HBn := Lib.hid hBn; have HG := Lib.hid g; have HW0 := Lib.hid hw0; have HY := Lib.hid hY; have HJ := Lib.hid hJ; have HF := Lib.hid hf
  have HN := Lib.hid hnl; have HT := Lib.hid ht; have HH := Lib.hid hh; have HEL := Lib.hid hel; have HLEN := Lib.hid hlen
  clear hBl hBn g hw0 hY hJ hf hnl ht hh hel hlen h
  gi_wp2
  gi_loopw [10] (fun iv wr => ∃ k : Nat, k ≤ len ∧ iv = .int .i64 k ∧ J (reqsOf nm9 (l.take k)) wr ∧ Hid (Below n₀ w0 wr)) (fun iv _ => len - (intOf iv).toNat)
  case atStart => exact ⟨0, Nat.zero_le _, rfl, by simpa [reqsOf] using h0, Lib.hid hW⟩
  case round =>
    obtain ⟨k, hk, rfl, hJs, hb⟩ := hrel
    by_cases hlt : k < len
    · have hb0 : Below w0.heap.size w0 wr := by rw [HW0.out]; exact hb.out
      have hnl := HN.out
      obtain ⟨b, off, y0, m0, d0, y1, m1, d1, rfl, -, hc0, hc1, hc2, hA⟩ := kLPi_elem (HH.out.on hb0) (fun y hy => kPi.holds_on (HEL.out y hy) hb0) (j := k) (by omega)
      have hpt : nth l k = kPi.strip (nth L k) := by rw [← HT.out, nth_map _ (by omega)]
      have hps := HF.out.each (nth l k) (nth_mem (by have := HLEN.out; omega))
      rw [← hpt] at hA hc2
      obtain ⟨hNM, hRQ⟩ := kPi_parts hA
      have hpt0 := hpt
      obtain ⟨nm, rq, ls, hx⟩ : ∃ nm rq ls, nth l k = (nm, rq, ls) := ⟨_, _, _, rfl⟩
      have hx0 := hx
      rw [hx] at hNM hRQ hc2 hps
      simp only at hNM hRQ hc2
      obtain ⟨l1, l2⟩ := wtPi_lens hps
      have hHQ := kLRq_holds hRQ
      have hrl : rq.length = m1 := (kLRq_len hRQ).symm
      have hal := (Below.refl wr.heap.size wr).alloc (Nat.le_refl _) (.cells #[.slice y0 m0 d0, .slice y1 m1 d1, .int .i64 ls] 112)
      have f0 : (wr.alloc (.cells #[.slice y0 m0 d0, .slice y1 m1 d1, .int .i64 ls] 112)).cell? ⟨Bn, 0, none⟩ = some (.slice xn nn cn) := kc (kc HBn.out hb0) hal
      have HX := Lib.hid (Ret.Blk.new wr #[.slice y0 m0 d0, .slice y1 m1 d1, .int .i64 ls] 112)
      have HB1 := Lib.hid (hb.out.trans (hal.mono (by have := hb.out.size; have := HW0.out; omega)))
      have HJ1 := Lib.hid (HJ.out _ _ _ hJs hal)
      have HNM := Lib.hid (hNM.on hal); have HGN := Lib.hid ((HG.out.on hb0).on hal)
      have HHQ := Lib.hid (hHQ.on hal)
      have HHQ0 := Lib.hid (show HoldsK kRq.cells 3 w0 (.slice y1 m1 d1) rq from by
        obtain ⟨b', off', y0', m0', d0', y1', m1', d1', e9', -, -, hc1', -, hA'⟩ := kLPi_elem HH.out HEL.out (j := k) (by omega)
        cases e9'
        have h6 := (kc hc1' hb0).symm.trans hc1
        simp only [Option.some.injEq, Value.slice.injEq] at h6
        obtain ⟨rfl, rfl, rfl⟩ := h6
        rw [← hpt0] at hA'
        obtain ⟨-, hRQ'⟩ := kPi_parts hA'
        have h7 := kLRq_holds hRQ'
        rw [hx0] at h7
        exact h7)
      obtain ⟨q, hq⟩ : ∃ q, decide (nm = nm9) = q := ⟨_, rfl⟩
      have HQ := Lib.hid hq
      have HEQ := Lib.hid (iEqK q HQ.out HNM.out HGN.out (by simp only at l1; omega) (by omega))
      have HRX := Lib.hid (reqsOf_nx (n := nm9) (show k < l.length by have := HLEN.out; omega))
      have HIP := Lib.hid (show isP nm9 (nth l k) = q by rw [hx]; exact hq)
      have HR2 := Lib.hid (show (nth l k).2.1 = rq by rw [hx])
      have HRL := Lib.hid hrl; have hm9 : m1 ≤ 1200000 := by simp only at l2; omega
      clear hal hNM hRQ hHQ hpt hps hx hA hq hJs hrl hnl hpt0 hx0
      cases q with
      | false =>
        have HD := Lib.hid (show reqsOf nm9 (l.take (k + 1)) = reqsOf nm9 (l.take k) by rw [HRX.out, if_neg (by rw [HIP.out]; simp), List.append_nil])
        gi_wp2
        refine ⟨trivial, ?_⟩
        gi_at_call 49
        refine (callsIn_wide.2 HEQ.out).mono ?_
        rintro e' w2 ⟨rfl, hb2⟩
        have HB2 := Lib.hid (HB1.out.trans (hb2.mono (by have := HB1.out.size; have := HW0.out; omega)))
        have HJ2 := Lib.hid (HJ.out _ _ _ HJ1.out hb2)
        clear hb2
        gi_wp2
        go_roundw
        case rel => exact ⟨k + 1, by omega, by go_num, HD.out ▸ HJ2.out, HB2⟩
        case measure => simp [intOf]; omega
      | true =>
        have HD := Lib.hid (show reqsOf nm9 (l.take (k + 1)) = reqsOf nm9 (l.take k) ++ rq by rw [HRX.out, if_pos HIP.out, HR2.out])
        gi_wp2
        refine ⟨trivial, ?_⟩
        gi_at_call 49
        refine (callsIn_wide.2 HEQ.out).mono ?_
        rintro e' w2 ⟨rfl, hb2⟩
        have HB2 := Lib.hid (HB1.out.trans (hb2.mono (by have := HB1.out.size; have := HW0.out; omega)))
        have HJ2 := Lib.hid (HJ.out _ _ _ HJ1.out hb2)
        have x1 : w2.cell? ⟨wr.heap.size, 1, none⟩ = some (.slice y1 m1 d1) := (HX.out.on hb2).cell 1
        have HHQ2 := Lib.hid (HHQ.out.on hb2)
        have hB1 : n₀ ≤ (wr.alloc (.cells #[.slice y0 m0 d0, .slice y1 m1 d1, .int .i64 ls] 112)).heap.size := by have := HB1.out.size; have := HW0.out; omega
        clear hb2 hc0 hc1 hc2 f0
        obtain ⟨wo, hwo⟩ : ∃ wo, wo = wr := ⟨_, rfl⟩
        subst hwo
        gi_wp2
        gi_loopw [22] (fun iv wr => ∃ j : Nat, j ≤ m1 ∧ iv = .int .i64 j ∧ J (reqsOf nm9 (l.take k) ++ rq.take j) wr ∧ Hid (Below n₀ w2 wr)) (fun iv _ => m1 - (intOf iv).toNat)
        case atStart => exact ⟨0, Nat.zero_le _, rfl, by simpa using HJ2.out, Lib.hid (Below.refl _ _)⟩
        case round =>
          obtain ⟨j, hj, rfl, hJj, hbj⟩ := hrel
          by_cases hjl : j < m1
          · have hjr : j < rq.length := by have := HRL.out; omega
            have hHJ : HoldsK kRq.cells 3 w0 (.slice y1 m1 d1) rq := HHQ0.out
            obtain ⟨bq, oq, rfl, hcm⟩ := hHJ.at szRq_cells hjr
            obtain ⟨f, u, e, hx⟩ : ∃ f u e, nth rq j = (f, u, e) := ⟨_, _, _, rfl⟩
            rw [hx] at hcm
            have hbw : Below w0.heap.size w0 wr := by rw [HW0.out]; exact HB2.out.trans hbj.out
            have c0 : wr.cell? ⟨bq, oq + j * 3, none⟩ = some (.int .i64 f) := by have h5 : w0.cell? ⟨bq, oq + (j * 3 + 0), none⟩ = some (.int .i64 f) := hcm 0 (by decide); rw [Nat.add_zero] at h5; exact kc h5 hbw
            have c1 : wr.cell? ⟨bq, oq + j * 3 + 1, none⟩ = some (.int .i64 u) := by have h5 : w0.cell? ⟨bq, oq + (j * 3 + 1), none⟩ = some (.int .i64 u) := hcm 1 (by decide); rw [← Nat.add_assoc] at h5; exact kc h5 hbw
            have c2 : wr.cell? ⟨bq, oq + j * 3 + 2, none⟩ = some (.int .i64 e) := by have h5 : w0.cell? ⟨bq, oq + (j * 3 + 2), none⟩ = some (.int .i64 e) := hcm 2 (by decide); rw [← Nat.add_assoc] at h5; exact kc h5 hbw
            have hal := (Below.refl wr.heap.size wr).alloc (Nat.le_refl _) (.cells #[.int .i64 f, .int .i64 u, .int .i64 e] 80)
            have hx3 := Ret.Blk.new wr #[.int .i64 f, .int .i64 u, .int .i64 e] 80
            have hpr : reqsOf nm9 (l.take k) ++ rq.take j ++ [(f, u, e)] <+: reqsOf nm9 l := by
              have h5 : reqsOf nm9 (l.take k) ++ rq <+: reqsOf nm9 l := by rw [← HD.out]; exact reqsOf_pre
              refine List.IsPrefix.trans ?_ h5
              rw [List.append_assoc]
              refine List.prefix_append_right_inj _ |>.2 ?_
              rw [← hx, ← take_nx hjr]
              exact List.take_prefix _ _
            have hlt2 : (reqsOf nm9 (l.take k) ++ rq.take j).length < (reqsOf nm9 l).length := by
              have h5 := hpr.length_le
              rw [List.length_append] at h5
              simp only [List.length_singleton] at h5
              omega
            have HBJ := Lib.hid (hbj.out.trans (hal.mono (Nat.le_trans (by have h5 := HB2.out.size; have h6 := HW0.out; omega) hbj.out.size)))
            obtain ⟨fn, tmps, assign, body, hy, hR⟩ := HY.out _ (f, u, e) (wr.alloc (.cells #[.int .i64 f, .int .i64 u, .int .i64 e] 80)) (HJ.out _ _ _ hJj hal) hlt2
            unfold rqV at hy
            dsimp only at hy
            have HTX := Lib.hid (show reqsOf nm9 (l.take k) ++ rq.take j ++ [(f, u, e)] = reqsOf nm9 (l.take k) ++ rq.take (j + 1) by rw [List.append_assoc, take_nx hjr, hx])
            have x0 : (wr.alloc (.cells #[.int .i64 f, .int .i64 u, .int .i64 e] 80)).cell? ⟨wr.heap.size, 0, none⟩ = some (.int .i64 f) := hx3.cell 0
            have x1_ : (wr.alloc (.cells #[.int .i64 f, .int .i64 u, .int .i64 e] 80)).cell? ⟨wr.heap.size, 1, none⟩ = some (.int .i64 u) := hx3.cell 1
            have x2 : (wr.alloc (.cells #[.int .i64 f, .int .i64 u, .int .i64 e] 80)).cell? ⟨wr.heap.size, 2, none⟩ = some (.int .i64 e) := hx3.cell 2
            have HPR := Lib.hid hpr
            clear hal hx3 hx hcm hHJ hpr
            gi_wp2
            refine hR.mono ?_
            rintro e' W3 (⟨rfl, hJ3, hk3⟩ | ⟨rfl, hJx3⟩)
            · have HB3 := Lib.hid (HBJ.out.trans hk3)
              rw [HTX.out] at hJ3
              gi_wp2
              go_roundw
              case rel => exact ⟨j + 1, by omega, by go_num, hJ3, HB3⟩
              case measure => simp [intOf]; omega
            · gi_wp2
              refine bodyPost_ret (results_none rfl _ _ _) rfl ?_
              exact ⟨⟨_, rfl⟩, .inr ⟨_, HPR.out, hJx3⟩⟩
          · obtain rfl : j = m1 := by omega
            have HT2 := Lib.hid (show rq.take j = rq by exact List.take_of_length_le (by rw [HRL.out]; exact Nat.le_refl _))
            have HB3 := Lib.hid (HB2.out.trans hbj.out)
            rw [HT2.out, ← HD.out] at hJj
            clear hjl
            gi_wp2
            go_roundw
            case rel => exact ⟨k + 1, by omega, by go_num, hJj, HB3⟩
            case measure => simp [intOf]; omega
    · obtain rfl : k = len := by omega
      have HF2 := Lib.hid (show l.take k = l by exact List.take_of_length_le (by rw [HLEN.out]; exact Nat.le_refl _))
      rw [HF2.out] at hJs
      gi_wp2
      go_end0
      exact ⟨⟨_, rfl⟩, .inl hJs⟩
end Go.Proofs.Ytdaahcaafdleaaa.Row
/- requestersOf: what it hands out; IsLoop: whether a nonce was seen. No conditions but that lengths fit. -/
namespace Go.Proofs.Ytdaahcaafdleaaa.Row
open Go.ChangeShapes Go.WideShapes Go.ChangeAt Go.RowKit Go.Instr
open Go.Shelf
attribute [local go_sem] Oper.semAt_some
set_option linter.unusedVariables false
set_option maxRecDepth 100000
set_option maxHeartbeats 1000000 in
theorem reqOf (x : Option Addr) (len cap : Nat) (xn : Option Addr) (nn cn : Nat) (w : World) :
    Calls Try.prog 46 #[.slice x len cap, .agg #[.slice xn nn cn]] w fun e w' => e = .returned (.func (.func 77) #[] #[.pointer (some ⟨w.heap.size, 0, none⟩), .pointer (some ⟨w.heap.size + 1, 0, none⟩)]) ∧ w' = (w.alloc (.cells #[.slice x len cap] 35)).alloc (.cells #[.slice xn nn cn] 27) := by
  have hmf : ∀ (fn : Fn) (first cap : Array Value) (w : World), (Instr.makeFunc fn first cap).run Try.prog w = .ok (.func fn first cap) w := fun _ _ _ _ => rfl
  go_enter Try.func46, Try.ntmps46
  go_wp2
  go_ret
  exact ⟨rfl, rfl⟩
theorem stopsQ (n : Nat) (hn : 1 ≤ n) (Bl Bn : Nat) (x : Option Addr) (len cap : Nat) (xn : Option Addr) (nn cn : Nat) (l : List Pit) (nm9 : List ByteArray) (w0 : World)
    (hBl : w0.cell? ⟨Bl, 0, none⟩ = some (.slice x len cap)) (hBn : w0.cell? ⟨Bn, 0, none⟩ = some (.slice xn nn cn)) (h : kLPi.At w0 (.slice x len cap) l) (g : kN.At w0 (.agg #[.slice xn nn cn]) nm9) (hf : FitP l) (hm : bulk nm9 ≤ 1200000) :
    SeqStopsK Fence.wide n Try.prog 77 #[.pointer (some ⟨Bl, 0, none⟩), .pointer (some ⟨Bn, 0, none⟩)] (fun y : Rqt => #[.agg #[.int .i64 y.1, .int .i64 y.2.1, .int .i64 y.2.2]]) (Below w0.heap.size) (fun ys => ys = reqsOf nm9 l) (fun pre => pre <+: reqsOf nm9 l) (reqsOf nm9 l).length w0 := fun lp J Jx W hW hJ _ hY h0 =>
  (reqs_in n hn lp Bl Bn w0.heap.size x len cap xn nn cn l nm9 w0 rfl J Jx (fun s X Y hs hb => hJ s X Y none hs (grown_none hb) (fun r e => by cases e)) hBl hBn h g hf hm hY W hW h0).mono fun e W' h =>
    ⟨h.1, h.2.elim (fun h => .inl ⟨_, rfl, h⟩) (fun ⟨pre, h1, h2⟩ => .inr ⟨pre, h1, h2⟩)⟩
theorem clos_lp (g : Nat) (m : List ByteArray) (kk : Int) (w : World) {xn : Option Addr} {nn cn : Nat} (hg : w.cell? ⟨g, 0, none⟩ = some (.slice xn nn cn)) (hg1 : w.cell? ⟨g, 1, none⟩ = some (.int .i64 kk)) (h : kN.At w (.agg #[.slice xn nn cn]) m) (hm : bulk m ≤ 1200000) :
    ClosK Try.prog kSn 48 #[.pointer (some ⟨g, 0, none⟩)] (isS m kk) (fun x => bulk x.1 ≤ 1200000) w := by
  intro x V w1 hb hA hx
  obtain ⟨x0, n0, c0, rfl, hA⟩ := kSn_shapeA hA
  have hN := kSn_parts hA
  obtain ⟨nm, k2⟩ := x
  have HX := Lib.hid (Ret.Blk.new w1 #[.slice x0 n0 c0, .int .i64 k2] 38)
  have hal := (Below.refl w1.heap.size w1).alloc (Nat.le_refl _) (.cells #[.slice x0 n0 c0, .int .i64 k2] 38)
  have HG := Lib.hid (kc (kc hg hb) hal); have HG1 := Lib.hid (kc (kc hg1 hb) hal)
  have HN := Lib.hid (hN.on hal); have HM := Lib.hid ((h.on hb).on hal); have HB := Lib.hid hal
  simp only at hx HN
  obtain ⟨q, hq⟩ : ∃ q, decide (nm = m) = q := ⟨_, rfl⟩
  have HQ := Lib.hid hq
  unfold isS
  dsimp only
  rw [hq]
  clear hal hN hA hg1 hg h hb hq
  have q0 := HX.out.cell 0
  have q1 := HX.out.cell 1
  have g0 := HG.out
  have g1 := HG1.out
  by_cases hk : k2 = kk
  · subst hk
    go_enter Try.func48, Try.ntmps48
    go_wp2_with fail
    refine (iEqK q HQ.out HN.out HM.out (by omega) (by omega)).mono ?_
    rintro e w2 ⟨rfl, hb2⟩
    have HB2 := Lib.hid (HB.out.trans (hb2.mono HB.out.size))
    clear hb2
    go_wp2
    go_ret
    exact ⟨by simp, HB2.out⟩
  · have hke : (k2 == kk) = false := by simpa using hk
    go_enter Try.func48, Try.ntmps48
    go_wp2
    go_ret
    exact ⟨by simp, HB.out⟩
set_option maxHeartbeats 2000000 in
theorem indexS1 (b0 : Addr) (p : Snt → Bool) (ok : Snt → Prop) (v : Value) (l : List Snt) (w : World) (z : Int) (hz : ixL p l = z) (h : kLSn.At w v l) (hl : l.length ≤ 9000000) (hp : ∀ x ∈ l, ok x) (hc : ClosK Try.prog kSn 48 #[.pointer (some b0)] p ok w) :
    Calls Try.prog 78 #[v, .func (.func 48) #[] #[.pointer (some b0)]] w fun e w' => e = .returned (.int .i64 z) ∧ Below w.heap.size w w' := by
  obtain ⟨x, n, cx, L, rfl, hn, ht, hh, hel⟩ := kLSn_at h
  have hlen : l.length = n := by rw [← ht, List.length_map]; exact hn.symm
  rw [hlen] at hl
  have hcap : n ≤ cx := by obtain ⟨x', n', cap', hv, hn', hc', -⟩ := hh.shapeN; cases hv; exact hc'
  have HN := Lib.hid hn; have HT := Lib.hid ht; have HH := Lib.hid hh; have HEL := Lib.hid hel; have HLEN := Lib.hid hlen; have HP := Lib.hid hp; have HC := Lib.hid hc; have HZ := Lib.hid hz
  clear hn h hh hc hp ht hel hlen hz
  go_enter Try.func78, Try.ntmps78
  go_wp2
  go_loopw [8] (fun iv wr => ∃ i : Nat, i ≤ n ∧ iv = .int .i64 i ∧ Hid (noL p l i) ∧ Hid (Below w.heap.size w wr)) (fun iv _ => n - (intOf iv).toNat)
  case atStart => exact ⟨0, Nat.zero_le _, rfl, Lib.hid (noL_zero _ _), Lib.hid (Below.refl _ _)⟩
  case round =>
    obtain ⟨k, hk, rfl, ha, hb⟩ := hrel
    by_cases hlt : k < n
    · have hlen := HN.out
      obtain ⟨b, off, y0, m0, d0, rfl, -, hc0, hc1, hA⟩ := kLSn_elem (HH.out.on hb.out) (fun y hy => kSn.holds_on (HEL.out y hy) hb.out) (j := k) (by omega)
      have hpt : nth l k = kSn.strip (nth L k) := by rw [← HT.out, nth_map _ (by omega)]
      have hps := HP.out (nth l k) (nth_mem (by have := HLEN.out; omega))
      rw [hpt] at hps
      obtain ⟨q, hq⟩ : ∃ q, p (kSn.strip (nth L k)) = q := ⟨_, rfl⟩
      have HCL := HC.out _ _ wr hb.out hA hps
      rw [hq] at HCL
      rw [← hpt] at hq
      replace HCL := Lib.hid HCL
      have HQ := Lib.hid hq
      clear hlen hpt hps hA hq
      go_wp2_with fail
      refine HCL.out.mono ?_
      rintro e w2 ⟨rfl, hb2⟩
      have HB2 := Lib.hid (hb.out.trans (hb2.mono hb.out.size))
      clear hb2 hc0 hc1 HCL
      cases q with
      | true =>
        have HV := Lib.hid (show z = (k : Int) from HZ.out.symm.trans (ixL_at (by have := HLEN.out; omega) ha.out HQ.out))
        go_wp2
        go_ret
        exact ⟨ret_int HV.out.symm, HB2.out⟩
      | false =>
        have HA := Lib.hid (noL_succ ha.out HQ.out)
        go_wp2
        go_roundw
        case rel => exact ⟨k + 1, by omega, by go_num, HA, HB2⟩
        case measure => simp [intOf]; omega
    · obtain rfl : k = n := by omega
      have HV := Lib.hid (show z = -1 from HZ.out.symm.trans (ixL_none (by rw [HLEN.out]; exact ha.out)))
      clear hlt
      go_wp2
      go_ret
      exact ⟨ret_int HV.out.symm, hb.out⟩
set_option maxHeartbeats 2000000 in
theorem containsS1 (b0 : Addr) (p : Snt → Bool) (ok : Snt → Prop) (v : Value) (l : List Snt) (w : World) (z : Bool) (hz : l.any p = z) (h : kLSn.At w v l) (hl : l.length ≤ 9000000) (hp : ∀ x ∈ l, ok x) (hc : ClosK Try.prog kSn 48 #[.pointer (some b0)] p ok w) :
    Calls Try.prog 47 #[v, .func (.func 48) #[] #[.pointer (some b0)]] w fun e w' => e = .returned (.bool z) ∧ Below w.heap.size w w' := by
  obtain ⟨x, n, cx, rfl, h⟩ := kLSn_shapeA h
  obtain ⟨i, hi⟩ : ∃ i, ixL p l = i := ⟨_, rfl⟩
  have hr : -1 ≤ i := by rw [← hi]; rcases ixL_lt p l with h5 | h5 <;> omega
  rw [any_ixL, hi] at hz
  have HI := Lib.hid hi; have HH := Lib.hid h; have HP := Lib.hid hp; have HC := Lib.hid hc; have HZ := Lib.hid hz
  clear hi h hp hc hz
  go_enter Try.func47, Try.ntmps47
  go_wp2_with fail
  refine (indexS1 b0 p ok _ l _ i HI.out HH.out hl HP.out HC.out).mono ?_
  rintro e w1 ⟨rfl, hb⟩
  have HB := Lib.hid hb
  clear hb
  go_wp2
  go_ret
  exact ⟨ret_bool (by rw [← HZ.out]), HB.out⟩
end Go.Proofs.Ytdaahcaafdleaaa.Row
/- IsLoop, the program. No conditions but that lengths fit. -/
namespace Go.Proofs.Ytdaahcaafdleaaa.Row
open Go.ChangeShapes Go.WideShapes Go.ChangeAt Go.RowKit Go.Instr
open Go.Shelf
attribute [local go_sem] Oper.semAt_some
set_option linter.unusedVariables false
set_option maxRecDepth 100000
theorem kW_kN {w : World} {x : Wt} {xn : Option Addr} {nn cn : Nat} {a b c : Int} (h : kW.At w (.agg #[.slice xn nn cn, .int .i64 a, .int .i64 b, .int .i64 c]) x) : kN.At w (.agg #[.slice xn nn cn]) x.1 := by
  obtain ⟨v, e, ho⟩ := kW_at h
  have e2 : v = .slice xn nn cn := by injection e with e; exact (Option.some.inj (congrArg (fun A : Array Value => A[0]?) e)).symm
  subst e2
  exact kN_of ho
theorem any_ini {l ini : List Rqt} {r : Rqt} {p : Rqt → Bool} (h : ini ++ [r] <+: l) (hr : p r = true) : l.any p = true :=
  List.any_eq_true.2 ⟨r, h.subset (by simp), hr⟩
def NoR (k : Int) (pre : List Rqt) : Prop := ∀ r ∈ pre, nnR k r = false
def HitR (k : Int) (pre : List Rqt) : Prop := ∃ ini r, pre = ini ++ [r] ∧ nnR k r = true
theorem keeps_below {W W' : World} (h : Below W.heap.size W W') : KeepsOthers W W' := ⟨h.size, fun k o hk ho => (h.block k (Array.getElem?_eq_some_iff.1 hk).1).trans hk⟩
set_option maxHeartbeats 16000000 in
theorem implIsLoop (V U T : Value) (l : List Pit) (s : List Snt) (x : Wt) (w : World) (z : Bool) (hz : loopP l s x = z) (h : kLPi.At w V l) (h2 : kLSn.At w U s) (g : kW.At w T x) (hf : FitP l) (hfs : FitS s) (hm : bulk x.1 ≤ 1200000) :
    Calls Try.prog 13 #[V, U, T] w fun e w' => e = .returned (.bool z) ∧ Below w.heap.size w w' := by
  obtain ⟨ad, len, cap, rfl, h⟩ := kLPi_shapeA h
  obtain ⟨sa, ns, cs, rfl, h2⟩ := kLSn_shapeA h2
  obtain ⟨xn, nn, cn, rfl, g⟩ := kW_shapeA g
  obtain ⟨nm, kk, hp, lf⟩ := x
  simp only at g hm ⊢
  have gN := kW_kN g
  obtain ⟨w2, e2⟩ : ∃ w2, (w.alloc (.cells #[.slice xn nn cn, .int .i64 kk, .int .i64 hp, .int .i64 lf] 33)).alloc (.cells #[.bool false] 4) = w2 := ⟨_, rfl⟩
  obtain ⟨w4, e4⟩ : ∃ w4, (w2.alloc (.cells #[.slice ad len cap] 35)).alloc (.cells #[.slice xn nn cn] 27) = w4 := ⟨_, rfl⟩
  have hz2 : w2.heap.size = w.heap.size + 2 := by rw [← e2]; simp
  have hz4 : w4.heap.size = w.heap.size + 4 := by rw [← e4]; simp [hz2]
  have b2 : Below w.heap.size w w2 := by rw [← e2]; exact ((Below.refl w.heap.size w).alloc (Nat.le_refl _) _).alloc (by simp) _
  have b4 : Below w2.heap.size w2 w4 := by rw [← e4]; exact ((Below.refl w2.heap.size w2).alloc (Nat.le_refl _) _).alloc (by simp) _
  have k0 : Ret.Blk w2 w.heap.size #[.slice xn nn cn, .int .i64 kk, .int .i64 hp, .int .i64 lf] 33 := by rw [← e2]; exact (Ret.Blk.new w _ _).on ((Below.refl _ _).alloc (Nat.le_refl _) _)
  have k1 : Ret.Box w2 (w.heap.size + 1) (.bool false) 4 := by rw [← e2]; exact Ret.Blk.new' (n := w.heap.size + 1) #[.bool false] 4 (by simp)
  have k2 : w4.cell? ⟨w.heap.size + 2, 0, none⟩ = some (.slice ad len cap) := by rw [← hz2, ← e4]; exact ((Ret.Blk.new w2 #[.slice ad len cap] 35).on ((Below.refl _ _).alloc (Nat.le_refl _) _)).cell 0
  have k3 : w4.cell? ⟨w.heap.size + 3, 0, none⟩ = some (.slice xn nn cn) := by rw [← e4]; exact (Ret.Blk.new' (w := w2.alloc (.cells #[.slice ad len cap] 35)) (n := w.heap.size + 3) #[.slice xn nn cn] 27 (by simp [hz2])).cell 0
  have b04 : Below w.heap.size w w4 := b2.trans (b4.mono (by omega))
  have HQ := Lib.hid (stopsQ 2 (by decide) (w.heap.size + 2) (w.heap.size + 2 + 1) ad len cap xn nn cn l nm w4 k2 k3 (h.on b04) (gN.on b04) hf hm)
  have HS := Lib.hid h2; have HG := Lib.hid gN; have HF := Lib.hid hfs; have HZ := Lib.hid hz
  have HZ2 := Lib.hid hz2; have HZ4 := Lib.hid hz4; have HB2 := Lib.hid b2; have HB4 := Lib.hid b4; have K0 := Lib.hid k0; have K1 := Lib.hid k1; have HB := Lib.hid b04; have HE2 := Lib.hid e2; have HE4 := Lib.hid e4
  clear h h2 g gN hf hfs hz hz2 hz4 b2 b4 k0 k1 k2 k3 b04 e2 e4
  have hmf : ∀ (fn : Fn) (first cap : Array Value) (w : World), (Instr.makeFunc fn first cap).run Try.prog w = .ok (.func fn first cap) w := fun _ _ _ _ => rfl
  refine (callsIn_wide (n := 3)).1 ?_
  refine callsIn_of_wp_marks Try.func13 rfl trivial ?_ rfl
  simp only [Try.ntmps13, List.size_toArray, List.length_cons, List.length_nil, Nat.reduceAdd, Nat.reduceSub, Array.replicate_succ, Array.replicate_zero, List.push_toArray, List.append_toArray, List.nil_append, List.cons_append]
  gi_wp2
  rw [HE2.out]
  have x0 : w2.cell? ⟨w.heap.size, 0, none⟩ = some (.slice xn nn cn) := K0.out.cell 0
  gi_wp2_with (refine ⟨trivial, ?_⟩; gi_at_call 46; refine (callsIn_wide.2 (reqOf _ _ _ _ _ _ _)).mono ?_; rintro e w' ⟨rfl, rfl⟩)
  rw [HE4.out]
  simp only [HZ2.out]
  have c0_ : w4.cell? ⟨w.heap.size, 0, none⟩ = some (.slice xn nn cn) := (K0.out.on HB4.out).cell 0
  have c1_ : w4.cell? ⟨w.heap.size, 1, none⟩ = some (.int .i64 kk) := (K0.out.on HB4.out).cell 1
  have c2_ : w4.cell? ⟨w.heap.size + 1, 0, none⟩ = some (.bool false) := (K1.out.on HB4.out).cell
  have z2_ : w4.frozen? ⟨w.heap.size + 1, 0, none⟩ = false := (K1.out.on HB4.out).frozen
  have hz4 := HZ4.out
  refine wpIn_rangeFunc_ownH rfl (by omega) (gf := 77) (lb := #[.pointer (some ⟨w.heap.size + 2, 0, none⟩), .pointer (some ⟨w.heap.size + 2 + 1, 0, none⟩)]) rfl trivial (enters_of Try.func77 (by kernel_rfl) rfl)
    HQ.out belowK_t9 (belowK_b (Nat.le_refl _)) (Below.refl _ _) (fun _ => rfl)
    (fun pre W => (W.cell? ⟨w.heap.size, 0, none⟩ = some (.slice xn nn cn) ∧ W.cell? ⟨w.heap.size, 1, none⟩ = some (.int .i64 kk) ∧ W.cell? ⟨w.heap.size + 1, 0, none⟩ = some (.bool false) ∧ W.frozen? ⟨w.heap.size + 1, 0, none⟩ = false ∧ Hid (NoR kk pre) ∧ Hid (w4.heap.size ≤ W.heap.size)) ∧ Below w.heap.size w W)
    (fun c pre W => (c = .ret ∧ Hid (HitR kk pre) ∧ W.cell? ⟨w.heap.size + 1, 0, none⟩ = some (.bool true)) ∧ Below w.heap.size w W)
    (OwnFrom.and (Own.from (fun s A B row hs hg hr => ⟨cell_kept hs.1 hg hr, cell_kept hs.2.1 hg hr, cell_kept hs.2.2.1 hg hr, (frozen_kept hs.2.2.1 hg hr).trans hs.2.2.2.1, hs.2.2.2.2.1, Lib.hid (Nat.le_trans hs.2.2.2.2.2.out hg.size)⟩) _) (ownFrom_below (Nat.le_refl _) (by omega)))
    (fun c => OwnFrom.and (Own.from (fun s A B row hs hg hr => ⟨hs.1, hs.2.1, cell_kept hs.2.2 hg hr⟩) _) (ownFrom_below (Nat.le_refl _) (by omega)))
    ⟨⟨c0_, c1_, c2_, z2_, Lib.hid (fun r hr => by simp at hr), Lib.hid (Nat.le_refl _)⟩, HB.out⟩
    (fun y a' W => ∃ Bx, w4.heap.size ≤ Bx ∧ Ret.Blk W Bx #[.int .i64 y.1, .int .i64 y.2.1, .int .i64 y.2.2] 80 ∧ a' = { tmps := #[.slice ad len cap, .slice sa ns cs, .agg #[.slice xn nn cn, .int .i64 kk, .int .i64 hp, .int .i64 lf], undef, undef, .pointer (some ⟨w.heap.size, 0, none⟩), .pointer (some ⟨w.heap.size + 1, 0, none⟩), .pointer (some ⟨Bx, 0, none⟩), .slice ad len cap, .pointer (some ⟨w.heap.size, 0, none⟩), .agg #[.slice xn nn cn], .func (.func 77) #[] #[.pointer (some ⟨w.heap.size + 2, 0, none⟩), .pointer (some ⟨w.heap.size + 2 + 1, 0, none⟩)], .agg #[.int .i64 y.1, .int .i64 y.2.1, .int .i64 y.2.2], undef, undef, undef, undef, undef, undef, undef, undef], defers := [] })
    (fun y a' _ X Y row hs hg hr => by obtain ⟨Bx, h1, h2, h3⟩ := hs; exact ⟨Bx, h1, blk_own () X Y row h2 hg (fun r e => (hr r e).2), h3⟩)
    ?assign ?body ?done ?stop
  case assign =>
    rintro l pre y W K ⟨⟨c0, c1, c2, z2, hno, hsz⟩, hB⟩ hK
    have hal := (Below.refl W.heap.size W).alloc (Nat.le_refl _) (.cells #[.int .i64 y.1, .int .i64 y.2.1, .int .i64 y.2.2] 80)
    gi_wp2
    exact hK _ _ ((KeepsOthers.alloc _ _).from _) ((Below.refl _ W).alloc hsz.out _) ⟨⟨kc c0 hal, kc c1 hal, kc c2 hal, (hal.frozen (Ret.cell_lt c2)).trans z2, hno, Lib.hid (by have := hsz.out; simp; omega)⟩, hB.alloc hB.size _⟩ ⟨W.heap.size, hsz.out, Ret.Blk.new W _ _, rfl⟩
  case body =>
    clear hz4
    rintro q pre ⟨f, u, e⟩ a' W hl - ⟨⟨c0, c1, c2, z2, hno, hsz⟩, hB⟩ ⟨Bx, hBx, bX, rfl⟩ hlt
    have x1 : W.cell? ⟨Bx, 1, none⟩ = some (.int .i64 u) := bX.cell 1
    by_cases hk : u = kk
    · subst hk
      have HX0 := Lib.hid (show HitR u (pre ++ [((f, u, e) : Rqt)]) from ⟨pre, _, rfl, by simp [nnR]⟩)
      gi_wp2
      exact ⟨(KeepsOthers.setCell _ _ _).from _, ⟨rfl, HX0, (World.cell?_setCell_same' _ _ _ (by rw [c2]; rfl)).trans (by simp)⟩, hB.setCell (p := ⟨w.heap.size + 1, 0, none⟩) (by simp) _⟩
    · have hke : (u == kk) = false := by simpa using hk
      have HN2 := Lib.hid (show NoR kk (pre ++ [((f, u, e) : Rqt)]) from fun r hr => by
        rcases List.mem_append.1 hr with h5 | h5
        · exact hno.out r h5
        · rw [List.mem_singleton.1 h5]; simpa [nnR] using hk)
      gi_wp2
      exact ⟨(KeepsOthers.refl _).from _, Below.refl _ _, ⟨c0, c1, c2, z2, HN2, hsz⟩, hB⟩
  case done =>
    rintro D ys W hD rfl ⟨⟨c0, c1, c2, z2, hno, hsz⟩, hB⟩ hK
    obtain ⟨r, hr⟩ : ∃ r, s.any (isS nm kk) = r := ⟨_, rfl⟩
    have HC := Lib.hid (containsS1 ⟨w.heap.size, 0, none⟩ (isS nm kk) (fun x => bulk x.1 ≤ 1200000) _ s W r hr (HS.out.on hB) (Nat.le_trans HF.out.len (by decide)) HF.out.each (clos_lp w.heap.size nm kk W c0 c1 (HG.out.on hB) hm))
    have hzr : z = r := by
      rw [← HZ.out, ← hr]
      unfold loopP
      have h5 : l.any (loopR nm kk) = false := by rw [← reqsOf_any]; exact List.any_eq_false.2 fun r hr => by rw [hno.out r hr]; simp
      show (l.any (loopR nm kk) || s.any (isS nm kk)) = _
      rw [h5, Bool.false_or]
    subst hzr
    have C2 := Lib.hid c2; have Z2 := Lib.hid z2; have HBW := Lib.hid hB
    clear c0 c1 c2 z2 hno hB hr
    gi_wp2_with (refine ⟨trivial, ?_⟩; gi_at_call 47; refine (callsIn_wide.2 HC.out).mono ?_; rintro e w5 ⟨rfl, hb5⟩; have c2 := kc C2.out hb5; have z2 := (hb5.frozen (Ret.cell_lt C2.out)).trans Z2.out)
    have hK5 := (keeps_below hb5).same D _ hK rfl
    have hK' := (KeepsOthers.setCell w5 ⟨w.heap.size + 1, 0, none⟩ (.bool z)).same D _ hK5 rfl
    refine ⟨by simp, .inl ⟨_, _, rfl, run_takeDeferred hK', ?_⟩⟩
    have hc5 := cell_kept (World.cell?_setCell_same' w5 ⟨w.heap.size + 1, 0, none⟩ (.bool z) (by rw [c2]; rfl)) (grownBy_putObj' _ D (.deferred none)) (fun r e => by cases e; exact ⟨_, hK', rfl⟩)
    refine ⟨.bool z, ?_, rfl, ((HBW.out.trans (hb5.mono HBW.out.size)).setCell (p := ⟨w.heap.size + 1, 0, none⟩) (by simp) _).trans (belowK_b (w := w) (Nat.le_refl _) _ D _ _ (by omega) hK' rfl rfl)⟩
    simp [results, Try.f13, go_sem, hc5]
  case stop =>
    rintro D c pre W hD hpre ⟨⟨rfl, hex, c2⟩, hB⟩ hK
    obtain ⟨ini, r, rfl, hr⟩ := hex.out
    have hF : true = z := by
      rw [← HZ.out]
      unfold loopP
      have h5 : l.any (loopR nm kk) = true := by rw [← reqsOf_any]; exact any_ini hpre hr
      show _ = (l.any (loopR nm kk) || s.any (isS nm kk))
      rw [h5, Bool.true_or]
    rw [hF] at c2
    clear hF hr hpre hex
    gi_wp2
    refine ⟨by simp, .inl ⟨_, _, rfl, run_takeDeferred hK, ?_⟩⟩
    have hc5 := cell_kept c2 (grownBy_putObj' _ D (.deferred none)) (fun r e => by cases e; exact ⟨_, hK, rfl⟩)
    refine ⟨.bool z, ?_, rfl, hB.trans (belowK_b (w := w) (Nat.le_refl _) W D _ _ (by omega) hK rfl rfl)⟩
    simp [results, Try.f13, go_sem, hc5]
end Go.Proofs.Ytdaahcaafdleaaa.Row
/- FnSeens: laws.sameSeen over equal lists; chapter 13's contracts in the law's words; what the answer says. No conditions but that lengths fit. -/
namespace Go.Proofs.Ytdaahcaafdleaaa.Row
open Go.ChangeShapes Go.WideShapes Go.ChangeAt Go.RowKit Go.Instr
set_option linter.unusedVariables false
set_option maxRecDepth 100000
theorem sameNmS {w : World} {V U : Value} {l : List ByteArray} (h : kN.At w V l) (g : kN.At w U l) (hl : l.length ≤ 9000000) :
    Calls Try.prog 14 #[V, U] w fun e w' => e = .returned (.bool true) ∧ Below w.heap.size w w' := by
  obtain ⟨v, rfl, h9⟩ := kN_at h
  obtain ⟨u, rfl, g9⟩ := kN_at g
  have h1 := sameName v u l l w h9 g9 (by omega) (by omega)
  rwa [eqB_true rfl] at h1
theorem kSn_name {w : World} {x : Snt} {xa : Option Addr} {na ca : Nat} {u1 : Int} (h : kSn.At w (.agg #[.slice xa na ca, .int .i64 u1]) x) : kN.At w (.agg #[.slice xa na ca]) x.1 := by
  obtain ⟨a, b, c, hV, h0⟩ := kSn_at h
  injection hV with hV
  have e1 := congrArg (fun z : Array Value => z[0]?) hV
  simp at e1
  obtain ⟨rfl, rfl, rfl⟩ := e1
  exact h0
set_option maxHeartbeats 4000000 in
theorem sameSeenB (V U : Value) (l : List Snt) (w : World) (h : kLSn.At w V l) (g : kLSn.At w U l) (hl : l.length ≤ 9000000) (hsl : ∀ x ∈ l, x.1.length ≤ 9000000) :
    Calls Try.prog 11 #[V, U] w fun e w' => e = .returned (.bool true) ∧ Below w.heap.size w w' := by
  obtain ⟨x, n, cx, L, rfl, hn, hL, hh, hel⟩ := kLSn_at h
  obtain ⟨y, n2, cy, M, rfl, hn2, hM, hg, hem⟩ := kLSn_at g
  have hnl : l.length = n := by rw [← hL, List.length_map]; exact hn.symm
  have hnm : l.length = n2 := by rw [← hM, List.length_map]; exact hn2.symm
  obtain rfl : n = n2 := by omega
  rw [hnl] at hl
  have HN := Lib.hid hn; have HM := Lib.hid hn2; have HNL := Lib.hid hnl
  have HH := Lib.hid hh; have HG := Lib.hid hg; have HEL := Lib.hid hel; have HEM := Lib.hid hem
  have HTL := Lib.hid hL; have HTM := Lib.hid hM; have HSL := Lib.hid hsl
  have htest : (((n : Nat) : Int) != ((n : Nat) : Int)) = false := by simp
  clear hn h hh g hg hn2 hL hM hsl hel hem hnl hnm
  go_enter Try.func11, Try.ntmps11
  go_wp2
  go_loopw [5] (fun i wr => ∃ k : Nat, k ≤ n ∧ i = .int .i64 k ∧ Hid (Below w.heap.size w wr)) (fun i _ => n - (intOf i).toNat)
  case atStart => exact ⟨0, Nat.zero_le _, rfl, Lib.hid (Below.refl _ _)⟩
  case round =>
    obtain ⟨k, hk, rfl, hb⟩ := hrel
    by_cases hlt : k < n
    · have hlen := HN.out
      have hlen2 := HM.out
      obtain ⟨b, off, x0, n0, c0, rfl, -, hc0, hc1, hnm⟩ := kLSn_elem (HH.out.on hb.out) (fun y hy => kSn.holds_on (HEL.out y hy) hb.out) (j := k) (by omega)
      obtain ⟨b', off', xy0, ny0, cy0, rfl, -, hd0, hd1, hnm'⟩ := kLSn_elem (HG.out.on hb.out) (fun y hy => kSn.holds_on (HEM.out y hy) hb.out) (j := k) (by omega)
      have e1 : kSn.strip (nth L k) = nth l k := by rw [← HTL.out, nth_map _ (by omega)]
      have e2 : kSn.strip (nth M k) = nth l k := by rw [← HTM.out, nth_map _ (by omega)]
      have hl1 := HSL.out (nth l k) (nth_mem (by have := HNL.out; omega))
      rw [e1] at hnm hc1; rw [e2] at hnm' hd1
      obtain ⟨vv, hvv⟩ : ∃ z, (nth l k).2 = z := ⟨_, rfl⟩
      have HNM := Lib.hid (kSn_name hnm); have HNM' := Lib.hid (kSn_name hnm')
      rw [hvv] at hc1 hd1
      have HL := Lib.hid hl1
      have HC0 := Lib.hid hc0; have HD0 := Lib.hid hd0; have HC1 := Lib.hid hc1; have HD1 := Lib.hid hd1
      have hv : (vv != vv) = false := by simp
      clear hlen hlen2 e1 e2 hc0 hd0 hc1 hd1 hnm hnm' hl1 hvv
      go_wp2_with fail
      go_region_held3 (fun w' => w'.cell? ⟨b, off + k * 2, none⟩ = some (.slice x0 n0 c0) ∧ w'.cell? ⟨b, off + k * 2 + 1, none⟩ = some (.int .i64 vv) ∧ w'.cell? ⟨b', off' + k * 2, none⟩ = some (.slice xy0 ny0 cy0) ∧ w'.cell? ⟨b', off' + k * 2 + 1, none⟩ = some (.int .i64 vv) ∧ Below w.heap.size w w') (first | exact ⟨kc HC0.out ((Below.refl _ _).drew), kc HC1.out ((Below.refl _ _).drew), kc HD0.out ((Below.refl _ _).drew), kc HD1.out ((Below.refl _ _).drew), hb.out.trans (Below.mono ((Below.refl _ _).drew) hb.out.size)⟩ | exact ⟨kc HC0.out (hb1.mono (Nat.le_refl _)), kc HC1.out (hb1.mono (Nat.le_refl _)), kc HD0.out (hb1.mono (Nat.le_refl _)), kc HD1.out (hb1.mono (Nat.le_refl _)), hb.out.trans (Below.mono (hb1.mono (Nat.le_refl _)) hb.out.size)⟩ | exact ⟨kc HC0.out ((Below.refl _ _).drew.trans (hb1.mono (Nat.le_refl _))), kc HC1.out ((Below.refl _ _).drew.trans (hb1.mono (Nat.le_refl _))), kc HD0.out ((Below.refl _ _).drew.trans (hb1.mono (Nat.le_refl _))), kc HD1.out ((Below.refl _ _).drew.trans (hb1.mono (Nat.le_refl _))), hb.out.trans (Below.mono ((Below.refl _ _).drew.trans (hb1.mono (Nat.le_refl _))) hb.out.size)⟩) ((go_at_call 14; refine (sameNmS (HNM.out.on (Below.refl _ _).drew) (HNM'.out.on (Below.refl _ _).drew) HL.out).mono ?_; rintro e w1 ⟨rfl, hb1⟩))
      all_goals
        have HB2 := Lib.hid (hb.out.drew.trans (hb1.mono hb.out.size))
        clear hb1
        go_wp2_with fail
        go_roundw
        case rel => exact ⟨k + 1, by omega, by go_num, HB2⟩
        case measure => simp [intOf]; omega
    · obtain rfl : k = n := by omega
      clear hlt
      go_wp2
      go_ret
      exact ⟨rfl, hb.out⟩
theorem seen_last {x : List Snt} {m : List ByteArray} {k : Int} : ∃ pre, seenS x m k = pre ++ [(m, k)] := by
  unfold seenS
  split
  · rename_i h
    rw [List.length_append, List.length_singleton] at h
    exact ⟨x.drop 1, by rw [List.drop_append_of_le_length (by omega)]⟩
  · exact ⟨x, rfl⟩
theorem seen_sm {x : List Snt} {m : List ByteArray} {k : Int} (h : smS9 24 x) (hm : bulk m ≤ 1000) (h0 : 0 ≤ k) (h1 : k ≤ 100) : smS9 24 (seenS x m k) := by
  have h2 := smS9_snoc h hm (a := k) (by omega) (by omega)
  have h3 := h.1
  unfold seenS
  split
  · rename_i h4
    exact ⟨by rw [List.length_drop, List.length_append, List.length_singleton]; omega, fun e he => h2.2 e (List.mem_of_mem_drop he)⟩
  · rename_i h4
    exact ⟨by omega, h2.2⟩
theorem seen_loop {x : List Snt} {m : List ByteArray} {k a b : Int} : loopP [] (seenS x m k) (m, k, a, b) = true := by
  obtain ⟨pre, e⟩ := seen_last (x := x) (m := m) (k := k)
  unfold loopP
  rw [e, List.any_append]
  simp [isS]
theorem sm_len {x : List Snt} (h : smS9 24 x) : x.length ≤ 9000000 ∧ ∀ y ∈ x, y.1.length ≤ 9000000 := by
  refine ⟨by have := h.1; omega, fun y hy => ?_⟩
  have h1 := (h.2 y hy).1
  have h2 := bulk_len y.1
  omega
section
variable {w : World} {V U T : Value} {x : List Snt} {m : List ByteArray} {k : Int}
theorem iSeV (z : List Snt) (hz : seenS x m k = z) (h : kLSn.At w V x) (g : kN.At w U m) (hk : smS9 24 x) (hm : bulk m ≤ 1000) :
    Calls Try.prog 10 #[V, U, .int .i64 k] w fun e w' => ∃ U, e = .returned U ∧ kLSn.At w' U z ∧ Below w.heap.size w w' :=
  (implAddSeenNonce V U x m k w h g (by have := hk.wt (by decide); omega)).mono fun e w' ⟨U, h1, h2, h3⟩ => ⟨U, h1, hz ▸ h2.at, h3⟩
theorem sSeV (z : List Snt) (hz : seenS x m k = z) (h : kLSn.At w V x) (g : kN.At w U m) (hk : smS9 24 x) (hm : bulk m ≤ 1000) :
    Calls Try.prog 12 #[V, U, .int .i64 k] w fun e w' => ∃ U, e = .returned U ∧ kLSn.At w' U z ∧ Below w.heap.size w w' :=
  (specAddSeenNonce V U x m k w h g (by have := hk.wt (by decide); omega)).mono fun e w' ⟨U, h1, h2, h3⟩ => ⟨U, h1, hz ▸ h2, h3⟩
theorem sameSeV (h : kLSn.At w V x) (g : kLSn.At w U x) (hk : smS9 24 x) :
    Calls Try.prog 11 #[V, U] w fun e w' => e = .returned (.bool true) ∧ Below w.heap.size w w' := sameSeenB V U x w h g (sm_len hk).1 (sm_len hk).2
theorem iLoV (wt : Wt) (hz : loopP [] x wt = true) (h : kLPi.At w V []) (h2 : kLSn.At w U x) (g : kW.At w T wt) (hk : smS9 24 x) (hm : bulk wt.1 ≤ 1000) :
    Calls Try.prog 13 #[V, U, T] w fun e w' => e = .returned (.bool true) ∧ Below w.heap.size w w' :=
  implIsLoop V U T [] x wt w true hz h h2 g (by unfold FitP; decide) (hk.fit (by decide)) (Nat.le_trans hm (by decide))
end
theorem last_elem {w : World} {ad : Option Addr} {n cap : Nat} {x pre : List Snt} {m : List ByteArray} {k : Int} (h : kLSn.At w (.slice ad n cap) x) (e : x = pre ++ [(m, k)]) :
    ∃ (b off k6 : Nat) (x0 : Option Addr) (n0 c0 : Nat), ad = some ⟨b, off, none⟩ ∧ n = k6 + 1 ∧ n ≤ cap ∧ w.cell? ⟨b, off + k6 * 2, none⟩ = some (.slice x0 n0 c0) ∧ kN.At w (.agg #[.slice x0 n0 c0]) m := by
  obtain ⟨ad', n', cap', L, hV, hn, hL, hh, hel⟩ := kLSn_at h
  cases hV
  have hlen : L.length = pre.length + 1 := by have := congrArg List.length hL; rw [List.length_map, e, List.length_append, List.length_singleton] at this; exact this
  obtain ⟨b, off, x0, n0, c0, had, -, hc0, -, hA⟩ := kLSn_elem hh hel (j := pre.length) (by omega)
  have e1 : kSn.strip (nth L pre.length) = (m, k) := by
    rw [← nth_map kSn.strip (by omega), hL, e, nth_eq (by simp)]
    simp
  rw [e1] at hA
  have hcap : n ≤ cap := by obtain ⟨x', n', cap', hv, hn', hc', -⟩ := hh.shapeN; cases hv; exact hc'
  exact ⟨b, off, pre.length, x0, n0, c0, had, by omega, hcap, hc0, kSn_name hA⟩
theorem want_of {w : World} {x : Option Addr} {n c : Nat} {k : Int} {m : List ByteArray} (h : kN.At w (.agg #[.slice x n c]) m) : kW.At w (.agg #[.slice x n c, .int .i64 k, .int .i64 0, .int .i64 1]) (m, k, 0, 1) := by
  obtain ⟨v, e, h9⟩ := kN_at h
  injection e with e
  have e1 := congrArg (fun z : Array Value => z[0]?) e
  simp at e1
  subst e1
  exact kW_of (x := (m, k, 0, 1)) h9
theorem lpi_nil {w : World} {g : Nat} (hg : g = w.heap.size) : kLPi.At (w.alloc (.cells #[] 112)) (.slice (some ⟨g, 0, none⟩) 0 0) [] := by
  subst hg
  exact ⟨⟨some ⟨w.heap.size, 0, none⟩, 0, 0, []⟩, rfl, rfl, (ownK_empty kPi.cells 3 112 w).holds, fun y hy => by cases hy⟩
end Go.Proofs.Ytdaahcaafdleaaa.Row
