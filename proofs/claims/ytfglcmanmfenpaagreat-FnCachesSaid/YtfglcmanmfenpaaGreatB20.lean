/- Contracts and mathematics, joined: CacheN, Draw, DrawOne, DrawW, DrawName. No conditions but those that each states. -/
import Derived.WalkKit
import Derived.Deep.RegionHeld3
import Derived.Test.YtfglcmanmfenpaaGreatB14
import Derived.Test.YtfglcmanmfenpaaGreatRows
import Derived.Test.YtfglcmanmfenpaaGreatB1
import Derived.Test.YtfglcmanmfenpaaGreatB3
import Derived.ProofKit
import Derived.WalkLawsBesides
import Derived.Lib.Hide
import Derived.LoopTactic
import Derived.Below
import Derived.WalkSmall
import Derived.Deep.QuietTactic
import Derived.BigQuiet
import Derived.Lib.SmallJoins
import Derived.OwnWalk
import Derived.Test.YtfglcmanmfenpaaGreatB4
/- CachedNames, model and program. No conditions but that lengths fit. -/
namespace Go.Proofs.YtfglcmanmfenpaaGreat.Row
open Go.ChangeShapes Go.WideShapes Go.ChangeAt Go.RowKit Go.Instr
set_option linter.unusedVariables false
set_option maxRecDepth 100000
theorem one_nn {W : World} {m1 : Rw ByteArray} {g : Nat} {a : Value} (hd : kNn.cells m1 = [a]) (hg : g = W.heap.size) : HoldsK kNn.cells 1 (W.alloc (.cells #[a] 29)) (.slice (some ⟨g, 0, none⟩) 1 1) [m1] := by
  subst hg
  have h := holdsK_one szNn_cells 29 W m1
  rw [hd] at h
  exact h
theorem kN_split {B E : Nat} {w : World} {V : Value} {x : List ByteArray} (h : kN.In B E w V x) : ∃ (m1 : Rw ByteArray) (ya : Option Addr) (ma da : Nat), V = .agg #[.slice ya ma da] ∧ kNn.strip m1 = x ∧ kNn.cells m1 = [.slice ya ma da] ∧ kNn.Own B E w m1 := by
  obtain ⟨m1, rfl, rfl, ho⟩ := h.split
  obtain ⟨ya, ma, da, e, -⟩ := kN_shapeA (Kd.at_of (k := kN) ho.holds)
  exact ⟨m1, ya, ma, da, e, rfl, by injection e with e; exact congrArg Array.toList e, ho⟩
theorem nn_grow {B : Nat} {wr w1 W w4 : World} {r : Rw Nnm} {m1 : Nnm} {x4 : Option Addr} {n4 c4 : Nat} (h : kLNn.Own B wr.heap.size wr r) (hb1 : Below wr.heap.size wr w1) (hm : kNn.Own wr.heap.size w1.heap.size w1 m1) (hbW : Below w1.heap.size w1 W)
    (ho : OwnK 29 kNn.cells 1 B w4 (.slice x4 n4 c4) (r.els ++ [m1])) (hg : W.grownBy w4 r.v.ownBlock) (hB : B ≤ wr.heap.size) : kLNn.Own B w4.heap.size w4 ⟨x4, n4, c4, r.els ++ [m1]⟩ :=
  Kd.push_later noRow_kN ((h.on hb1).on hbW) (hm.on hbW) hB ho hg
set_option maxHeartbeats 8000000 in
theorem specCachedNames (V : Value) (x : Cnt) (w : World) (h : kCn.At w V x) (hp : FitC x) :
    Calls Tryz.prog 25 #[V] w fun e w' => ∃ U, e = .returned U ∧ kLNn.In w.heap.size w'.heap.size w' U (namesC x) ∧ Below w.heap.size w w' := by
  obtain ⟨x1_0, n1_0, c1_0, rfl, g1⟩ := kCn_at h
  clear h
  obtain ⟨cc, l⟩ := x
  have hfit := hp
  obtain ⟨hl, hp7⟩ := hp.fields
  clear hp
  have hp := hp7
  clear hp7
  dsimp only at g1 hl hp ⊢
  have b0 := (Below.refl w.heap.size w).alloc (Nat.le_refl _) (.cells #[.int .i64 cc, .slice x1_0 n1_0 c1_0] 26)
  obtain ⟨x, n, cx, L, e9, hn, ht, hh, hel⟩ := kLCe_at g1
  cases e9
  have hlen : l.length = n1_0 := by rw [← ht, List.length_map]; exact hn.symm
  rw [hlen] at hl
  have hcap : n1_0 ≤ c1_0 := by obtain ⟨x', n', cap', hv, hn', hc', -⟩ := hh.shapeN; cases hv; exact hc'
  have HN := Lib.hid hn; have HT := Lib.hid ht; have HH := Lib.hid hh; have HEL := Lib.hid hel; have HLEN := Lib.hid hlen; have HP := Lib.hid hp
  have HNC : Hid (namesC (cc, l) = l.map fun e => e.1.1) := Lib.hid rfl
  clear hn ht hh hel hlen hp g1 hfit
  have hown := ownK_empty kNn.cells 1 29 (w.alloc (.cells #[.int .i64 cc, .slice x1_0 n1_0 c1_0] 26))
  have hbe := (Below.refl (w.alloc (.cells #[.int .i64 cc, .slice x1_0 n1_0 c1_0] 26)).heap.size (w.alloc (.cells #[.int .i64 cc, .slice x1_0 n1_0 c1_0] 26))).alloc (Nat.le_refl _) (.cells #[] 29)
  have HX := Lib.hid ((Ret.Blk.new w #[.int .i64 cc, .slice x1_0 n1_0 c1_0] 26).on hbe); have HB := Lib.hid (b0.trans (hbe.mono b0.size))
  rw [World.size_alloc] at hown
  have HO := Lib.hid (show kLNn.Own (w.heap.size + 1) ((w.alloc (.cells #[.int .i64 cc, .slice x1_0 n1_0 c1_0] 26)).alloc (.cells #[] 29)).heap.size _ ⟨some ⟨w.heap.size + 1, 0, none⟩, 0, 0, []⟩ from Kd.own_row hown rfl)
  have HS : Hid (w.heap.size + 1 ≤ ((w.alloc (.cells #[.int .i64 cc, .slice x1_0 n1_0 c1_0] 26)).alloc (.cells #[] 29)).heap.size) := Lib.hid (by simp)
  clear hown hbe b0
  go_enter Tryz.func25, Tryz.ntmps25
  go_wp2
  go_loopw [3, 4] (fun uv iv wr => ∃ k : Nat, k ≤ n1_0 ∧ iv = .int .i64 k ∧ ∃ xu nu cu Lu, uv = .slice xu nu cu ∧ Hid (Lu.length = k) ∧ Hid (Lu.map kNn.strip = (l.take k).map fun e => e.1.1) ∧ Hid (kLNn.Own (w.heap.size + 1) wr.heap.size wr ⟨xu, nu, cu, Lu⟩) ∧ Hid (Ret.Blk wr w.heap.size #[.int .i64 cc, .slice x1_0 n1_0 c1_0] 26) ∧ Hid (Below w.heap.size w wr) ∧ Hid (w.heap.size + 1 ≤ wr.heap.size)) (fun _ iv _ => n1_0 - (intOf iv).toNat)
  case atStart => exact ⟨0, Nat.zero_le _, rfl, some ⟨w.heap.size + 1, 0, none⟩, 0, 0, [], rfl, Lib.hid rfl, Lib.hid (by simp), HO, HX, HB, HS⟩
  case round =>
    clear HO HX HB HS
    obtain ⟨k, hk, rfl, xu, nu, cu, Lu, rfl, hM, hst, ho, hx, hb, hsz⟩ := hrel
    have q1 : wr.cell? ⟨w.heap.size, 1, none⟩ = some (.slice x1_0 n1_0 c1_0) := hx.out.cell 1
    by_cases hlt : k < n1_0
    · have hlen := HN.out
      obtain ⟨b, off, y0, m0, d0, y1, m1, d1, y2, m2, d2, rfl, -, hc0, hc1, hc2, hc3, hc4, hc5, hA⟩ := kLCe_elem (HH.out.on hb.out) (fun y hy => kCe.holds_on (HEL.out y hy) hb.out) (j := k) (by omega)
      have hpt : nth l k = kCe.strip (nth L k) := by rw [← HT.out, nth_map _ (by omega)]
      have hps := HP.out (nth l k) (nth_mem (by have := HLEN.out; omega))
      rw [← hpt] at hA hc3 hc4 hc5
      obtain ⟨hD, hNM⟩ := kCe_parts hA
      have HA := Lib.hid hA; have HD := Lib.hid hD; have HNM := Lib.hid hNM; have HPS := Lib.hid hps; have HPD := Lib.hid (show wtDz (nth l k).1 ≤ 1200000 from hps); have HPN := Lib.hid (show bulk (nth l k).1.1 ≤ 1200000 from (wtDz_lens _ hps).1)
      have H0 := Lib.hid hc0; have H1 := Lib.hid hc1; have H2 := Lib.hid hc2; have H3 := Lib.hid hc3; have H4 := Lib.hid hc4; have H5 := Lib.hid hc5
      clear hlen hpt hps hA hD hNM
      go_wp2_with fail
      refine (sCpyN HNM.out (Nat.le_trans HPN.out (by decide))).mono ?_
      rintro e w5 ⟨U, rfl, hi5, hb5⟩
      obtain ⟨m5, za, na, ea, rfl, hs5, hd5, ho5⟩ := kN_split hi5
      have hal5 := (Below.refl w5.heap.size w5).alloc (Nat.le_refl _) (.cells #[.slice za na ea] 29)
      have hbl := hal5.alloc hal5.size (.cells #[.slice za na ea] 29)
      have HSO := Lib.hid (one_nn (W := w5.alloc (.cells #[.slice za na ea] 29)) (g := w5.heap.size + 1) hd5 (by simp))
      have HOA := Lib.hid (show OwnK 29 kNn.cells 1 (w.heap.size + 1) _ (.slice xu nu cu) Lu from ((ho.out.on hb5).on hbl).1.1)
      have HB5 := Lib.hid hb5; have HI5 := Lib.hid ho5; have HBL := Lib.hid hbl; have HS5 := Lib.hid hs5
      have HLM := Lib.hid (show (Lu.length + 1) * 24 ≤ 140737488355328 by have := hM.out; omega)
      have HLX := Lib.hid (show Lu.length + 1 ≤ maxLen by have := hM.out; unfold maxLen; omega)
      have HB3 := Lib.hid (Nat.le_trans hsz.out (Nat.le_trans hb5.size hbl.size))
      have HXL := Lib.hid ((hx.out.on hb5).on hbl); have HBC := Lib.hid (hb.out.trans ((hb5.trans (hbl.mono hb5.size)).mono hb.out.size))
      clear hi5 ho5 hs5 hd5 hb5 hbl hal5 hc0 hc1 hc2 hc3 hc4 hc5 q1
      go_wp2_with (at_builtin; refine wpList_appK kindNn (B := w.heap.size + 1) (l := Lu) (m := [m5]) rfl _ _ rfl Tryz.underlying50 rfl rfl HOA.out HSO.out HLM.out HLX.out HB3.out ?_)
      intro v6 w6 ho6 hg6
      obtain ⟨x6, n6, c6, rfl, -, -, ho6⟩ := ho6.shapeN
      have HO6 := Lib.hid (nn_grow ho.out HB5.out HI5.out HBL.out ho6 hg6 hsz.out)
      have HX6 := Lib.hid (HXL.out.grown hg6 (fun e => by have := (HOA.out.lt _ e.symm).1; omega))
      have HB6 := Lib.hid (HBC.out.grown hg6 HBC.out.size (fun g hg => by have := (HOA.out.lt g hg).1; omega))
      have HZ6 := Lib.hid (Nat.le_trans HB3.out hg6.size)
      have HST := Lib.hid (show (Lu ++ [m5]).map kNn.strip = (l.take (k + 1)).map fun e => e.1.1 by
        rw [List.map_append, hst.out, take_nx (by have := HLEN.out; omega), List.map_append]
        show _ ++ [kNn.strip m5] = _
        rw [HS5.out]; rfl)
      clear ho6 hg6
      go_wp2_with fail
      go_roundw
      case rel => exact ⟨k + 1, by omega, by go_num, x6, n6, c6, Lu ++ [m5], rfl, Lib.hid (by simp [hM.out]), HST, HO6, HX6, HB6, HZ6⟩
      case measure => simp [intOf]; omega
    · obtain rfl : k = n1_0 := by omega
      clear hlt
      have HRES := Lib.hid (show Lu.map kNn.strip = namesC (cc, l) by rw [hst.out, HNC.out, List.take_of_length_le (by rw [HLEN.out]; exact Nat.le_refl _)])
      go_wp2
      go_ret
      refine ⟨_, rfl, ?_, hb.out⟩
      have h9 := (ho.out.mono (Nat.le_succ _) (Nat.le_refl _)).in
      rw [show kLNn.strip ⟨xu, nu, cu, Lu⟩ = Lu.map kNn.strip from rfl, HRES.out] at h9
      exact h9
set_option maxHeartbeats 8000000 in
theorem implCachedNames (V : Value) (x : Cnt) (w : World) (h : kCn.At w V x) (hp : FitC x) :
    Calls Tryz.prog 24 #[V] w fun e w' => ∃ U, e = .returned U ∧ kLNn.In w.heap.size w'.heap.size w' U (namesC x) ∧ Below w.heap.size w w' := by
  obtain ⟨x1_0, n1_0, c1_0, rfl, g1⟩ := kCn_at h
  clear h
  obtain ⟨cc, l⟩ := x
  have hfit := hp
  obtain ⟨hl, hp7⟩ := hp.fields
  clear hp
  have hp := hp7
  clear hp7
  dsimp only at g1 hl hp ⊢
  have b0 := (Below.refl w.heap.size w).alloc (Nat.le_refl _) (.cells #[.int .i64 cc, .slice x1_0 n1_0 c1_0] 26)
  obtain ⟨x, n, cx, L, e9, hn, ht, hh, hel⟩ := kLCe_at g1
  cases e9
  have hlen : l.length = n1_0 := by rw [← ht, List.length_map]; exact hn.symm
  rw [hlen] at hl
  have hcap : n1_0 ≤ c1_0 := by obtain ⟨x', n', cap', hv, hn', hc', -⟩ := hh.shapeN; cases hv; exact hc'
  have HN := Lib.hid hn; have HT := Lib.hid ht; have HH := Lib.hid hh; have HEL := Lib.hid hel; have HLEN := Lib.hid hlen; have HP := Lib.hid hp
  have HNC : Hid (namesC (cc, l) = l.map fun e => e.1.1) := Lib.hid rfl
  clear hn ht hh hel hlen hp g1 hfit
  obtain ⟨i0, hi, hz0, hz1, hz2⟩ := info_parts kindNn.elem
  have HI := Lib.hid hi; have HZ0 := Lib.hid hz0; have HZ1 := Lib.hid hz1; have HZ2 := Lib.hid hz2
  have HX0 := Lib.hid (Ret.Blk.new w #[.int .i64 cc, .slice x1_0 n1_0 c1_0] 26); have HB0 := Lib.hid b0
  have hs0 : (w.alloc (.cells #[.int .i64 cc, .slice x1_0 n1_0 c1_0] 26)).heap.size = w.heap.size + 1 := by simp
  have HS0 := Lib.hid hs0
  have q1 : (w.alloc (.cells #[.int .i64 cc, .slice x1_0 n1_0 c1_0] 26)).cell? ⟨w.heap.size, 1, none⟩ = some (.slice x1_0 n1_0 c1_0) := HX0.out.cell 1
  clear b0 hi hz0 hz1 hz2 hs0
  go_enter Tryz.func24, Tryz.ntmps24
  go_wp2_with (at_make; refine wpList_make_own _ rfl _ _ 50 rfl (w.heap.size + 1) 29 i0 (.agg #[.slice none 0 0]) 1 Tryz.underlying50 HI.out HZ0.out HZ1.out _ _ _ n1_0 rfl rfl rfl (by rw [HZ2.out]; omega) (by unfold maxLen; omega) (by rw [HS0.out]; exact Nat.le_refl _) ?_)
  intro w9 hown hgrow
  have HX := Lib.hid (HX0.out.grown hgrow (by simp)); have HB := Lib.hid (HB0.out.grown hgrow HB0.out.size (fun g hg => by cases hg))
  have HO := Lib.hid (show kLNn.Own (w.heap.size + 1) w9.heap.size w9 ⟨some ⟨w.heap.size + 1, 0, none⟩, 0, n1_0, []⟩ from Kd.own_row hown rfl)
  have HS : Hid (w.heap.size + 1 ≤ w9.heap.size) := Lib.hid (by rw [← HS0.out]; exact hgrow.size)
  clear hown hgrow HI HZ0 HZ1 HZ2 HX0 HB0 HS0 q1
  have q1 : w9.cell? ⟨w.heap.size, 1, none⟩ = some (.slice x1_0 n1_0 c1_0) := HX.out.cell 1
  go_wp2
  go_loopw [3, 13] (fun uv iv wr => ∃ k : Nat, k ≤ n1_0 ∧ iv = .int .i64 k ∧ ∃ xu nu cu Lu, uv = .slice xu nu cu ∧ Hid (Lu.length = k) ∧ Hid (Lu.map kNn.strip = (l.take k).map fun e => e.1.1) ∧ Hid (kLNn.Own (w.heap.size + 1) wr.heap.size wr ⟨xu, nu, cu, Lu⟩) ∧ Hid (Ret.Blk wr w.heap.size #[.int .i64 cc, .slice x1_0 n1_0 c1_0] 26) ∧ Hid (Below w.heap.size w wr) ∧ Hid (w.heap.size + 1 ≤ wr.heap.size)) (fun _ iv _ => n1_0 - (intOf iv).toNat)
  case atStart => exact ⟨0, Nat.zero_le _, rfl, some ⟨w.heap.size + 1, 0, none⟩, 0, n1_0, [], rfl, Lib.hid rfl, Lib.hid (by simp), HO, HX, HB, HS⟩
  case round =>
    clear HO HX HB HS
    obtain ⟨k, hk, rfl, xu, nu, cu, Lu, rfl, hM, hst, ho, hx, hb, hsz⟩ := hrel
    have q1 : wr.cell? ⟨w.heap.size, 1, none⟩ = some (.slice x1_0 n1_0 c1_0) := hx.out.cell 1
    by_cases hlt : k < n1_0
    · have hlen := HN.out
      obtain ⟨b, off, y0, m0, d0, y1, m1, d1, y2, m2, d2, rfl, -, hc0, hc1, hc2, hc3, hc4, hc5, hA⟩ := kLCe_elem (HH.out.on hb.out) (fun y hy => kCe.holds_on (HEL.out y hy) hb.out) (j := k) (by omega)
      have hpt : nth l k = kCe.strip (nth L k) := by rw [← HT.out, nth_map _ (by omega)]
      have hps := HP.out (nth l k) (nth_mem (by have := HLEN.out; omega))
      rw [← hpt] at hA hc3 hc4 hc5
      obtain ⟨hD, hNM⟩ := kCe_parts hA
      have HA := Lib.hid hA; have HD := Lib.hid hD; have HNM := Lib.hid hNM; have HPS := Lib.hid hps; have HPD := Lib.hid (show wtDz (nth l k).1 ≤ 1200000 from hps); have HPN := Lib.hid (show bulk (nth l k).1.1 ≤ 1200000 from (wtDz_lens _ hps).1)
      have H0 := Lib.hid hc0; have H1 := Lib.hid hc1; have H2 := Lib.hid hc2; have H3 := Lib.hid hc3; have H4 := Lib.hid hc4; have H5 := Lib.hid hc5
      clear hlen hpt hps hA hD hNM
      have hal := (Below.refl wr.heap.size wr).alloc (Nat.le_refl _) (.cells #[.slice y0 m0 d0, .slice y1 m1 d1, .slice y2 m2 d2, .int .i64 (nth l k).1.2.2.2.1, .int .i64 (nth l k).1.2.2.2.2, .int .i64 (nth l k).2] 64)
      have HXE := Lib.hid (Ret.Blk.new wr #[.slice y0 m0 d0, .slice y1 m1 d1, .slice y2 m2 d2, .int .i64 (nth l k).1.2.2.2.1, .int .i64 (nth l k).1.2.2.2.2, .int .i64 (nth l k).2] 64)
      replace hx := Lib.hid (hx.out.on hal); replace hb := Lib.hid (hb.out.trans (hal.mono hb.out.size)); replace ho := Lib.hid (ho.out.upto hal); replace hsz := Lib.hid (Nat.le_trans hsz.out hal.size); replace HNM := Lib.hid (HNM.out.on hal)
      clear hal
      go_wp2_with fail
      refine (iCpyN HNM.out (Nat.le_trans HPN.out (by decide))).mono ?_
      rintro e w5 ⟨U, rfl, hi5, hb5⟩
      obtain ⟨m5, za, na, ea, rfl, hs5, hd5, ho5⟩ := kN_split hi5
      have hbl := (Below.refl w5.heap.size w5).alloc (Nat.le_refl _) (.cells #[.slice za na ea] 29)
      have HSO := Lib.hid (one_nn (W := w5) (g := w5.heap.size) hd5 rfl)
      have HOA := Lib.hid (show OwnK 29 kNn.cells 1 (w.heap.size + 1) _ (.slice xu nu cu) Lu from ((ho.out.on hb5).on hbl).1.1)
      have HB5 := Lib.hid hb5; have HI5 := Lib.hid ho5; have HBL := Lib.hid hbl; have HS5 := Lib.hid hs5
      have HLM := Lib.hid (show (Lu.length + 1) * 24 ≤ 140737488355328 by have := hM.out; omega)
      have HLX := Lib.hid (show Lu.length + 1 ≤ maxLen by have := hM.out; unfold maxLen; omega)
      have HB3 := Lib.hid (Nat.le_trans hsz.out (Nat.le_trans hb5.size hbl.size))
      have HXL := Lib.hid ((hx.out.on hb5).on hbl); have HBC := Lib.hid (hb.out.trans ((hb5.trans (hbl.mono hb5.size)).mono hb.out.size))
      clear hi5 ho5 hs5 hd5 hb5 hbl  hc0 hc1 hc2 hc3 hc4 hc5 q1
      go_wp2_with (at_builtin; refine wpList_appK kindNn (B := w.heap.size + 1) (l := Lu) (m := [m5]) rfl _ _ rfl Tryz.underlying50 rfl rfl HOA.out HSO.out HLM.out HLX.out HB3.out ?_)
      intro v6 w6 ho6 hg6
      obtain ⟨x6, n6, c6, rfl, -, -, ho6⟩ := ho6.shapeN
      have HO6 := Lib.hid (nn_grow ho.out HB5.out HI5.out HBL.out ho6 hg6 hsz.out)
      have HX6 := Lib.hid (HXL.out.grown hg6 (fun e => by have := (HOA.out.lt _ e.symm).1; omega))
      have HB6 := Lib.hid (HBC.out.grown hg6 HBC.out.size (fun g hg => by have := (HOA.out.lt g hg).1; omega))
      have HZ6 := Lib.hid (Nat.le_trans HB3.out hg6.size)
      have HST := Lib.hid (show (Lu ++ [m5]).map kNn.strip = (l.take (k + 1)).map fun e => e.1.1 by
        rw [List.map_append, hst.out, take_nx (by have := HLEN.out; omega), List.map_append]
        show _ ++ [kNn.strip m5] = _
        rw [HS5.out]; rfl)
      clear ho6 hg6
      go_wp2_with fail
      go_roundw
      case rel => exact ⟨k + 1, by omega, by go_num, x6, n6, c6, Lu ++ [m5], rfl, Lib.hid (by simp [hM.out]), HST, HO6, HX6, HB6, HZ6⟩
      case measure => simp [intOf]; omega
    · obtain rfl : k = n1_0 := by omega
      clear hlt
      have HRES := Lib.hid (show Lu.map kNn.strip = namesC (cc, l) by rw [hst.out, HNC.out, List.take_of_length_le (by rw [HLEN.out]; exact Nat.le_refl _)])
      go_wp2
      go_ret
      refine ⟨_, rfl, ?_, hb.out⟩
      have h9 := (ho.out.mono (Nat.le_succ _) (Nat.le_refl _)).in
      rw [show kLNn.strip ⟨xu, nu, cu, Lu⟩ = Lu.map kNn.strip from rfl, HRES.out] at h9
      exact h9
end Go.Proofs.YtfglcmanmfenpaaGreat.Row
/- Contracts of the reference model's draws: a cursor over the bytes of the argument; each draw gives a number, a bool or a text within its bounds and leaves all but the cursor as it was. -/
namespace Go.Proofs.YtfglcmanmfenpaaGreat.Draw
open Go.ChangeShapes Go.WideShapes Go.ChangeAt Go.RowKit Go.Instr
set_option linter.unusedVariables false
set_option maxRecDepth 100000
structure Keep (p : Nat) (w w' : World) : Prop where
  os : w'.os = w.os
  tape : w'.tape = w.tape
  output : w'.output = w.output
  size : w.heap.size ≤ w'.heap.size
  block : ∀ k, k < w.heap.size → k ≠ p → w'.heap[k]? = w.heap[k]?
theorem Keep.refl (p : Nat) (w : World) : Keep p w w := ⟨rfl, rfl, rfl, Nat.le_refl _, fun _ _ _ => rfl⟩
theorem Keep.trans {p : Nat} {a b c : World} (h : Keep p a b) (k : Keep p b c) : Keep p a c :=
  ⟨k.os.trans h.os, k.tape.trans h.tape, k.output.trans h.output, Nat.le_trans h.size k.size, fun i hi hp => (k.block i (Nat.lt_of_lt_of_le hi h.size) hp).trans (h.block i hi hp)⟩
theorem Keep.below {B p : Nat} {w0 w w' : World} (h : Keep p w w') (hb : Below B w0 w) (hB : B ≤ p) (hw : B ≤ w.heap.size) : Below B w0 w' :=
  hb.trans ⟨h.os, h.tape, h.output, h.size, fun k hk => h.block k (by omega) (by omega)⟩
theorem Keep.of_below {p : Nat} {w w' : World} (h : Below w.heap.size w w') : Keep p w w' := ⟨h.os, h.tape, h.output, h.size, fun k hk _ => h.block k hk⟩
theorem Keep.cell {p : Nat} {w w' : World} (h : Keep p w w') {a : Addr} {v : Value} (hc : w.cell? a = some v) (hp : a.block ≠ p) : w'.cell? a = some v := by
  rw [← hc]; exact World.cell?_of_block (w := w) (h.block a.block (Frame.cell_lt hc) hp)
structure Cur (w0 : World) (p : Nat) (v : Value) (l : List UInt8) (w : World) : Prop where
  bytes : Frame.Bytes w0 v l
  below : Below w0.heap.size w0 w
  place : w0.heap.size ≤ p
  row : ∃ i h : Int, 0 ≤ i ∧ i ≤ l.length ∧ w.heap[p]? = some (.cells #[v, .int .i64 i, .int .i64 h] 87 (0, 0))
theorem Cur.bytesNow {w0 : World} {p : Nat} {v : Value} {l : List UInt8} {w : World} (h : Cur w0 p v l w) : Frame.Bytes w v l := h.bytes.on h.below
def Drawn (w0 : World) (p : Nat) (v : Value) (l : List UInt8) (w : World) (Q : Value → Prop) (e : Ending) (w' : World) : Prop :=
  ∃ x, e = .returned x ∧ Q x ∧ Cur w0 p v l w' ∧ Keep p w w'
def IntIn (a b : Int) (x : Value) : Prop := ∃ n : Int, x = .int .i64 n ∧ a ≤ n ∧ n ≤ b
theorem cur_cells {w : World} {p : Nat} {a b c : Value} {t : TypeId} (h : w.heap[p]? = some (.cells #[a, b, c] t (0, 0))) :
    w.cell? ⟨p, 0, none⟩ = some a ∧ w.cell? ⟨p, 1, none⟩ = some b ∧ w.cell? ⟨p, 2, none⟩ = some c ∧ (∀ o, w.frozen? ⟨p, o, none⟩ = false) := by
  refine ⟨?_, ?_, ?_, fun o => ?_⟩ <;> simp [World.cell?, World.frozen?, h]
theorem and255 (n : Int) : 0 ≤ bits .and .i64 n 255 ∧ bits .and .i64 n 255 ≤ 255 := by
  have h255 : (BitVec.ofInt 64 255).toNat = 2 ^ 8 - 1 := by decide
  have key : (BitVec.ofInt 64 n &&& BitVec.ofInt 64 255).toNat = (n % ((2 ^ 64 : Nat) : Int)).toNat % 2 ^ 8 := by
    rw [BitVec.toNat_and, BitVec.toNat_ofInt, h255, Nat.and_two_pow_sub_one_eq_mod]
  have e : bits .and .i64 n 255 = IntKind.i64.wrap ((BitVec.ofInt 64 n &&& BitVec.ofInt 64 255).toNat : Nat) := rfl
  rw [e, key, IntKind.wrap_i64]
  omega
theorem bytes_le {w : World} {v : Value} {l : List UInt8} (h : Frame.Bytes w v l) : l.length ≤ 140737488351232 := by
  rcases h with ⟨rfl, rfl⟩ | ⟨a, cap, rfl, h1, h2, _⟩
  · simp
  · omega
theorem bytes_at {w : World} {v : Value} {l : List UInt8} (h : Frame.Bytes w v l) :
    ∃ x cap, v = .slice x l.length cap ∧ (∀ j (hj : j < l.length), ∃ b off, x = some ⟨b, off, none⟩ ∧ w.cell? ⟨b, off + j, none⟩ = some (.int .u8 l[j].toNat)) := by
  rcases h with ⟨rfl, rfl⟩ | ⟨a, cap, rfl, _, _, hc⟩
  · exact ⟨none, 0, rfl, fun j hj => absurd hj (by simp)⟩
  · refine ⟨some a, cap, rfl, fun j hj => ?_⟩
    obtain ⟨b, off, spot⟩ := a
    have hs : spot = none := by simpa [Addr.add] using World.cell?_spot (hc 0 (by omega))
    subst hs
    exact ⟨b, off, rfl, by rw [← Go.WideShapes.add_plain]; exact hc j hj⟩
theorem cur_set {w0 : World} {p : Nat} {v : Value} {l : List UInt8} {w : World} (hc : Cur w0 p v l w) {i h i' h' : Int} (hr : w.heap[p]? = some (.cells #[v, .int .i64 i, .int .i64 h] 87 (0, 0)))
    {w' : World} (h0 : 0 ≤ i') (h1 : i' ≤ l.length) (hk : Keep p w w') (hr' : w'.heap[p]? = some (.cells #[v, .int .i64 i', .int .i64 h'] 87 (0, 0))) : Cur w0 p v l w' ∧ Keep p w w' :=
  ⟨⟨hc.bytes, hk.below hc.below hc.place hc.below.size, hc.place, i', h', h0, h1, hr'⟩, hk⟩
theorem keep_set (w : World) (p o : Nat) (x : Value) : Keep p w (w.setCell ⟨p, o, none⟩ x) :=
  ⟨rfl, rfl, rfl, by simp [World.setCell], fun k _ hk => Below.heap_setCell _ _ _ _ hk⟩
theorem keep_draw (p : Nat) (w : World) (n : Nat) : Keep p w (w.drewN n) := ⟨rfl, rfl, rfl, Nat.le_refl _, fun _ _ _ => rfl⟩
theorem row_set {w : World} {p : Nat} {a b c : Value} {t : TypeId} (h : w.heap[p]? = some (.cells #[a, b, c] t (0, 0))) (x : Value) :
    (w.setCell ⟨p, 1, none⟩ x).heap[p]? = some (.cells #[a, x, c] t (0, 0)) ∧ (w.setCell ⟨p, 2, none⟩ x).heap[p]? = some (.cells #[a, b, x] t (0, 0)) := by
  constructor <;> simp [World.setCell, Array.getElem?_modify, h]
theorem row_draw {w : World} {p : Nat} {o : Obj} (h : w.heap[p]? = some o) (n : Nat) : (w.drewN n).heap[p]? = some o := h
set_option maxHeartbeats 1000000 in
theorem byte_out (w0 : World) (p : Nat) (x : Option Addr) (cap n : Nat) (l : List UInt8) (hn : l.length = n) (w : World) (hc : Cur w0 p (.slice x n cap) l w) (i h : Int) (hi0 : 0 ≤ i) (hi1 : i ≤ l.length) (hlt : ¬ i < l.length)
    (hr : w.heap[p]? = some (.cells #[.slice x n cap, .int .i64 i, .int .i64 h] 87 (0, 0))) :
    Calls Tryz.prog 68 #[.pointer (some ⟨p, 0, none⟩)] w (Drawn w0 p (.slice x n cap) l w (IntIn 0 255)) := by
  obtain ⟨c0, c1, c2, cf⟩ := cur_cells hr
  have hcmp : decide (i < (n : Int)) = false := by simp; omega
  have HC := Lib.hid hc
  have HR := Lib.hid hr
  have HI := Lib.hid (And.intro hi0 hi1)
  clear hc hr hn hi0 hi1 hlt
  go_enter Tryz.func68, Tryz.ntmps68
  go_wp2_with fail
  go_quiet (fail)
  go_wp2_with fail
  go_quiet (fail)
  go_wp2_with fail
  go_ret
  refine ⟨_, rfl, ⟨_, rfl, (and255 _).1, (and255 _).2⟩, cur_set HC.out HR.out HI.out.1 HI.out.2 ?_ (row_set HR.out _).2⟩
  exact (keep_set _ _ _ _).trans ((keep_draw _ _ _).trans (keep_draw _ _ _))
set_option maxHeartbeats 1000000 in
theorem byte_in (w0 : World) (p b off cap n : Nat) (l : List UInt8) (hn : l.length = n) (w : World) (hc : Cur w0 p (.slice (some ⟨b, off, none⟩) n cap) l w) (k : Nat) (h : Int) (hlt : k < n) (hbig : (k : Int) ≤ 140737488351232) (c : UInt8)
    (hbp : b ≠ p) (hcell : w.cell? ⟨b, off + k, none⟩ = some (.int .u8 c.toNat)) (hr : w.heap[p]? = some (.cells #[.slice (some ⟨b, off, none⟩) n cap, .int .i64 k, .int .i64 h] 87 (0, 0))) :
    Calls Tryz.prog 68 #[.pointer (some ⟨p, 0, none⟩)] w (Drawn w0 p (.slice (some ⟨b, off, none⟩) n cap) l w (IntIn 0 255)) := by
  obtain ⟨c0, c1, c2, cf⟩ := cur_cells hr
  have hcmp : (k : Int) < (n : Int) := by omega
  have HC := Lib.hid hc
  have HR := Lib.hid hr
  have HN := Lib.hid (And.intro hn hlt)
  clear hc hr hn hlt
  go_enter Tryz.func68, Tryz.ntmps68
  go_wp2_with fail
  go_quiet (fail)
  go_wp2_with fail
  go_quiet (fail)
  go_wp2_with fail
  go_quiet (fail)
  go_wp2_with fail
  go_ret
  refine ⟨_, rfl, ⟨_, rfl, (and255 _).1, (and255 _).2⟩, cur_set (i' := (k : Int) + 1) HC.out HR.out (by omega) (by have := HN.out; omega) ?_ (row_set (row_draw (row_set HR.out _).2 _) _).1⟩
  exact (keep_set _ _ _ _).trans ((keep_draw _ _ _).trans (keep_set _ _ _ _))
theorem byte (w0 : World) (p : Nat) (v : Value) (l : List UInt8) (w : World) (hc : Cur w0 p v l w) :
    Calls Tryz.prog 68 #[.pointer (some ⟨p, 0, none⟩)] w (Drawn w0 p v l w (IntIn 0 255)) := by
  obtain ⟨i, h, hi0, hi1, hr⟩ := hc.row
  obtain ⟨x, cap, rfl, hat⟩ := bytes_at hc.bytesNow
  by_cases hlt : i < l.length
  · obtain ⟨k, rfl⟩ : ∃ k : Nat, i = k := ⟨i.toNat, by omega⟩
    have hk : k < l.length := by omega
    obtain ⟨b, off, rfl, hcell⟩ := hat k hk
    refine byte_in w0 p b off cap l.length l rfl w hc k h hk (by have := bytes_le hc.bytes; omega) l[k] ?_ hcell hr
    rintro rfl
    obtain ⟨x2, cap2, e, hat2⟩ := bytes_at hc.bytes
    obtain ⟨b2, off2, rfl, h2⟩ := hat2 k hk
    simp only [Value.slice.injEq, Option.some.injEq, Addr.mk.injEq] at e
    have := Frame.cell_lt h2
    have := hc.place
    simp only at *
    omega
  · exact byte_out w0 p x cap l.length l rfl w hc i h hi0 hi1 hlt hr
def BelowOf (n : Int) (x : Value) : Prop := ∃ r : Int, x = .int .i64 r ∧ (0 < n → 0 ≤ r ∧ r < n) ∧ (¬ 0 < n → r = 0)
set_option maxHeartbeats 1000000 in
theorem below (w0 : World) (p : Nat) (v : Value) (l : List UInt8) (w : World) (n : Int) (hc : Cur w0 p v l w) :
    Calls Tryz.prog 33 #[.pointer (some ⟨p, 0, none⟩), .int .i64 n] w (Drawn w0 p v l w (BelowOf n)) := by
  by_cases h0 : n ≤ 0
  · have HC := Lib.hid hc; clear hc
    go_enter Tryz.func33, Tryz.ntmps33
    go_wp2
    go_ret
    exact ⟨_, rfl, ⟨0, rfl, fun h => by omega, fun _ => rfl⟩, HC.out, Keep.refl _ _⟩
  · by_cases h1 : n ≤ 256
    · have hb := byte w0 p v l w hc
      have HB := Lib.hid hb; clear hb hc
      go_enter Tryz.func33, Tryz.ntmps33
      go_wp2_with fail
      refine HB.out.mono ?_
      rintro e w1 ⟨y, rfl, ⟨m, rfl, m0, m1⟩, hc1, hk1⟩
      have HC := Lib.hid (And.intro hc1 hk1); clear hc1 hk1
      go_wp2
      go_ret
      exact ⟨_, rfl, ⟨m % n, rfl, fun _ => ⟨Int.emod_nonneg _ (by omega), Int.emod_lt_of_pos _ (by omega)⟩, fun h => by omega⟩, HC.out.1, HC.out.2⟩
    · have hb := byte w0 p v l w hc
      have HB := Lib.hid hb; clear hb hc
      go_enter Tryz.func33, Tryz.ntmps33
      go_wp2_with fail
      refine HB.out.mono ?_
      rintro e w1 ⟨y, rfl, ⟨m, rfl, m0, m1⟩, hc1, hk1⟩
      have hb2 := byte w0 p v l w1 hc1
      have HB2 := Lib.hid hb2; have HK1 := Lib.hid hk1; clear hb2 hc1 hk1
      go_wp2_with fail
      refine HB2.out.mono ?_
      rintro e w2 ⟨y2, rfl, ⟨m2, rfl, m02, m12⟩, hc2, hk2⟩
      have hb3 := byte w0 p v l w2 hc2
      have HB3 := Lib.hid hb3; have HK2 := Lib.hid (HK1.out.trans hk2); clear hb3 hc2 hk2
      go_wp2_with fail
      refine HB3.out.mono ?_
      rintro e w3 ⟨y3, rfl, ⟨m3, rfl, m03, m13⟩, hc3, hk3⟩
      have HK3 := Lib.hid (HK2.out.trans hk3); have HC := Lib.hid hc3; clear hc3 hk3
      go_wp2
      go_ret
      exact ⟨_, rfl, ⟨_, rfl, fun _ => ⟨Int.emod_nonneg _ (by omega), Int.emod_lt_of_pos _ (by omega)⟩, fun h => by omega⟩, HC.out, HK3.out⟩
def IsBool (x : Value) : Prop := ∃ b : Bool, x = .bool b
theorem once (w0 : World) (p : Nat) (v : Value) (l : List UInt8) (w : World) (n : Int) (hc : Cur w0 p v l w) :
    Calls Tryz.prog 47 #[.pointer (some ⟨p, 0, none⟩), .int .i64 n] w (Drawn w0 p v l w IsBool) := by
  have hb := below w0 p v l w n hc
  have HB := Lib.hid hb; clear hb hc
  go_enter Tryz.func47, Tryz.ntmps47
  go_wp2_with fail
  refine HB.out.mono ?_
  rintro e w1 ⟨y, rfl, ⟨m, rfl, hm⟩, hc1, hk1⟩
  have HC := Lib.hid (And.intro hc1 hk1); clear hc1 hk1 hm
  go_wp2
  go_ret
  exact ⟨_, rfl, ⟨_, rfl⟩, HC.out.1, HC.out.2⟩
theorem choose (w0 : World) (p : Nat) (v : Value) (l : List UInt8) (w : World) (q : Nat) (xs : List Value) (hx : 0 < xs.length) (hbig : xs.length < 1000) (hc : Cur w0 p v l w) (hq : q ≠ p)
    (hcells : ∀ j (h : j < xs.length), w.cell? ⟨q, j, none⟩ = some xs[j]) :
    ∀ e w1, Drawn w0 p v l w (BelowOf (xs.length : Int)) e w1 → ∃ j, ∃ h : j < xs.length, e = .returned (.int .i64 (j : Int)) ∧ w1.cell? ⟨q, j, none⟩ = some xs[j] ∧ Cur w0 p v l w1 ∧ Keep p w w1 := by
  rintro e w1 ⟨y, rfl, ⟨r, rfl, hr, _⟩, hc1, hk1⟩
  have hr := hr (by omega)
  obtain ⟨j, rfl⟩ : ∃ j : Nat, r = j := ⟨r.toNat, by omega⟩
  exact ⟨j, by omega, rfl, hk1.cell (hcells j (by omega)) hq, hc1, hk1⟩
set_option maxHeartbeats 1000000 in
theorem int (w0 : World) (p : Nat) (v : Value) (l : List UInt8) (w : World) (q : Nat) (xs : List Value) (n : Nat) (hn : xs.length = n) (hx : 0 < n) (hbig : n < 1000) (hc : Cur w0 p v l w) (hq : q ≠ p)
    (hcells : ∀ j (h : j < xs.length), w.cell? ⟨q, j, none⟩ = some xs[j]) :
    Calls Tryz.prog 49 #[.pointer (some ⟨p, 0, none⟩), .slice (some ⟨q, 0, none⟩) n n] w (Drawn w0 p v l w (fun x => x ∈ xs)) := by
  subst hn
  have hb := (below w0 p v l w xs.length hc).mono (choose w0 p v l w q xs hx hbig hc hq hcells)
  have HB := Lib.hid hb; clear hb hc hcells
  go_enter Tryz.func49, Tryz.ntmps49
  go_wp2_with fail
  refine HB.out.mono ?_
  rintro e w1 ⟨j, hj, rfl, hcell, hc1, hk1⟩
  have HC := Lib.hid (And.intro hc1 hk1); clear hc1 hk1
  have hji : (j : Int) < (xs.length : Int) := by omega
  go_wp2_with fail
  go_ret
  exact ⟨_, rfl, List.getElem_mem hj, HC.out.1, HC.out.2⟩
set_option maxHeartbeats 1000000 in
theorem strOf (w0 : World) (p : Nat) (v : Value) (l : List UInt8) (w : World) (q : Nat) (xs : List Value) (n : Nat) (hn : xs.length = n) (hx : 0 < n) (hbig : n < 1000) (hc : Cur w0 p v l w) (hq : q ≠ p)
    (hcells : ∀ j (h : j < xs.length), w.cell? ⟨q, j, none⟩ = some xs[j]) :
    Calls Tryz.prog 88 #[.pointer (some ⟨p, 0, none⟩), .slice (some ⟨q, 0, none⟩) n n] w (Drawn w0 p v l w (fun x => x ∈ xs)) := by
  subst hn
  have hb := (below w0 p v l w xs.length hc).mono (choose w0 p v l w q xs hx hbig hc hq hcells)
  have HB := Lib.hid hb; clear hb hc hcells
  go_enter Tryz.func88, Tryz.ntmps88
  go_wp2_with fail
  refine HB.out.mono ?_
  rintro e w1 ⟨j, hj, rfl, hcell, hc1, hk1⟩
  have HC := Lib.hid (And.intro hc1 hk1); clear hc1 hk1
  have hji : (j : Int) < (xs.length : Int) := by omega
  go_wp2_with fail
  go_ret
  exact ⟨_, rfl, List.getElem_mem hj, HC.out.1, HC.out.2⟩
theorem new_cur {w : World} {x : Option Addr} {cap n : Nat} {l : List UInt8} (hb : Frame.Bytes w (.slice x n cap) l) (hn : n = l.length) (h : Int) :
    Cur w w.heap.size (.slice x n cap) l (w.alloc (.cells #[.slice x n cap, .int .i64 0, .int .i64 h] 87)) :=
  ⟨hb, Joins.below_alloc1 _ _, Nat.le_refl _, 0, h, by omega, by omega, (MapKept.heap_alloc w _).1⟩
set_option maxHeartbeats 1000000 in
theorem new (w : World) (v : Value) (l : List UInt8) (hb : Frame.Bytes w v l) :
    Calls Tryz.prog 30 #[v] w fun e w' => e = .returned (.pointer (some ⟨w.heap.size, 0, none⟩)) ∧ Cur w w.heap.size v l w' := by
  have hle := bytes_le hb
  obtain ⟨x, cap, rfl, hat⟩ := bytes_at hb
  have HB := Lib.hid hb
  have HAT := Lib.hid hat
  obtain ⟨n, hn⟩ : ∃ n, n = l.length := ⟨_, rfl⟩
  rw [← hn] at HB hle ⊢
  have HN := Lib.hid hn
  clear hb hat hn
  go_enter Tryz.func30, Tryz.ntmps30
  go_wp2_with fail
  go_loop [3, 4] (fun hv iv => ∃ (h : Int) (k : Nat), k ≤ n ∧ hv = .int .i64 h ∧ iv = .int .i64 k) (fun _ iv => n - (intOf iv).toNat)
  case atStart => exact ⟨_, 0, by omega, rfl, rfl⟩
  case round =>
    obtain ⟨h, k, hk, rfl, rfl⟩ := hrel
    by_cases hlt : k < n
    · have hlti : (k : Int) < (n : Int) := by omega
      obtain ⟨b, off, hx, hcell⟩ := HAT.out k (by have := HN.out; omega)
      subst hx
      by_cases h4 : (k : Int) < 4000
      · go_wp2_with fail
        go_round
        case rel => exact ⟨_, k + 1, by omega, rfl, by go_num⟩
        case measure => simp [intOf]; omega
      · have h4f : decide ((k : Int) < 4000) = false := by simpa using h4
        go_wp2_with fail
        go_ret
        exact ⟨rfl, new_cur HB.out HN.out _⟩
    · have hlti : decide ((k : Int) < (n : Int)) = false := by simp; omega
      go_wp2_with fail
      go_ret
      exact ⟨rfl, new_cur HB.out HN.out _⟩
end Go.Proofs.YtfglcmanmfenpaaGreat.Draw
/- Contracts of the reference model's draws of numbers, over the cursor of Draw: each gives a number that fits its kind, and leaves all but the cursor as it was. -/
namespace Go.Proofs.YtfglcmanmfenpaaGreat.Draw
open Go.ChangeShapes Go.WideShapes Go.ChangeAt Go.RowKit Go.Instr
set_option linter.unusedVariables false
set_option maxRecDepth 100000
theorem wf_of {n : Int} (h0 : -9223372036854775808 ≤ n) (h1 : n ≤ 9223372036854775807) : (Lit.int .i64 n).wf = true := by
  have e1 : IntKind.i64.min = -9223372036854775808 := rfl
  have e2 : IntKind.i64.max = 9223372036854775807 := rfl
  simp [Lit.wf, e1, e2, h0, h1]
theorem keep_alloc (p : Nat) (w : World) (o : Obj) : Keep p w (w.alloc o) := Keep.of_below (Joins.below_alloc1 w o)
theorem Cur.lt {w0 : World} {p : Nat} {v : Value} {l : List UInt8} {w : World} (hc : Cur w0 p v l w) : p < w.heap.size := by
  obtain ⟨i, h, _, _, hr⟩ := hc.row
  exact (Array.getElem?_eq_some_iff.1 hr).1
theorem Cur.alloc {w0 : World} {p : Nat} {v : Value} {l : List UInt8} {w : World} (hc : Cur w0 p v l w) (o : Obj) : Cur w0 p v l (w.alloc o) := by
  obtain ⟨i, h, h0, h1, hr⟩ := hc.row
  refine ⟨hc.bytes, hc.below.trans (below_le' ?_), hc.place, i, h, h0, h1, ?_⟩
  · exact (Joins.below_alloc1 w o).mono hc.below.size
  · rw [Below.heap_alloc w o p hc.lt]; exact hr
where below_le' {a b : World} {B : Nat} (h : Below B a b) : Below B a b := h
theorem Drawn.from {w0 : World} {p : Nat} {v : Value} {l : List UInt8} {w w1 : World} {Q : Value → Prop} {e : Ending} {w' : World} (h : Drawn w0 p v l w1 Q e w') (hk : Keep p w w1) : Drawn w0 p v l w Q e w' := by
  obtain ⟨x, h1, h2, h3, h4⟩ := h
  exact ⟨x, h1, h2, h3, hk.trans h4⟩
theorem Drawn.imp {w0 : World} {p : Nat} {v : Value} {l : List UInt8} {w : World} {Q R : Value → Prop} {e : Ending} {w' : World} (h : Drawn w0 p v l w Q e w') (hq : ∀ x, Q x → R x) : Drawn w0 p v l w R e w' := by
  obtain ⟨x, h1, h2, h3, h4⟩ := h
  exact ⟨x, h1, hq x h2, h3, h4⟩
def Is64 (x : Value) : Prop := ∃ n : Int, x = .int .i64 n ∧ (Lit.int .i64 n).wf = true
theorem intLit (w0 : World) (p : Nat) (v : Value) (l : List UInt8) (w : World) (hc : Cur w0 p v l w) (xs : List Int) (C : Array Value) (hC : C = (xs.map (Value.int .i64)).toArray) (n : Nat) (hn : xs.length = n) (h0 : 0 < n) (h1 : n < 1000)
    (Q : Value → Prop) (hQ : ∀ x ∈ xs, Q (.int .i64 x)) :
    Calls Tryz.prog 49 #[.pointer (some ⟨p, 0, none⟩), .slice (some ⟨w.heap.size, 0, none⟩) n n] (w.alloc (.cells C 3)) (Drawn w0 p v l w Q) := by
  subst hC
  have hlt := hc.lt
  refine (int w0 p v l _ w.heap.size (xs.map (Value.int .i64)) n (by simpa using hn) h0 h1 (hc.alloc _) (by omega) (fun j hj => ?_)).mono fun e w' h => ?_
  · rw [World.cell?_alloc_mark]; simp at hj; simp [hj]
  · refine (h.from (keep_alloc p w _)).imp fun x hx => ?_
    obtain ⟨y, hy, rfl⟩ := List.mem_map.1 hx
    exact hQ y hy
theorem wf_lits {xs : List Int} (h : xs.all (fun n => (Lit.int .i64 n).wf) = true) : ∀ x ∈ xs, Is64 (.int .i64 x) := fun x hx => ⟨x, rfl, List.all_eq_true.1 h x hx⟩
theorem big_no (x : Option Addr) (n cap : Nat) (w : World) (h : decide ((1048576 : Int) < (n : Int)) = false) :
    Calls Tryz.prog 4 #[.slice x n cap] w fun e w' => e = .returned (.bool false) ∧ w = w' := by
  go_enter Tryz.func4, Tryz.ntmps4
  go_wp2
  go_ret
  exact ⟨rfl, rfl⟩
theorem big_yes (x : Option Addr) (n cap : Nat) (w : World) (h : decide ((1048576 : Int) < (n : Int)) = true) :
    Calls Tryz.prog 4 #[.slice x n cap] w fun e w' => e = .returned (.bool true) ∧ w = w' := by
  go_enter Tryz.func4, Tryz.ntmps4
  go_wp2
  go_ret
  exact ⟨rfl, rfl⟩
end Go.Proofs.YtfglcmanmfenpaaGreat.Draw
/- Draws over the cursor that make memory: what keeps the cursor; texts out of a list. -/
namespace Go.Proofs.YtfglcmanmfenpaaGreat.Draw
open Go.ChangeShapes Go.WideShapes Go.ChangeAt Go.RowKit Go.Instr
set_option linter.unusedVariables false
set_option maxRecDepth 100000
def DrawnW (w0 : World) (p : Nat) (v : Value) (l : List UInt8) (w : World) (Q : Value → World → Prop) (e : Ending) (w' : World) : Prop :=
  ∃ x, e = .returned x ∧ Q x w' ∧ Cur w0 p v l w' ∧ Keep p w w'
theorem Keep.grown {p : Nat} {w w1 w2 : World} {row : Option Nat} (h : Keep p w w1) (hg : w1.grownBy w2 row) (hr : ∀ g, row = some g → w.heap.size ≤ g) : Keep p w w2 :=
  ⟨hg.os.trans h.os, hg.tape.trans h.tape, hg.output.trans h.output, Nat.le_trans h.size hg.size, fun k hk hp => (hg.block k (Nat.lt_of_lt_of_le hk h.size) (fun e => by have := hr k e.symm; omega)).trans (h.block k hk hp)⟩
theorem Cur.grown {w0 : World} {p : Nat} {v : Value} {l : List UInt8} {w w' : World} {row : Option Nat} (hc : Cur w0 p v l w) (hg : w.grownBy w' row) (hr : ∀ g, row = some g → w0.heap.size ≤ g ∧ g ≠ p) : Cur w0 p v l w' := by
  obtain ⟨i, h, h0, h1, hrow⟩ := hc.row
  refine ⟨hc.bytes, hc.below.grown hg hc.below.size (fun g hk => (hr g hk).1), hc.place, i, h, h0, h1, ?_⟩
  rw [hg.block p (Array.getElem?_eq_some_iff.1 hrow).1 (fun e => (hr p e.symm).2 rfl)]
  exact hrow
theorem Cur.on {w0 : World} {p : Nat} {v : Value} {l : List UInt8} {w w' : World} (hc : Cur w0 p v l w) (hb : Below w.heap.size w w') : Cur w0 p v l w' :=
  hc.grown (row := none) ⟨hb.os, hb.tape, hb.output, hb.size, fun i hi _ => hb.block i hi⟩ (fun g h => by cases h)
def StrUpto (k : Nat) (x : Value) : Prop := ∃ t : ByteArray, x = .string t ∧ t.size ≤ k
theorem strAt (w0 : World) (p : Nat) (v : Value) (l : List UInt8) (W : World) (hc : Cur w0 p v l W) (q : Nat) (hq : q ≠ p) (xs : List ByteArray) (n : Nat) (hn : xs.length = n) (h0 : 0 < n) (h1 : n < 1000) (k : Nat) (hk : (xs.all fun t => decide (t.size ≤ k)) = true)
    (hcells : ∀ j (h : j < xs.length), W.cell? ⟨q, j, none⟩ = some (.string xs[j])) :
    Calls Tryz.prog 88 #[.pointer (some ⟨p, 0, none⟩), .slice (some ⟨q, 0, none⟩) n n] W (Drawn w0 p v l W (StrUpto k)) := by
  refine (strOf w0 p v l W q (xs.map Value.string) n (by simpa using hn) h0 h1 hc hq (fun j hj => ?_)).mono fun e w' h => ?_
  · simp at hj; rw [hcells j hj]; simp
  · refine h.imp fun x hx => ?_
    obtain ⟨y, hy, rfl⟩ := List.mem_map.1 hx
    exact ⟨y, rfl, by have := List.all_eq_true.1 hk y hy; simpa using this⟩
theorem lits_at {w : World} {q : Nat} (hq : q = w.heap.size) {xs : List ByteArray} {t : TypeId} {C : Array Value} (hC : C = (xs.map Value.string).toArray) : ∀ j (h : j < xs.length), (w.alloc (.cells C t)).cell? ⟨q, j, none⟩ = some (.string xs[j]) := by
  intro j hj
  subst hC hq
  rw [World.cell?_alloc_mark]; simp [hj]
end Go.Proofs.YtfglcmanmfenpaaGreat.Draw
/- Contracts of the reference model's draws of names: what is drawn lies in memory of the call's own; all else but the cursor is as it was. -/
namespace Go.Proofs.YtfglcmanmfenpaaGreat.Draw
open Go.ChangeShapes Go.WideShapes Go.ChangeAt Go.RowKit Go.Instr
open Go.Proofs.YtfglcmanmfenpaaGreat.Row (bulk bulk_append bulk_one bulk_nil elemSTR oneStr)
open Go.Proofs.YtfglcmanmfenpaaGreat.Ret (NC)
set_option linter.unusedVariables false
set_option maxRecDepth 100000
theorem NC.keep {w w' : World} {g p : Nat} {u : Value} (h : NC w g u) (hk : Keep p w w') (hne : g ≠ p) : NC w' g u :=
  ⟨hk.cell h.1 hne, (World.frozen?_of_block (hk.block g h.lt hne)).trans h.2⟩
theorem rown_keep {α : Type} [Inhabited α] {enc : α → Value} {e : TypeId} {B p : Nat} {w w' : World} {x : Value} {m : List α} (h : Row.Own e enc B w x m) (hk : Keep p w w') (hp : p < B) : Row.Own e enc B w' x m := by
  refine ⟨h.1, ?_⟩
  rcases h.2 with h2 | ⟨g, cap, cur, hv, hg, hh, r⟩
  · exact Or.inl h2
  · exact Or.inr ⟨g, cap, cur, hv, hg, by rw [hk.block g (Array.getElem?_eq_some_iff.1 hh).1 (by omega)]; exact hh, r⟩
theorem NC.set_same {w : World} {g : Nat} {u : Value} (h : NC w g u) (v : Value) : NC (w.setCell ⟨g, 0, none⟩ v) g v := ⟨Ret.set_same h.1, by rw [World.frozen?_setCell]; exact h.2⟩
theorem Cur.set {w0 : World} {p : Nat} {v : Value} {l : List UInt8} {w : World} (hc : Cur w0 p v l w) {g : Nat} (hg : w0.heap.size ≤ g) (hp : g ≠ p) (u : Value) : Cur w0 p v l (w.setCell ⟨g, 0, none⟩ u) :=
  hc.grown (Ret.grownBy_set w ⟨g, 0, none⟩ u) (fun q hq => by
    have : g = q := by simpa using hq
    subst this; exact ⟨hg, hp⟩)
theorem Keep.set {p : Nat} {w w1 : World} (hk : Keep p w w1) {g : Nat} (hg : w.heap.size ≤ g) (u : Value) : Keep p w (w1.setCell ⟨g, 0, none⟩ u) :=
  hk.grown (Ret.grownBy_set w1 ⟨g, 0, none⟩ u) (fun q hq => by
    have : g = q := by simpa using hq
    subst this; exact hg)
def NameIn (B K : Nat) (x : Value) (w : World) : Prop := ∃ u m, x = .agg #[u] ∧ Row.Own 9 Value.string B w u m ∧ bulk m ≤ K
theorem bulk_appN (m : List ByteArray) (s : ByteArray) : bulk (Row.appN m s) ≤ bulk m + 1 + s.size := by
  unfold Row.appN; split
  · rw [bulk_append, bulk_one]; omega
  · omega
set_option maxRecDepth 100000 in
set_option maxHeartbeats 2000000 in
theorem l4Name (w0 : World) (p : Nat) (v : Value) (l : List UInt8) (w : World) (hc : Cur w0 p v l w) :
    Calls Tryz.prog 85 #[.pointer (some ⟨p, 0, none⟩)] w (DrawnW w0 p v l w (NameIn w.heap.size 100)) := by
  have hpl := hc.lt
  have hca := (hc.alloc (.cells #[.slice none 0 0] 29)).alloc (.cells #[.slice none 0 0] 29)
  have HK0 := Lib.hid ((keep_alloc p w (.cells #[.slice none 0 0] 29)).trans (keep_alloc p _ (.cells #[.slice none 0 0] 29)))
  have HR0 := Lib.hid ((NC.new' (w := w) (.slice none 0 0) 29 rfl).alloc (.cells #[.slice none 0 0] 29))
  have HX0 := Lib.hid (NC.new' (w := w.alloc (.cells #[.slice none 0 0] 29)) (.slice none 0 0) 29 (n := w.heap.size + 1) (by simp))
  have HC0 := Lib.hid hc
  have hb := below w0 p v l _ 4 hca
  have HB := Lib.hid hb
  clear hc hca hb
  go_enter Tryz.func85, Tryz.ntmps85
  go_wp2_with fail
  refine HB.out.mono ?_
  rintro e w1 ⟨y, rfl, ⟨r, rfl, hr, _⟩, hc1, hk1⟩
  have hr := hr (by omega)
  obtain ⟨r, rfl⟩ := Int.eq_ofNat_of_zero_le hr.1
  have hr4 : r < 4 := by omega
  have HC1 := Lib.hid hc1
  have HK1 := Lib.hid (HK0.out.trans hk1)
  have HR1 := Lib.hid (NC.keep HR0.out hk1 (by omega))
  have HX1 := Lib.hid (NC.keep HX0.out hk1 (by omega))
  clear hc1 hk1 hr HB
  go_wp2_with fail
  go_loopw [4] (fun iv wr => ∃ (k j : Nat) (u : Value) (m : List ByteArray), k + j ≤ 3 ∧ iv = .int .i64 k ∧ bulk m ≤ 20 * j ∧ Hid (NC wr w.heap.size (.slice none 0 0)) ∧ Hid (NC wr (w.heap.size + 1) u) ∧ Hid (Row.Own 9 Value.string (w.heap.size + 2) wr u m) ∧ Hid (Cur w0 p v l wr) ∧ Hid (Keep p w wr)) (fun iv _ => (intOf iv).toNat)
  case atStart => exact ⟨r, 0, _, [], by omega, rfl, by rw [bulk_nil]; omega, HR1, HX1, Lib.hid (Row.Own.nil _ _ _ _), HC1, HK1⟩
  case round =>
    obtain ⟨k, j, u, m, hkj, rfl, hm, hR, hX, hO, hC, hK⟩ := hrel
    obtain ⟨x, n, c, rfl, hn, hcap, ho⟩ := hO.out.shapeN
    clear hn
    have hx1 := hX.out.1
    have hx2 := hX.out.2
    by_cases hk0 : 0 < k
    · have hal : Below wr.heap.size wr (wr.alloc (.cells #[.string { data := #[97] }, .string { data := #[98] }, .string { data := #[110, 101, 119, 115] }, .string { data := #[120, 45, 49] }, .string { data := #[49] }, .string { data := #[107, 101, 121] }] 9)).drew := ((Below.refl _ _).alloc (Nat.le_refl _) _).drew
      have HCA := Lib.hid (hC.out.on hal)
      have HKA := Lib.hid (hK.out.trans (Keep.of_below (p := p) hal))
      have HRA := Lib.hid (hR.out.on hal)
      have HXA := Lib.hid (hX.out.on hal)
      have HOA := Lib.hid (ho.on hal)
      have hxA : (wr.alloc (.cells #[.string { data := #[97] }, .string { data := #[98] }, .string { data := #[110, 101, 119, 115] }, .string { data := #[120, 45, 49] }, .string { data := #[49] }, .string { data := #[107, 101, 121] }] 9)).cell? ⟨w.heap.size + 1, 0, none⟩ = some (.slice x n c) := HXA.out.1
      have hpr := hC.out.lt
      have hwp : w.heap.size ≠ p := by omega
      have hwp1 : w.heap.size + 1 ≠ p := by omega
      have hwp2 : p < w.heap.size + 2 := by omega
      have hbm : bulk m ≤ 10000000 := by omega
      clear ho hal
      go_wp2_with fail
      go_region_with (first | (go_at_call 88; refine (strAt w0 p v l (wr.alloc (.cells #[.string { data := #[97] }, .string { data := #[98] }, .string { data := #[110, 101, 119, 115] }, .string { data := #[120, 45, 49] }, .string { data := #[49] }, .string { data := #[107, 101, 121] }] 9)).drew HCA.out wr.heap.size (by omega) [{ data := #[97] }, { data := #[98] }, { data := #[110, 101, 119, 115] }, { data := #[120, 45, 49] }, { data := #[49] }, { data := #[107, 101, 121] }] 6 rfl (by decide) (by decide) 8 (by decide) (fun j h => lits_at rfl rfl j h)).mono ?_; rintro e w2 ⟨y2, rfl, ⟨t2, rfl, ht2⟩, hc2, hk2⟩; have ht2b : t2.size ≤ 10000000 := Nat.le_trans ht2 (by decide); have HC2 := Lib.hid hc2; have HK2 := Lib.hid (HKA.out.trans hk2); have HR2 := Lib.hid (NC.keep HRA.out hk2 hwp); have HX2 := Lib.hid (NC.keep HXA.out hk2 hwp1); have hxc2 := HX2.out.1; have HO2 := Lib.hid (rown_keep HOA.out hk2 hwp2); clear hc2 hk2) | (go_at_call 97; refine (Row.specAppendPart (.slice x n c) m t2 w2 HO2.out.holds hbm ht2b).mono ?_; rintro e w3 ⟨v3, rfl, ho3, hb3⟩; obtain ⟨x3, n3, c3, rfl, -, -, ho3⟩ := ho3.shapeN; have HC3 := Lib.hid (HC2.out.on hb3); have HK3 := Lib.hid (HK2.out.trans (Keep.of_below hb3)); have HR3 := Lib.hid (HR2.out.on hb3); have HX3 := Lib.hid (HX2.out.on hb3); have HO3 := Lib.hid ho3; have hx3 := HX3.out.1; have hx4 := HX3.out.2; clear ho3 hb3))
      all_goals
        have hlt2 := HX2.out.lt
        have hov := (HO3.out.mono (B' := w.heap.size + 2) (by omega)).grown (Ret.grownBy_set w3 ⟨w.heap.size + 1, 0, none⟩ (.slice x3 n3 c3)) (Row.nb (HO3.out.mono (B' := w.heap.size + 2) (by omega)) (b := w.heap.size + 1) (by omega))
        have HO4 := Lib.hid hov
        have HC4 := Lib.hid (HC3.out.set (g := w.heap.size + 1) (by have := HC0.out.below.size; omega) (by omega) (.slice x3 n3 c3))
        have HK4 := Lib.hid (HK3.out.set (g := w.heap.size + 1) (by omega) (.slice x3 n3 c3))
        have HR4 := Lib.hid (HR3.out.other (a := ⟨w.heap.size + 1, 0, none⟩) (by show w.heap.size + 1 ≠ w.heap.size; omega) (.slice x3 n3 c3))
        have HX4 := Lib.hid (NC.set_same HX3.out (.slice x3 n3 c3))
        have hbk := bulk_appN m t2
        clear hov hlt2
        go_wp2_with fail
        go_roundw
        case rel => exact ⟨k - 1, j + 1, _, _, by omega, by first | go_num | (congr 1; omega), by omega, HR4, HX4, HO4, HC4, HK4⟩
        case measure => simp only [intOf]; omega
    · obtain rfl : k = 0 := by omega
      obtain ⟨hk2, hf2⟩ := hR.out
      obtain ⟨q1, q2, q3⟩ : (wr.setCell ⟨w.heap.size, 0, none⟩ (.slice x n c)).cell? ⟨w.heap.size, 0, none⟩ = some (.slice x n c) ∧ Row.Own 9 Value.string w.heap.size (wr.setCell ⟨w.heap.size, 0, none⟩ (.slice x n c)) (.slice x n c) m ∧ (Cur w0 p v l (wr.setCell ⟨w.heap.size, 0, none⟩ (.slice x n c)) ∧ Keep p w (wr.setCell ⟨w.heap.size, 0, none⟩ (.slice x n c))) :=
        ⟨Ret.set_same hk2, (ho.grown (Ret.grownBy_set wr ⟨w.heap.size, 0, none⟩ (.slice x n c)) (Row.nb ho (b := w.heap.size) (by omega))).mono (by omega), hC.out.set HC0.out.below.size (by omega) _, hK.out.set (Nat.le_refl _) _⟩
      have HQ1 := Lib.hid q1; have HQ2 := Lib.hid q2; have HQ3 := Lib.hid q3
      clear q1 q2 q3 ho
      go_wp2
      refine bodyPost_ret (Ret.results_c rfl _ _ w.heap.size [_] rfl Row.aggN (Ret.one HQ1.out)) rfl ?_
      exact ⟨_, rfl, ⟨_, m, rfl, HQ2.out, by omega⟩, HQ3.out.1, HQ3.out.2⟩
end Go.Proofs.YtfglcmanmfenpaaGreat.Draw
