/- Contracts and mathematics, joined: TrustP, TrustV. No conditions but those that each states. -/
import Derived.WalkKit
import Derived.Deep.RegionHeld3
import Derived.Test.YtcidfmmeonhkhaaB10
/- The program's chapter 11, its first part: IsAnchor, KeyDigest, ValidTrust. No conditions but that lengths fit. -/
namespace Go.Proofs.Ytcidfmmeonhkhaa.Row
open Go.ChangeShapes Go.WideShapes Go.ChangeAt Go.RowKit Go.Instr
set_option linter.unusedVariables false
set_option maxRecDepth 100000

theorem iEqN {w : World} {V U : Value} {l m : List ByteArray} (z : Bool) (hz : decide (l = m) = z) (h : kN.At w V l) (g : kN.At w U m) (hl : bulk l ≤ 9000000) (hm : bulk m ≤ 9000000) :
    Calls Try.prog 71 #[V, U] w fun e w' => e = .returned (.bool z) ∧ Below w.heap.size w w' := by
  obtain ⟨v, rfl, h9⟩ := kN_at h
  obtain ⟨u, rfl, g9⟩ := kN_at g
  exact hz ▸ implEqualNames v u l m w h9 g9 (by have := bulk_len l; omega) (by have := bulk_len m; omega)

/-! ### IsAnchor -/
set_option maxHeartbeats 1000000 in
theorem anchorClos (g : Nat) (V : Value) (a m : List ByteArray) (xn : Option Addr) (nn cn : Nat) (w : World) (z : Bool) (hz : decide (a = m) = z) (hx : Ret.Blk w g #[.slice xn nn cn] 47) (ha : kN.At w V a) (hm : kN.At w (.agg #[.slice xn nn cn]) m) (hl : bulk a ≤ 9000000) (hl' : bulk m ≤ 9000000) :
    Calls Try.prog 76 #[V, .pointer (some ⟨g, 0, none⟩)] w fun e w' => e = .returned (.bool z) ∧ Below w.heap.size w w' := by
  obtain ⟨xa, na, ca, rfl, ha⟩ := kN_shapeA ha
  have hal := (Below.refl w.heap.size w).alloc (Nat.le_refl _) (.cells #[.slice xa na ca] 47)
  have HB := Lib.hid hal; have HX := Lib.hid (hx.on hal); have HA := Lib.hid (ha.on hal); have HM := Lib.hid (hm.on hal); have HZ := Lib.hid hz
  have HY := Lib.hid (Ret.Blk.new w #[.slice xa na ca] 47)
  clear hal hx ha hm hz
  have q0 : (w.alloc (.cells #[.slice xa na ca] 47)).cell? ⟨g, 0, none⟩ = some (.slice xn nn cn) := HX.out.cell 0
  have q1 : (w.alloc (.cells #[.slice xa na ca] 47)).cell? ⟨w.heap.size, 0, none⟩ = some (.slice xa na ca) := HY.out.cell 0
  go_enter Try.func76, Try.ntmps76
  go_wp2_with fail
  refine (iEqN z HZ.out HA.out HM.out hl hl').mono ?_
  rintro e w1 ⟨rfl, hb⟩
  replace HB := Lib.hid (HB.out.trans (hb.mono HB.out.size))
  clear hb
  go_wp2_with fail
  go_ret
  exact ⟨rfl, HB.out⟩

set_option maxHeartbeats 2000000 in
theorem indexAnc (b0 : Addr) (p : Nnt → Bool) (ok : Nnt → Prop) (v : Value) (l : List Nnt) (w : World) (z : Int) (hz : ixL p l = z) (h : kLNn.At w v l) (hl : l.length ≤ 9000000) (hp : ∀ x ∈ l, ok x) (hc : ClosK Try.prog kNn 76 #[.pointer (some b0)] p ok w) :
    Calls Try.prog 107 #[v, .func (.func 76) #[] #[.pointer (some b0)]] w fun e w' => e = .returned (.int .i64 z) ∧ Below w.heap.size w w' := by
  obtain ⟨x, n, cx, L, rfl, hn, ht, hh, hel⟩ := kLNn_at h
  have hlen : l.length = n := by rw [← ht, List.length_map]; exact hn.symm
  rw [hlen] at hl
  have hcap : n ≤ cx := by obtain ⟨x', n', cap', hv, hn', hc', -⟩ := hh.shapeN; cases hv; exact hc'
  have HN := Lib.hid hn; have HT := Lib.hid ht; have HH := Lib.hid hh; have HEL := Lib.hid hel; have HLEN := Lib.hid hlen; have HP := Lib.hid hp; have HC := Lib.hid hc; have HZ := Lib.hid hz
  clear hn h hh hc hp ht hel hlen hz
  go_enter Try.func107, Try.ntmps107
  go_wp2
  go_loopw [8] (fun iv wr => ∃ i : Nat, i ≤ n ∧ iv = .int .i64 i ∧ Hid (noL p l i) ∧ Hid (Below w.heap.size w wr)) (fun iv _ => n - (intOf iv).toNat)
  case atStart => exact ⟨0, Nat.zero_le _, rfl, Lib.hid (noL_zero _ _), Lib.hid (Below.refl _ _)⟩
  case round =>
    obtain ⟨k, hk, rfl, ha, hb⟩ := hrel
    by_cases hlt : k < n
    · have hlen := HN.out
      obtain ⟨b, off, y0, m0, d0, rfl, -, hc0, hA⟩ := kLNn_elem (HH.out.on hb.out) (fun y hy => kNn.holds_on (HEL.out y hy) hb.out) (j := k) (by omega)
      have hpt : nth l k = kNn.strip (nth L k) := by rw [← HT.out, nth_map _ (by omega)]
      have hps := HP.out (nth l k) (nth_mem (by have := HLEN.out; omega))
      rw [hpt] at hps
      obtain ⟨q, hq⟩ : ∃ q, p (kNn.strip (nth L k)) = q := ⟨_, rfl⟩
      have HCL := HC.out _ _ wr hb.out hA hps
      rw [hq] at HCL
      rw [← hpt] at hq
      replace HCL := Lib.hid HCL
      have HQ := Lib.hid hq
      clear hlen hpt hps hA hq
      go_wp2_with fail
      refine HCL.out.mono ?_
      rintro e w2 ⟨rfl, hb2⟩
      have HB2 := Lib.hid (hb.out.trans (hb2.mono hb.out.size))
      clear hb2 hc0 HCL
      cases q with
      | true =>
        have HV := Lib.hid (show z = (k : Int) from HZ.out.symm.trans (ixL_at (by have := HLEN.out; omega) ha.out HQ.out))
        go_wp2
        go_ret
        exact ⟨ret_int HV.out.symm, HB2.out⟩
      | false =>
        have HA := Lib.hid (noL_succ ha.out HQ.out)
        go_wp2
        go_roundw
        case rel => exact ⟨k + 1, by omega, by go_num, HA, HB2⟩
        case measure => simp [intOf]; omega
    · obtain rfl : k = n := by omega
      have HV := Lib.hid (show z = -1 from HZ.out.symm.trans (ixL_none (by rw [HLEN.out]; exact ha.out)))
      clear hlt
      go_wp2
      go_ret
      exact ⟨ret_int HV.out.symm, hb.out⟩

set_option maxHeartbeats 2000000 in
theorem containsAnc (b0 : Addr) (p : Nnt → Bool) (ok : Nnt → Prop) (v : Value) (l : List Nnt) (w : World) (z : Bool) (hz : l.any p = z) (h : kLNn.At w v l) (hl : l.length ≤ 9000000) (hp : ∀ x ∈ l, ok x) (hc : ClosK Try.prog kNn 76 #[.pointer (some b0)] p ok w) :
    Calls Try.prog 75 #[v, .func (.func 76) #[] #[.pointer (some b0)]] w fun e w' => e = .returned (.bool z) ∧ Below w.heap.size w w' := by
  obtain ⟨x, n, cx, rfl, h⟩ := kLNn_shapeA h
  obtain ⟨i, hi⟩ : ∃ i, ixL p l = i := ⟨_, rfl⟩
  have hr : -1 ≤ i := by rw [← hi]; rcases ixL_lt p l with h5 | h5 <;> omega
  rw [any_ixL, hi] at hz
  have HI := Lib.hid hi; have HH := Lib.hid h; have HP := Lib.hid hp; have HC := Lib.hid hc; have HZ := Lib.hid hz
  clear hi h hp hc hz
  go_enter Try.func75, Try.ntmps75
  go_wp2_with fail
  refine (indexAnc b0 p ok _ l _ i HI.out HH.out hl HP.out HC.out).mono ?_
  rintro e w1 ⟨rfl, hb⟩
  have HB := Lib.hid hb
  clear hb
  go_wp2
  go_ret
  exact ⟨ret_bool (by rw [← HZ.out]), HB.out⟩

set_option maxHeartbeats 2000000 in
theorem implIsAnchor (V U : Value) (t : Tpt) (m : List ByteArray) (w : World) (z : Bool) (hz : anchorT t.2.2.1 m = z) (h : kTp.At w V t) (g : kN.At w U m) (hl : t.2.2.1.length ≤ 9000000) (hp : ∀ a ∈ t.2.2.1, bulk a ≤ 9000000) (hm : bulk m ≤ 9000000) :
    Calls Try.prog 29 #[V, U] w fun e w' => e = .returned (.bool z) ∧ Below w.heap.size w w' := by
  obtain ⟨x0, n0, c0, x1, n1, c1, x2, n2, c2, x3, n3, c3, rfl, g0, g1, g2, g3⟩ := kTp_at h
  obtain ⟨xn, nn, cn, rfl, g⟩ := kN_shapeA g
  have b1 := (Below.refl w.heap.size w).alloc (Nat.le_refl _) (.cells #[.slice x0 n0 c0, .slice x1 n1 c1, .slice x2 n2 c2, .slice x3 n3 c3] 35)
  have b2 := (Below.refl (w.alloc (.cells #[.slice x0 n0 c0, .slice x1 n1 c1, .slice x2 n2 c2, .slice x3 n3 c3] 35)).heap.size (w.alloc (.cells #[.slice x0 n0 c0, .slice x1 n1 c1, .slice x2 n2 c2, .slice x3 n3 c3] 35))).alloc (Nat.le_refl _) (.cells #[.slice xn nn cn] 47)
  have HB := Lib.hid (b1.trans (b2.mono b1.size))
  have HX := Lib.hid ((Ret.Blk.new w #[.slice x0 n0 c0, .slice x1 n1 c1, .slice x2 n2 c2, .slice x3 n3 c3] 35).on b2)
  have HY := Lib.hid (Ret.Blk.new' (w := w.alloc (.cells #[.slice x0 n0 c0, .slice x1 n1 c1, .slice x2 n2 c2, .slice x3 n3 c3] 35)) (n := w.heap.size + 1) #[.slice xn nn cn] 47 (by simp))
  have G2 := Lib.hid (g2.on HB.out)
  have HC := Lib.hid (show ClosK Try.prog kNn 76 #[.pointer (some ⟨w.heap.size + 1, 0, none⟩)] (fun a => decide (a = m)) (fun a => bulk a ≤ 9000000) ((w.alloc (.cells #[.slice x0 n0 c0, .slice x1 n1 c1, .slice x2 n2 c2, .slice x3 n3 c3] 35)).alloc (.cells #[.slice xn nn cn] 47)) from
    fun a W0 W hW ha hk => anchorClos _ W0 a m xn nn cn W _ rfl (HY.out.on hW) ha ((g.on HB.out).on hW) hk hm)
  have HZ := Lib.hid hz; have HP := Lib.hid hp
  clear b1 b2 g0 g1 g2 g3 g h hz hp
  have q2 : ((w.alloc (.cells #[.slice x0 n0 c0, .slice x1 n1 c1, .slice x2 n2 c2, .slice x3 n3 c3] 35)).alloc (.cells #[.slice xn nn cn] 47)).cell? ⟨w.heap.size, 2, none⟩ = some (.slice x2 n2 c2) := HX.out.cell 2
  go_enter Try.func29, Try.ntmps29
  go_wp2_with fail
  refine (containsAnc _ (fun a => decide (a = m)) (fun a => bulk a ≤ 9000000) _ t.2.2.1 _ z HZ.out G2.out hl HP.out HC.out).mono ?_
  rintro e w1 ⟨rfl, hb⟩
  replace HB := Lib.hid (HB.out.trans (hb.mono HB.out.size))
  clear hb
  go_wp2_with fail
  go_ret
  exact ⟨rfl, HB.out⟩

/-! ### KeyDigest -/
set_option maxHeartbeats 4000000 in
theorem implKeyDigest (V U : Value) (T : Ring.Kt) (m : List ByteArray) (w : World) (z : List Int) (hz : digK T m = z) (h : Ring.kK.At w V T) (g : kN.At w U m) (hl : Ring.bulkT T ≤ 1200000) (hm : bulk m ≤ 1200000) :
    Calls Try.prog 18 #[V, U] w (Sl.GivesB w z) := by
  obtain ⟨x, n, c, rfl, h⟩ := Ring.kK_shapeA h
  obtain ⟨xn, nn, cn, rfl, g⟩ := kN_shapeA g
  have hal := (Below.refl w.heap.size w).alloc (Nat.le_refl _) (.cells #[.slice xn nn cn] 47)
  have HB := Lib.hid hal
  have HC := Lib.hid (Ret.Box.new w (.slice xn nn cn) 47)
  have HS := Lib.hid (Ring.implSecretOfK _ _ T m _ (h.on hal) (g.on hal) hl hm)
  have HZ := Lib.hid hz
  clear h g hal hz hl hm
  go_enter Try.func18, Try.ntmps18
  have c0 := HC.out.cell
  go_wp2_with fail
  refine HS.out.mono ?_
  rintro e w1 ⟨rfl, hb⟩
  replace HB := Lib.hid (HB.out.trans (hb.mono HB.out.size))
  clear hb c0 HS HC
  obtain ⟨s, hs⟩ : ∃ s, Ring.lkN T m = s := ⟨_, rfl⟩
  rw [hs]
  have HK := Lib.hid hs
  clear hs
  by_cases h0 : s = 0
  · subst h0
    have HE := Lib.hid (show z = [] by rw [← HZ.out]; unfold digK; rw [if_pos HK.out])
    have HO := Lib.hid (Sl.own_empty .u8 5 w1)
    go_wp2_with fail
    go_ret
    exact ⟨_, rfl, by rw [HE.out]; exact Sl.Own.mono HO.out HB.out.size, HB.out.alloc HB.out.size _⟩
  · have HE := Lib.hid (show z = [] ++ Var.var (Seal.digest [s]) by rw [← HZ.out]; unfold digK; rw [HK.out, if_neg h0]; rfl)
    have hb2 := (Below.refl w1.heap.size w1).alloc (Nat.le_refl _) (.cells #[.int .i64 s] 3)
    have HO := Lib.hid (show Sl.Holds .u8 (w1.alloc (.cells #[.int .i64 s] 3)) (.slice none 0 0) [] from ⟨none, 0, rfl, Nat.le_refl _, Or.inl rfl⟩)
    have HI := Lib.hid (Sl.holds_one .i64 3 w1 s)
    have HBB := Lib.hid (HB.out.trans (hb2.mono HB.out.size))
    clear hb2
    go_wp2_with fail
    refine (Sl.implDigest _ [s] _ HI.out (by simp)).mono ?_
    rintro e w2 ⟨rfl, rfl⟩
    go_wp2_with fail
    refine (Sl.implAppendVarint _ [] _ _ HO.out (by decide)).mono ?_
    rintro e w3 ⟨v, rfl, ho, hb⟩
    have HV := Lib.hid (Sl.Own.mono ho HBB.out.size); have HB3 := Lib.hid (HBB.out.trans (hb.mono HBB.out.size))
    clear ho hb
    go_wp2_with fail
    go_ret
    exact ⟨_, rfl, by rw [HE.out]; exact HV.out, HB3.out⟩

/-! ### ValidTrust -/
set_option maxHeartbeats 1000000 in
theorem noKeyClos (g : Nat) (V : Value) (a : List ByteArray) (t : Tpt) (x0 x1 x2 x3 : Option Addr) (n0 c0 n1 c1 n2 c2 n3 c3 : Nat) (w : World) (z : Bool) (hz : decide (Ring.lkN t.1 a = 0) = z) (hx : Ret.Blk w g #[.slice x0 n0 c0, .slice x1 n1 c1, .slice x2 n2 c2, .slice x3 n3 c3] 35) (ha : kN.At w V a) (ht : kLKy.At w (.slice x0 n0 c0) t.1) (hl : bulk a ≤ 1200000) (hk : Ring.bulkT t.1 ≤ 1200000) :
    Calls Try.prog 91 #[V, .pointer (some ⟨g, 0, none⟩)] w fun e w' => e = .returned (.bool z) ∧ Below w.heap.size w w' := by
  obtain ⟨xa, na, ca, rfl, ha⟩ := kN_shapeA ha
  have hal := (Below.refl w.heap.size w).alloc (Nat.le_refl _) (.cells #[.slice xa na ca] 47)
  have HB := Lib.hid hal; have HX := Lib.hid (hx.on hal); have HA := Lib.hid (ha.on hal); have HT := Lib.hid (kK_ofK (ht.on hal)); have HZ := Lib.hid hz
  have HY := Lib.hid (Ret.Blk.new w #[.slice xa na ca] 47)
  clear hal hx ha ht hz
  have q0 : (w.alloc (.cells #[.slice xa na ca] 47)).cell? ⟨g, 0, none⟩ = some (.slice x0 n0 c0) := HX.out.cell 0
  have q1 : (w.alloc (.cells #[.slice xa na ca] 47)).cell? ⟨w.heap.size, 0, none⟩ = some (.slice xa na ca) := HY.out.cell 0
  go_enter Try.func91, Try.ntmps91
  go_wp2_with fail
  refine (Ring.implSecretOfK _ _ t.1 a _ HT.out HA.out hk hl).mono ?_
  rintro e w1 ⟨rfl, hb⟩
  replace HB := Lib.hid (HB.out.trans (hb.mono HB.out.size))
  clear hb
  obtain ⟨s, hs⟩ : ∃ s, Ring.lkN t.1 a = s := ⟨_, rfl⟩
  rw [hs]
  have HS := Lib.hid hs
  clear hs
  go_wp2_with fail
  go_ret
  refine ⟨ret_bool ?_, HB.out⟩
  rw [← HZ.out, HS.out]
  by_cases h0 : s = 0 <;> simp [h0]

set_option maxHeartbeats 2000000 in
theorem indexKey (b0 : Addr) (p : Nnt → Bool) (ok : Nnt → Prop) (v : Value) (l : List Nnt) (w : World) (z : Int) (hz : ixL p l = z) (h : kLNn.At w v l) (hl : l.length ≤ 9000000) (hp : ∀ x ∈ l, ok x) (hc : ClosK Try.prog kNn 91 #[.pointer (some b0)] p ok w) :
    Calls Try.prog 107 #[v, .func (.func 91) #[] #[.pointer (some b0)]] w fun e w' => e = .returned (.int .i64 z) ∧ Below w.heap.size w w' := by
  obtain ⟨x, n, cx, L, rfl, hn, ht, hh, hel⟩ := kLNn_at h
  have hlen : l.length = n := by rw [← ht, List.length_map]; exact hn.symm
  rw [hlen] at hl
  have hcap : n ≤ cx := by obtain ⟨x', n', cap', hv, hn', hc', -⟩ := hh.shapeN; cases hv; exact hc'
  have HN := Lib.hid hn; have HT := Lib.hid ht; have HH := Lib.hid hh; have HEL := Lib.hid hel; have HLEN := Lib.hid hlen; have HP := Lib.hid hp; have HC := Lib.hid hc; have HZ := Lib.hid hz
  clear hn h hh hc hp ht hel hlen hz
  go_enter Try.func107, Try.ntmps107
  go_wp2
  go_loopw [8] (fun iv wr => ∃ i : Nat, i ≤ n ∧ iv = .int .i64 i ∧ Hid (noL p l i) ∧ Hid (Below w.heap.size w wr)) (fun iv _ => n - (intOf iv).toNat)
  case atStart => exact ⟨0, Nat.zero_le _, rfl, Lib.hid (noL_zero _ _), Lib.hid (Below.refl _ _)⟩
  case round =>
    obtain ⟨k, hk, rfl, ha, hb⟩ := hrel
    by_cases hlt : k < n
    · have hlen := HN.out
      obtain ⟨b, off, y0, m0, d0, rfl, -, hc0, hA⟩ := kLNn_elem (HH.out.on hb.out) (fun y hy => kNn.holds_on (HEL.out y hy) hb.out) (j := k) (by omega)
      have hpt : nth l k = kNn.strip (nth L k) := by rw [← HT.out, nth_map _ (by omega)]
      have hps := HP.out (nth l k) (nth_mem (by have := HLEN.out; omega))
      rw [hpt] at hps
      obtain ⟨q, hq⟩ : ∃ q, p (kNn.strip (nth L k)) = q := ⟨_, rfl⟩
      have HCL := HC.out _ _ wr hb.out hA hps
      rw [hq] at HCL
      rw [← hpt] at hq
      replace HCL := Lib.hid HCL
      have HQ := Lib.hid hq
      clear hlen hpt hps hA hq
      go_wp2_with fail
      refine HCL.out.mono ?_
      rintro e w2 ⟨rfl, hb2⟩
      have HB2 := Lib.hid (hb.out.trans (hb2.mono hb.out.size))
      clear hb2 hc0 HCL
      cases q with
      | true =>
        have HV := Lib.hid (show z = (k : Int) from HZ.out.symm.trans (ixL_at (by have := HLEN.out; omega) ha.out HQ.out))
        go_wp2
        go_ret
        exact ⟨ret_int HV.out.symm, HB2.out⟩
      | false =>
        have HA := Lib.hid (noL_succ ha.out HQ.out)
        go_wp2
        go_roundw
        case rel => exact ⟨k + 1, by omega, by go_num, HA, HB2⟩
        case measure => simp [intOf]; omega
    · obtain rfl : k = n := by omega
      have HV := Lib.hid (show z = -1 from HZ.out.symm.trans (ixL_none (by rw [HLEN.out]; exact ha.out)))
      clear hlt
      go_wp2
      go_ret
      exact ⟨ret_int HV.out.symm, hb.out⟩

set_option maxHeartbeats 2000000 in
theorem containsKey (b0 : Addr) (p : Nnt → Bool) (ok : Nnt → Prop) (v : Value) (l : List Nnt) (w : World) (z : Bool) (hz : l.any p = z) (h : kLNn.At w v l) (hl : l.length ≤ 9000000) (hp : ∀ x ∈ l, ok x) (hc : ClosK Try.prog kNn 91 #[.pointer (some b0)] p ok w) :
    Calls Try.prog 75 #[v, .func (.func 91) #[] #[.pointer (some b0)]] w fun e w' => e = .returned (.bool z) ∧ Below w.heap.size w w' := by
  obtain ⟨x, n, cx, rfl, h⟩ := kLNn_shapeA h
  obtain ⟨i, hi⟩ : ∃ i, ixL p l = i := ⟨_, rfl⟩
  have hr : -1 ≤ i := by rw [← hi]; rcases ixL_lt p l with h5 | h5 <;> omega
  rw [any_ixL, hi] at hz
  have HI := Lib.hid hi; have HH := Lib.hid h; have HP := Lib.hid hp; have HC := Lib.hid hc; have HZ := Lib.hid hz
  clear hi h hp hc hz
  go_enter Try.func75, Try.ntmps75
  go_wp2_with fail
  refine (indexKey b0 p ok _ l _ i HI.out HH.out hl HP.out HC.out).mono ?_
  rintro e w1 ⟨rfl, hb⟩
  have HB := Lib.hid hb
  clear hb
  go_wp2
  go_ret
  exact ⟨ret_bool (by rw [← HZ.out]), HB.out⟩

set_option maxHeartbeats 1000000 in
theorem badCertClos (V : Value) (x : Dzt) (w : World) (z : Bool) (hz : (!validD x) = z) (h : kDz.At w V x) (hl : FitD x) :
    Calls Try.prog 92 #[V] w fun e w' => e = .returned (.bool z) ∧ Below w.heap.size w w' := by
  obtain ⟨xa, na, ca, xb, nb, cb, xc, nc, cc, rfl, h⟩ := kD_shapeA (kD_ofK h)
  have hal := (Below.refl w.heap.size w).alloc (Nat.le_refl _) (.cells #[.slice xa na ca, .slice xb nb cb, .slice xc nc cc, .int .i64 x.2.2.2.1, .int .i64 x.2.2.2.2] 61)
  have HB := Lib.hid hal; have HD := Lib.hid (h.on hal); have HZ := Lib.hid hz
  have HX := Lib.hid (Ret.Blk.new w #[.slice xa na ca, .slice xb nb cb, .slice xc nc cc, .int .i64 x.2.2.2.1, .int .i64 x.2.2.2.2] 61)
  have HL := Lib.hid hl.bulk9
  clear hal h hz hl
  go_enter Try.func92, Try.ntmps92
  go_wp2_with fail
  refine (implValidDataK _ x _ HD.out HL.out).mono ?_
  rintro e w1 ⟨rfl, hb⟩
  replace HB := Lib.hid (HB.out.trans (hb.mono HB.out.size))
  clear hb
  go_wp2_with fail
  go_ret
  exact ⟨ret_bool HZ.out, HB.out⟩

set_option maxHeartbeats 2000000 in
theorem indexBad (p : Dzt → Bool) (ok : Dzt → Prop) (v : Value) (l : List Dzt) (w : World) (z : Int) (hz : ixL p l = z) (h : kLDz.At w v l) (hl : l.length ≤ 9000000) (hp : ∀ x ∈ l, ok x) (hc : ClosK Try.prog kDz 92 #[] p ok w) :
    Calls Try.prog 69 #[v, .func (.func 92) #[] #[]] w fun e w' => e = .returned (.int .i64 z) ∧ Below w.heap.size w w' := by
  obtain ⟨x, n, cx, L, rfl, hn, ht, hh, hel⟩ := kLDz_at h
  have hlen : l.length = n := by rw [← ht, List.length_map]; exact hn.symm
  rw [hlen] at hl
  have hcap : n ≤ cx := by obtain ⟨x', n', cap', hv, hn', hc', -⟩ := hh.shapeN; cases hv; exact hc'
  have HN := Lib.hid hn; have HT := Lib.hid ht; have HH := Lib.hid hh; have HEL := Lib.hid hel; have HLEN := Lib.hid hlen; have HP := Lib.hid hp; have HC := Lib.hid hc; have HZ := Lib.hid hz
  clear hn h hh hc hp ht hel hlen hz
  go_enter Try.func69, Try.ntmps69
  go_wp2
  go_loopw [8] (fun iv wr => ∃ i : Nat, i ≤ n ∧ iv = .int .i64 i ∧ Hid (noL p l i) ∧ Hid (Below w.heap.size w wr)) (fun iv _ => n - (intOf iv).toNat)
  case atStart => exact ⟨0, Nat.zero_le _, rfl, Lib.hid (noL_zero _ _), Lib.hid (Below.refl _ _)⟩
  case round =>
    obtain ⟨k, hk, rfl, ha, hb⟩ := hrel
    by_cases hlt : k < n
    · have hlen := HN.out
      obtain ⟨b, off, y0, m0, d0, y1, m1, d1, y2, m2, d2, rfl, -, hc0, hc1, hc2, hc3, hc4, hA⟩ := kLDz_elem (HH.out.on hb.out) (fun y hy => kDz.holds_on (HEL.out y hy) hb.out) (j := k) (by omega)
      have hpt : nth l k = kDz.strip (nth L k) := by rw [← HT.out, nth_map _ (by omega)]
      have hps := HP.out (nth l k) (nth_mem (by have := HLEN.out; omega))
      rw [hpt] at hps
      obtain ⟨q, hq⟩ : ∃ q, p (kDz.strip (nth L k)) = q := ⟨_, rfl⟩
      have HCL := HC.out _ _ wr hb.out hA hps
      rw [hq] at HCL
      rw [← hpt] at hq
      replace HCL := Lib.hid HCL
      have HQ := Lib.hid hq
      clear hlen hpt hps hA hq
      go_wp2_with fail
      refine HCL.out.mono ?_
      rintro e w2 ⟨rfl, hb2⟩
      have HB2 := Lib.hid (hb.out.trans (hb2.mono hb.out.size))
      clear hb2 hc0 hc1 hc2 hc3 hc4 HCL
      cases q with
      | true =>
        have HV := Lib.hid (show z = (k : Int) from HZ.out.symm.trans (ixL_at (by have := HLEN.out; omega) ha.out HQ.out))
        go_wp2
        go_ret
        exact ⟨ret_int HV.out.symm, HB2.out⟩
      | false =>
        have HA := Lib.hid (noL_succ ha.out HQ.out)
        go_wp2
        go_roundw
        case rel => exact ⟨k + 1, by omega, by go_num, HA, HB2⟩
        case measure => simp [intOf]; omega
    · obtain rfl : k = n := by omega
      have HV := Lib.hid (show z = -1 from HZ.out.symm.trans (ixL_none (by rw [HLEN.out]; exact ha.out)))
      clear hlt
      go_wp2
      go_ret
      exact ⟨ret_int HV.out.symm, hb.out⟩

set_option maxHeartbeats 2000000 in
theorem containsBad (p : Dzt → Bool) (ok : Dzt → Prop) (v : Value) (l : List Dzt) (w : World) (z : Bool) (hz : l.any p = z) (h : kLDz.At w v l) (hl : l.length ≤ 9000000) (hp : ∀ x ∈ l, ok x) (hc : ClosK Try.prog kDz 92 #[] p ok w) :
    Calls Try.prog 94 #[v, .func (.func 92) #[] #[]] w fun e w' => e = .returned (.bool z) ∧ Below w.heap.size w w' := by
  obtain ⟨x, n, cx, rfl, h⟩ := kLDz_shapeA h
  obtain ⟨i, hi⟩ : ∃ i, ixL p l = i := ⟨_, rfl⟩
  have hr : -1 ≤ i := by rw [← hi]; rcases ixL_lt p l with h5 | h5 <;> omega
  rw [any_ixL, hi] at hz
  have HI := Lib.hid hi; have HH := Lib.hid h; have HP := Lib.hid hp; have HC := Lib.hid hc; have HZ := Lib.hid hz
  clear hi h hp hc hz
  go_enter Try.func94, Try.ntmps94
  go_wp2_with fail
  refine (indexBad p ok _ l _ i HI.out HH.out hl HP.out HC.out).mono ?_
  rintro e w1 ⟨rfl, hb⟩
  have HB := Lib.hid hb
  clear hb
  go_wp2
  go_ret
  exact ⟨ret_bool (by rw [← HZ.out]), HB.out⟩

set_option maxHeartbeats 2000000 in
theorem implValidAnchors (V : Value) (t : Tpt) (w : World) (z : Bool) (hz : (decide (t.2.2.1.length ≤ 8) && !(t.2.2.1.any fun a => decide (Ring.lkN t.1 a = 0))) = z) (h : kTp.At w V t) (hp : FitT t) :
    Calls Try.prog 47 #[V] w fun e w' => e = .returned (.bool z) ∧ Below w.heap.size w w' := by
  obtain ⟨x0, n0, c0, x1, n1, c1, x2, n2, c2, x3, n3, c3, rfl, g0, g1, g2, g3⟩ := kTp_at h
  have hlen : n2 = t.2.2.1.length := kLNn_len g2
  have b1 := (Below.refl w.heap.size w).alloc (Nat.le_refl _) (.cells #[.slice x0 n0 c0, .slice x1 n1 c1, .slice x2 n2 c2, .slice x3 n3 c3] 35)
  have HB := Lib.hid b1
  have HX := Lib.hid (Ret.Blk.new w #[.slice x0 n0 c0, .slice x1 n1 c1, .slice x2 n2 c2, .slice x3 n3 c3] 35)
  have G2 := Lib.hid (g2.on b1)
  have HC := Lib.hid (show ClosK Try.prog kNn 91 #[.pointer (some ⟨w.heap.size, 0, none⟩)] (fun a => decide (Ring.lkN t.1 a = 0)) (fun a => bulk a ≤ 1200000) (w.alloc (.cells #[.slice x0 n0 c0, .slice x1 n1 c1, .slice x2 n2 c2, .slice x3 n3 c3] 35)) from
    fun a W0 W hW ha hk => noKeyClos _ W0 a t x0 x1 x2 x3 n0 c0 n1 c1 n2 c2 n3 c3 W _ rfl (HX.out.on hW) ha ((g0.on b1).on hW) hk hp.keys)
  have HZ := Lib.hid hz; have HP := Lib.hid hp; have HLEN := Lib.hid hlen
  clear b1 g0 g1 g2 g3 h hz hp hlen
  have q2 : (w.alloc (.cells #[.slice x0 n0 c0, .slice x1 n1 c1, .slice x2 n2 c2, .slice x3 n3 c3] 35)).cell? ⟨w.heap.size, 2, none⟩ = some (.slice x2 n2 c2) := HX.out.cell 2
  go_enter Try.func47, Try.ntmps47
  by_cases h8 : n2 ≤ 8
  · obtain ⟨q, hq⟩ : ∃ q, (t.2.2.1.any fun a => decide (Ring.lkN t.1 a = 0)) = q := ⟨_, rfl⟩
    have HE : Hid (z = !q) := Lib.hid (by rw [← HZ.out, ← HLEN.out, hq]; simp [h8])
    have HQ := Lib.hid hq
    clear hq
    go_wp2_with fail
    refine (containsKey _ (fun a => decide (Ring.lkN t.1 a = 0)) (fun a => bulk a ≤ 1200000) _ t.2.2.1 _ q HQ.out G2.out HP.out.nameLen HP.out.nameWt HC.out).mono ?_
    rintro e w1 ⟨rfl, hb⟩
    replace HB := Lib.hid (HB.out.trans (hb.mono HB.out.size))
    clear hb
    go_wp2_with fail
    go_ret
    exact ⟨ret_bool HE.out.symm, HB.out⟩
  · have HE : Hid (z = false) := Lib.hid (by rw [← HZ.out, ← HLEN.out]; simp [h8])
    go_wp2_with fail
    go_ret
    exact ⟨ret_bool HE.out.symm, HB.out⟩

set_option maxHeartbeats 2000000 in
theorem implValidCertificates (V : Value) (l : List Dzt) (w : World) (z : Bool) (hz : (decide (l.length ≤ 8) && !(l.any fun x => !validD x)) = z) (h : kLDz.At w V l) (hl : l.length ≤ 9000000) (hp : ∀ x ∈ l, FitD x) :
    Calls Try.prog 48 #[V] w fun e w' => e = .returned (.bool z) ∧ Below w.heap.size w w' := by
  obtain ⟨x, n, c, rfl, h⟩ := kLDz_shapeA h
  have hlen : n = l.length := kLDz_len h
  have HC := Lib.hid (show ClosK Try.prog kDz 92 #[] (fun x => !validD x) FitD w from fun x W0 W hW ha hk => badCertClos W0 x W _ rfl ha hk)
  have HZ := Lib.hid hz; have HP := Lib.hid hp; have HLEN := Lib.hid hlen; have HH := Lib.hid h
  clear h hz hp hlen
  go_enter Try.func48, Try.ntmps48
  by_cases h8 : n ≤ 8
  · obtain ⟨q, hq⟩ : ∃ q, (l.any fun x => !validD x) = q := ⟨_, rfl⟩
    have HE : Hid (z = !q) := Lib.hid (by rw [← HZ.out, ← HLEN.out, hq]; simp [h8])
    have HQ := Lib.hid hq
    clear hq
    go_wp2_with fail
    refine (containsBad (fun x => !validD x) FitD _ l _ q HQ.out HH.out hl HP.out HC.out).mono ?_
    rintro e w1 ⟨rfl, hb⟩
    have HB := Lib.hid hb
    clear hb
    go_wp2_with fail
    go_ret
    exact ⟨ret_bool HE.out.symm, HB.out⟩
  · have HE : Hid (z = false) := Lib.hid (by rw [← HZ.out, ← HLEN.out]; simp [h8])
    go_wp2_with fail
    go_ret
    exact ⟨ret_bool HE.out.symm, Below.refl _ _⟩

theorem any_not {α : Type} (p : α → Bool) (l : List α) : (!(l.any fun x => !p x)) = l.all p := by
  induction l with
  | nil => rfl
  | cons a r ih => rw [List.any_cons, List.all_cons, ← ih]; cases p a <;> simp
theorem validT_impl (t : Tpt) : validT t = (Ring.validK t.1 && (validRs t.2.1 && ((decide (t.2.2.1.length ≤ 8) && !(t.2.2.1.any fun a => decide (Ring.lkN t.1 a = 0))) && (decide (t.2.2.2.length ≤ 8) && !(t.2.2.2.any fun x => !validD x))))) := by
  unfold validT
  cases hk : Ring.validK t.1 with
  | false => simp
  | true =>
    have e : t.2.2.1.all (hasK t.1) = !(t.2.2.1.any fun a => decide (Ring.lkN t.1 a = 0)) := by
      rw [← any_not]
      congr 2
      funext a
      rw [hasK_lk hk, Bool.not_not]
    rw [e, ← any_not validD]
    cases validRs t.2.1 <;> cases decide (t.2.2.1.length ≤ 8) <;> cases decide (t.2.2.2.length ≤ 8) <;> cases (t.2.2.1.any fun a => decide (Ring.lkN t.1 a = 0)) <;> rfl
set_option maxHeartbeats 2000000 in
theorem implValidTrust (V : Value) (t : Tpt) (w : World) (z : Bool) (hz : validT t = z) (h : kTp.At w V t) (hp : FitT t) :
    Calls Try.prog 11 #[V] w fun e w' => e = .returned (.bool z) ∧ Below w.heap.size w w' := by
  have hall := kTp_shapeA h
  obtain ⟨x0, n0, c0, x1, n1, c1, x2, n2, c2, x3, n3, c3, rfl, g0, g1, g2, g3⟩ := kTp_at h
  have b1 := (Below.refl w.heap.size w).alloc (Nat.le_refl _) (.cells #[.slice x0 n0 c0, .slice x1 n1 c1, .slice x2 n2 c2, .slice x3 n3 c3] 35)
  have HB := Lib.hid b1
  have HX := Lib.hid (Ret.Blk.new w #[.slice x0 n0 c0, .slice x1 n1 c1, .slice x2 n2 c2, .slice x3 n3 c3] 35)
  have G0 := Lib.hid (kK_ofK (g0.on b1)); have G1 := Lib.hid (g1.on b1); have G3 := Lib.hid (g3.on b1); have GT := Lib.hid (h.on b1)
  have HZ := Lib.hid (hz.symm.trans (validT_impl t)); have HP := Lib.hid hp
  clear b1 g0 g1 g2 g3 h hz hp hall
  have q0 : (w.alloc (.cells #[.slice x0 n0 c0, .slice x1 n1 c1, .slice x2 n2 c2, .slice x3 n3 c3] 35)).cell? ⟨w.heap.size, 0, none⟩ = some (.slice x0 n0 c0) := HX.out.cell 0
  have q1 : (w.alloc (.cells #[.slice x0 n0 c0, .slice x1 n1 c1, .slice x2 n2 c2, .slice x3 n3 c3] 35)).cell? ⟨w.heap.size, 1, none⟩ = some (.slice x1 n1 c1) := HX.out.cell 1
  have q2 : (w.alloc (.cells #[.slice x0 n0 c0, .slice x1 n1 c1, .slice x2 n2 c2, .slice x3 n3 c3] 35)).cell? ⟨w.heap.size, 2, none⟩ = some (.slice x2 n2 c2) := HX.out.cell 2
  have q3 : (w.alloc (.cells #[.slice x0 n0 c0, .slice x1 n1 c1, .slice x2 n2 c2, .slice x3 n3 c3] 35)).cell? ⟨w.heap.size, 3, none⟩ = some (.slice x3 n3 c3) := HX.out.cell 3
  go_enter Try.func11, Try.ntmps11
  go_wp2_with fail
  refine (Ring.implValidKeysK _ t.1 _ G0.out HP.out.keyWf HP.out.keys).mono ?_
  rintro e w1 ⟨rfl, hb⟩
  replace HX := Lib.hid (HX.out.on hb); replace G1 := Lib.hid (G1.out.on hb); replace G3 := Lib.hid (G3.out.on hb); replace GT := Lib.hid (GT.out.on hb)
  replace HB := Lib.hid (HB.out.trans (hb.mono HB.out.size)); clear hb q0 q1 q2 q3
  have q0 : w1.cell? ⟨w.heap.size, 0, none⟩ = some (.slice x0 n0 c0) := HX.out.cell 0
  have q1 : w1.cell? ⟨w.heap.size, 1, none⟩ = some (.slice x1 n1 c1) := HX.out.cell 1
  have q2 : w1.cell? ⟨w.heap.size, 2, none⟩ = some (.slice x2 n2 c2) := HX.out.cell 2
  have q3 : w1.cell? ⟨w.heap.size, 3, none⟩ = some (.slice x3 n3 c3) := HX.out.cell 3
  obtain ⟨k, hk⟩ : ∃ k, Ring.validK t.1 = k := ⟨_, rfl⟩
  rw [hk] at HZ ⊢
  clear hk
  cases k with
  | false =>
    have HE : Hid (z = false) := Lib.hid (by rw [HZ.out]; rfl)
    go_wp2_with fail
    go_ret
    exact ⟨ret_bool HE.out.symm, HB.out⟩
  | true =>
    obtain ⟨r, hr⟩ : ∃ r, validRs t.2.1 = r := ⟨_, rfl⟩
    have HR := Lib.hid hr
    rw [hr] at HZ
    clear hr
    go_wp2_with fail
    refine (implValidRules _ t.2.1 _ r HR.out G1.out HP.out.ruleLen HP.out.ruleWt).mono ?_
    rintro e w2 ⟨rfl, hb⟩
    replace HX := Lib.hid (HX.out.on hb); replace G3 := Lib.hid (G3.out.on hb); replace GT := Lib.hid (GT.out.on hb)
    replace HB := Lib.hid (HB.out.trans (hb.mono HB.out.size)); clear hb q0 q1 q2 q3
    have q0 : w2.cell? ⟨w.heap.size, 0, none⟩ = some (.slice x0 n0 c0) := HX.out.cell 0
    have q1 : w2.cell? ⟨w.heap.size, 1, none⟩ = some (.slice x1 n1 c1) := HX.out.cell 1
    have q2 : w2.cell? ⟨w.heap.size, 2, none⟩ = some (.slice x2 n2 c2) := HX.out.cell 2
    have q3 : w2.cell? ⟨w.heap.size, 3, none⟩ = some (.slice x3 n3 c3) := HX.out.cell 3
    cases r with
    | false =>
      have HE : Hid (z = false) := Lib.hid (by rw [HZ.out]; rfl)
      go_wp2_with fail
      go_ret
      exact ⟨ret_bool HE.out.symm, HB.out⟩
    | true =>
      obtain ⟨a, ha⟩ : ∃ a, (decide (t.2.2.1.length ≤ 8) && !(t.2.2.1.any fun a => decide (Ring.lkN t.1 a = 0))) = a := ⟨_, rfl⟩
      have HA := Lib.hid ha
      rw [ha] at HZ
      clear ha
      go_wp2_with fail
      refine (implValidAnchors _ t _ a HA.out GT.out HP.out).mono ?_
      rintro e w3 ⟨rfl, hb⟩
      replace HX := Lib.hid (HX.out.on hb); replace G3 := Lib.hid (G3.out.on hb)
      replace HB := Lib.hid (HB.out.trans (hb.mono HB.out.size)); clear hb q0 q1 q2 q3
      have q0 : w3.cell? ⟨w.heap.size, 0, none⟩ = some (.slice x0 n0 c0) := HX.out.cell 0
      have q1 : w3.cell? ⟨w.heap.size, 1, none⟩ = some (.slice x1 n1 c1) := HX.out.cell 1
      have q2 : w3.cell? ⟨w.heap.size, 2, none⟩ = some (.slice x2 n2 c2) := HX.out.cell 2
      have q3 : w3.cell? ⟨w.heap.size, 3, none⟩ = some (.slice x3 n3 c3) := HX.out.cell 3
      cases a with
      | false =>
        have HE : Hid (z = false) := Lib.hid (by rw [HZ.out]; rfl)
        go_wp2_with fail
        go_ret
        exact ⟨ret_bool HE.out.symm, HB.out⟩
      | true =>
        obtain ⟨c, hc⟩ : ∃ c, (decide (t.2.2.2.length ≤ 8) && !(t.2.2.2.any fun x => !validD x)) = c := ⟨_, rfl⟩
        have HC := Lib.hid hc
        rw [hc] at HZ
        clear hc
        have HE : Hid (z = c) := Lib.hid (by rw [HZ.out]; rfl)
        go_wp2_with fail
        refine (implValidCertificates _ t.2.2.2 _ c HC.out G3.out HP.out.certLen HP.out.certs).mono ?_
        rintro e w4 ⟨rfl, hb⟩
        replace HB := Lib.hid (HB.out.trans (hb.mono HB.out.size)); clear hb q0 q1 q2 q3
        go_wp2_with fail
        go_ret
        exact ⟨ret_bool HE.out.symm, HB.out⟩
end Go.Proofs.Ytcidfmmeonhkhaa.Row
/- The model's ValidTrust. No conditions but that lengths fit. -/
namespace Go.Proofs.Ytcidfmmeonhkhaa.Row
open Go.ChangeShapes Go.WideShapes Go.ChangeAt Go.RowKit Go.Instr
set_option linter.unusedVariables false
set_option maxRecDepth 100000

theorem l9K {V U : Value} {T : Ring.Kt} {m : List ByteArray} {w : World} (r : Int) (hr : Ring.ixT (Ring.isN m) T = r) (h : Ring.kK.At w V T) (g : kN.At w U m) (hl : Ring.bulkT T ≤ 1200000) (hm : bulk m ≤ 1200000) :
    Calls Try.prog 40 #[V, U] w fun e w' => e = .returned (.int .i64 r) ∧ Below w.heap.size w w' := by
  obtain ⟨u, rfl, g9⟩ := kN_at g
  exact hr ▸ Ring.l9Find V u T m w h g9 (Nat.le_trans (Ring.len_bulkT hl) (by decide)) (Ring.sm_bulkT hl) (by have := bulk_len m; omega)

set_option maxRecDepth 100000 in
set_option maxHeartbeats 4000000 in
theorem rvt {Q : Exit → Act → World → Prop} {v0 v2 v4 v5 v6 v7 v8 v9 v10 v11 v12 v13 v14 v15 v16 v17 v18 v19 v20 v21 v22 v23 v24 v25 v26 v27 v28 v29 v30 v31 v32 v33 v34 v35 v36 v37 v38 v39 v40 v41 v42 v43 v44 v45 v46 v47 v48 v49 v50 v51 v52 v53 v54 v55 v56 : Value} {w : World} {b off n c g k na ca : Nat} {xa : Option Addr} {T : Ring.Kt} {a : List ByteArray} {r : Int} {x0 : Option Addr} {n0 c0 : Nat} (hk : k < n) (hkc : k ≤ c) (hn : n ≤ 9000000) (HR : Hid (Ring.ixT (Ring.isN a) T = r)) (H_a : Hid (kN.At w (.agg #[.slice xa na ca]) a)) (H_t : Hid (Ring.kK.At w (.slice x0 n0 c0) T)) (HT : Hid (Ring.bulkT T ≤ 1200000)) (HA : Hid (bulk a ≤ 1200000)) (K0 : Hid (w.cell? ⟨g, 0, none⟩ = some (.slice x0 n0 c0))) (K1 : Hid (w.cell? ⟨g, 2, none⟩ = some (.slice (some ⟨b, off, none⟩) n c))) (K2 : Hid (w.cell? ⟨b, off + k, none⟩ = some (.slice xa na ca)))
    (hQ : ∀ (u34 u35 u36 u37 u38 u39 u40 u41 : Value)  (wx : World), Below w.heap.size w wx → Q .normal ⟨#[v0, .pointer (some ⟨g, 0, none⟩), v2, .int .i64 k, v4, v5, v6, v7, v8, v9, v10, v11, v12, v13, v14, v15, v16, v17, v18, v19, v20, v21, v22, v23, v24, v25, v26, v27, v28, v29, v30, v31, v32, v33, u34, u35, u36, u37, u38, u39, u40, u41, .bool (decide (r < 0)), v43, v44, v45, v46, v47, v48, v49, v50, v51, v52, v53, v54, v55, v56], []⟩ wx) :
    (Code.region 6 #[{ dst := some 34, op := Op.fieldAddr 35 (Operand.tmp 1) 0, type := 0, pos := "l11_trust.go:33", after := #[], guard := none },
      { dst := some 35, op := Op.load 30 (Operand.tmp 34), type := 30, pos := "l11_trust.go:33", after := #[{ on := 0, ground := Ground.data }], guard := none },
      { dst := some 36, op := Op.fieldAddr 35 (Operand.tmp 1) 2, type := 0, pos := "l11_trust.go:33", after := #[], guard := none },
      { dst := some 37, op := Op.load 32 (Operand.tmp 36), type := 32, pos := "l11_trust.go:33", after := #[{ on := 2, ground := Ground.data }], guard := none },
      { dst := some 38, op := Op.move (Operand.tmp 3), type := 3, pos := "l11_trust.go:33", after := #[], guard := none },
      { dst := some 39, op := Op.indexAddr 32 (Operand.tmp 37) (Operand.tmp 38), type := 0, pos := "l11_trust.go:33", after := #[{ on := 3, ground := Ground.data }, { on := 4, ground := Ground.data }], guard := none },
      { dst := some 40, op := Op.load 47 (Operand.tmp 39), type := 47, pos := "l11_trust.go:33", after := #[{ on := 5, ground := Ground.data }], guard := none },
      { dst := some 41, op := Op.call { callee := Callee.value (Operand.func 40), args := #[Operand.tmp 35, Operand.tmp 40], argTypes := #[30, 47] }, type := 3, pos := "l11_trust.go:33", after := #[{ on := 1, ground := Ground.data }, { on := 6, ground := Ground.data }], guard := none },
      { dst := some 42, op := Op.binOp BinOp.lss 3 (Operand.tmp 41) (Operand.const (Value.int IntKind.i64 0)) 3, type := 4, pos := "l11_trust.go:33", after := #[{ on := 7, ground := Ground.data }], guard := none }] true).wp Try.prog Q ⟨#[v0, .pointer (some ⟨g, 0, none⟩), v2, .int .i64 k, v4, v5, v6, v7, v8, v9, v10, v11, v12, v13, v14, v15, v16, v17, v18, v19, v20, v21, v22, v23, v24, v25, v26, v27, v28, v29, v30, v31, v32, v33, v34, v35, v36, v37, v38, v39, v40, v41, v42, v43, v44, v45, v46, v47, v48, v49, v50, v51, v52, v53, v54, v55, v56], []⟩ w := by
  have HQ := Lib.hid hQ; clear hQ
  have hdr : Below w.heap.size w w.drew := (Below.refl _ _).drew
  have BB := Lib.hid hdr
  refine wp_region_noPanic ?_
  refine wp_region_held_drew (S := (fun w' => w'.cell? ⟨g, 0, none⟩ = some (.slice x0 n0 c0) ∧ w'.cell? ⟨g, 2, none⟩ = some (.slice (some ⟨b, off, none⟩) n c) ∧ w'.cell? ⟨b, off + k, none⟩ = some (.slice xa na ca))) (by kernel_rfl) ?_ (fun hHeld => ?_)
  · exact ⟨kc K0.out BB.out, kc K1.out BB.out, kc K2.out BB.out⟩
  clear hdr
  generalize w.drew = wd at *
  refine wpAnyH_take (i := 0) (oi := { dst := some 34, op := Op.fieldAddr 35 (Operand.tmp 1) 0, type := 0, pos := "l11_trust.go:33", after := #[], guard := none }) (v := ?_) rfl (by kernel_rfl) (by kernel_rfl) (by kernel_rfl) (fun _ _ _ h => h) (Or.inl ⟨by rfl, ?_⟩) (by assumption) ?_
  rotate_left
  · intro w' hSw; (try dsimp only at hSw); first | (go_simp; done) | (go_simp; with_reducible rfl)
  (try simp only [Act.put, List.setIfInBounds_toArray, List.set_cons_zero, List.set_cons_succ])
  refine wpAnyH_take (i := 1) (oi := { dst := some 35, op := Op.load 30 (Operand.tmp 34), type := 30, pos := "l11_trust.go:33", after := #[{ on := 0, ground := Ground.data }], guard := none }) (v := ?_) rfl (by kernel_rfl) (by kernel_rfl) (by kernel_rfl) (fun _ _ _ h => h) (Or.inl ⟨by rfl, ?_⟩) (by assumption) ?_
  rotate_left
  · intro w' hSw; (try dsimp only at hSw); first | (go_simp; done) | (go_simp; with_reducible rfl)
  (try simp only [Act.put, List.setIfInBounds_toArray, List.set_cons_zero, List.set_cons_succ])
  refine wpAnyH_take (i := 2) (oi := { dst := some 36, op := Op.fieldAddr 35 (Operand.tmp 1) 2, type := 0, pos := "l11_trust.go:33", after := #[], guard := none }) (v := ?_) rfl (by kernel_rfl) (by kernel_rfl) (by kernel_rfl) (fun _ _ _ h => h) (Or.inl ⟨by rfl, ?_⟩) (by assumption) ?_
  rotate_left
  · intro w' hSw; (try dsimp only at hSw); first | (go_simp; done) | (go_simp; with_reducible rfl)
  (try simp only [Act.put, List.setIfInBounds_toArray, List.set_cons_zero, List.set_cons_succ])
  refine wpAnyH_take (i := 3) (oi := { dst := some 37, op := Op.load 32 (Operand.tmp 36), type := 32, pos := "l11_trust.go:33", after := #[{ on := 2, ground := Ground.data }], guard := none }) (v := ?_) rfl (by kernel_rfl) (by kernel_rfl) (by kernel_rfl) (fun _ _ _ h => h) (Or.inl ⟨by rfl, ?_⟩) (by assumption) ?_
  rotate_left
  · intro w' hSw; (try dsimp only at hSw); first | (go_simp; done) | (go_simp; with_reducible rfl)
  (try simp only [Act.put, List.setIfInBounds_toArray, List.set_cons_zero, List.set_cons_succ])
  refine wpAnyH_take (i := 4) (oi := { dst := some 38, op := Op.move (Operand.tmp 3), type := 3, pos := "l11_trust.go:33", after := #[], guard := none }) (v := ?_) rfl (by kernel_rfl) (by kernel_rfl) (by kernel_rfl) (fun _ _ _ h => h) (Or.inl ⟨by rfl, ?_⟩) (by assumption) ?_
  rotate_left
  · intro w' hSw; (try dsimp only at hSw); first | (go_simp; done) | (go_simp; with_reducible rfl)
  (try simp only [Act.put, List.setIfInBounds_toArray, List.set_cons_zero, List.set_cons_succ])
  refine wpAnyH_take (i := 5) (oi := { dst := some 39, op := Op.indexAddr 32 (Operand.tmp 37) (Operand.tmp 38), type := 0, pos := "l11_trust.go:33", after := #[{ on := 3, ground := Ground.data }, { on := 4, ground := Ground.data }], guard := none }) (v := ?_) rfl (by kernel_rfl) (by kernel_rfl) (by kernel_rfl) (fun _ _ _ h => h) (Or.inl ⟨by rfl, ?_⟩) (by assumption) ?_
  rotate_left
  · intro w' hSw; (try dsimp only at hSw); first | (go_simp; done) | (go_simp; with_reducible rfl)
  (try simp only [Act.put, List.setIfInBounds_toArray, List.set_cons_zero, List.set_cons_succ])
  refine wpAnyH_take (i := 6) (oi := { dst := some 40, op := Op.load 47 (Operand.tmp 39), type := 47, pos := "l11_trust.go:33", after := #[{ on := 5, ground := Ground.data }], guard := none }) (v := ?_) rfl (by kernel_rfl) (by kernel_rfl) (by kernel_rfl) (fun _ _ _ h => h) (Or.inl ⟨by rfl, ?_⟩) (by assumption) ?_
  rotate_left
  · intro w' hSw; (try dsimp only at hSw); first | (go_simp; done) | (go_simp; with_reducible rfl)
  (try simp only [Act.put, List.setIfInBounds_toArray, List.set_cons_zero, List.set_cons_succ])
  refine wpAnyH_ready (rs := [7]) (by kernel_rfl) (by simp) ?_
  refine AllReadyH.cons (o := { dst := some 41, op := Op.call { callee := Callee.value (Operand.func 40), args := #[Operand.tmp 35, Operand.tmp 40], argTypes := #[30, 47] }, type := 3, pos := "l11_trust.go:33", after := #[{ on := 1, ground := Ground.data }, { on := 6, ground := Ground.data }], guard := none }) rfl (fun K hK => ?_) AllReadyH.nil
  go_simp
  refine (l9K r HR.out (H_t.out.on BB.out) (H_a.out.on BB.out) HT.out HA.out).mono ?_
  rintro e wn1 ⟨rfl, hb⟩
  replace BB := Lib.hid (BB.out.trans (hb.mono BB.out.size))
  clear hb
  (try go_wp2_with fail)
  clear hHeld
  refine hK.out _ _ ?_ (fun hHeld => ?_)
  · (try dsimp only); exact ⟨kc K0.out BB.out, kc K1.out BB.out, kc K2.out BB.out⟩
  clear hK K
  (try simp only [Act.put, List.setIfInBounds_toArray, List.set_cons_zero, List.set_cons_succ])
  refine wpAnyH_take (i := 8) (oi := { dst := some 42, op := Op.binOp BinOp.lss 3 (Operand.tmp 41) (Operand.const (Value.int IntKind.i64 0)) 3, type := 4, pos := "l11_trust.go:33", after := #[{ on := 7, ground := Ground.data }], guard := none }) (v := ?_) rfl (by kernel_rfl) (by kernel_rfl) (by kernel_rfl) (fun _ _ _ h => h) (Or.inl ⟨by rfl, ?_⟩) (by assumption) ?_
  rotate_left
  · intro w' hSw; (try dsimp only at hSw); first | (go_simp; done) | (go_simp; with_reducible rfl)
  (try simp only [Act.put, List.setIfInBounds_toArray, List.set_cons_zero, List.set_cons_succ])
  refine wpAnyH_done (by kernel_rfl) ?_ _
  exact NoPanic.normal (HQ.out _ _ _ _ _ _ _ _  _  BB.out)

/-- Whether all names from k on have keys, all certificates are valid. -/
theorem all_at {α : Type} [Inhabited α] {p : α → Bool} {l : List α} {k : Nat} (hk : k < l.length) (h : p (nth l k) = false) : l.all p = false := by
  rw [List.all_eq_false]
  exact ⟨nth l k, nth_mem hk, by simp [h]⟩
theorem all_to {α : Type} [Inhabited α] {p : α → Bool} {l : List α} (h : ∀ j, j < l.length → p (nth l j) = true) : l.all p = true := by
  rw [List.all_eq_true]
  intro x hx
  obtain ⟨j, hj, rfl⟩ := List.getElem_of_mem hx
  rw [← nth_eq hj]; exact h j hj

set_option maxHeartbeats 8000000 in
theorem specValidTrust (V : Value) (t : Tpt) (w : World) (z : Bool) (hz : validT t = z) (h : kTp.At w V t) (hp : FitT t) :
    Calls Try.prog 9 #[V] w fun e w' => e = .returned (.bool z) ∧ Below w.heap.size w w' := by
  obtain ⟨x0, n0, c0, x1, n1, c1, x2, n2, c2, x3, n3, c3, rfl, g0, g1, g2, g3⟩ := kTp_at h
  obtain ⟨ad2, k2, d2, L2, e2, hn2, ht2, hh2, hel2⟩ := kLNn_at g2
  cases e2
  obtain ⟨ad3, k3, d3, L3, e3, hn3, ht3, hh3, hel3⟩ := kLDz_at g3
  cases e3
  have hl2 : t.2.2.1.length = n2 := by rw [← ht2, List.length_map]; exact hn2.symm
  have hl3 : t.2.2.2.length = n3 := by rw [← ht3, List.length_map]; exact hn3.symm
  have hcap2 : n2 ≤ c2 := by obtain ⟨x', n', cap', hv, hn', hc', -⟩ := hh2.shapeN; cases hv; exact hc'
  have hcap3 : n3 ≤ c3 := by obtain ⟨x', n', cap', hv, hn', hc', -⟩ := hh3.shapeN; cases hv; exact hc'
  have hs2 : n2 ≤ 9000000 := by rw [← hl2]; exact hp.nameLen
  have hs3 : n3 ≤ 9000000 := by rw [← hl3]; exact hp.certLen
  have hz2 := hz
  unfold validT at hz2
  rw [hl2, hl3] at hz2
  have b1 := (Below.refl w.heap.size w).alloc (Nat.le_refl _) (.cells #[.slice x0 n0 c0, .slice x1 n1 c1, .slice x2 n2 c2, .slice x3 n3 c3] 35)
  have HB := Lib.hid b1
  have HX := Lib.hid (Ret.Blk.new w #[.slice x0 n0 c0, .slice x1 n1 c1, .slice x2 n2 c2, .slice x3 n3 c3] 35)
  have G0 := Lib.hid (kK_ofK g0); have G1 := Lib.hid (g1.on b1)
  have H2 := Lib.hid hh2; have E2 := Lib.hid hel2; have T2 := Lib.hid ht2; have N2 := Lib.hid hn2; have L_2 := Lib.hid hl2
  have H3 := Lib.hid hh3; have E3 := Lib.hid hel3; have T3 := Lib.hid ht3; have N3 := Lib.hid hn3; have L_3 := Lib.hid hl3
  have HZ := Lib.hid hz2; have HP := Lib.hid hp
  clear b1 g0 g1 g2 g3 h hz hz2 hp hh2 hel2 ht2 hn2 hl2 hh3 hel3 ht3 hn3 hl3
  have q0 : (w.alloc (.cells #[.slice x0 n0 c0, .slice x1 n1 c1, .slice x2 n2 c2, .slice x3 n3 c3] 35)).cell? ⟨w.heap.size, 0, none⟩ = some (.slice x0 n0 c0) := HX.out.cell 0
  have q1 : (w.alloc (.cells #[.slice x0 n0 c0, .slice x1 n1 c1, .slice x2 n2 c2, .slice x3 n3 c3] 35)).cell? ⟨w.heap.size, 1, none⟩ = some (.slice x1 n1 c1) := HX.out.cell 1
  have q2 : (w.alloc (.cells #[.slice x0 n0 c0, .slice x1 n1 c1, .slice x2 n2 c2, .slice x3 n3 c3] 35)).cell? ⟨w.heap.size, 2, none⟩ = some (.slice x2 n2 c2) := HX.out.cell 2
  have q3 : (w.alloc (.cells #[.slice x0 n0 c0, .slice x1 n1 c1, .slice x2 n2 c2, .slice x3 n3 c3] 35)).cell? ⟨w.heap.size, 3, none⟩ = some (.slice x3 n3 c3) := HX.out.cell 3
  go_enter Try.func9, Try.ntmps9
  go_wp2_with fail
  refine (Ring.specValidKeysK _ t.1 _ (G0.out.on HB.out) HP.out.keys).mono ?_
  rintro e w1 ⟨rfl, hb⟩
  replace HX := Lib.hid (HX.out.on hb); replace G1 := Lib.hid (G1.out.on hb)
  replace HB := Lib.hid (HB.out.trans (hb.mono HB.out.size)); clear hb q0 q1 q2 q3
  have q0 : w1.cell? ⟨w.heap.size, 0, none⟩ = some (.slice x0 n0 c0) := HX.out.cell 0
  have q1 : w1.cell? ⟨w.heap.size, 1, none⟩ = some (.slice x1 n1 c1) := HX.out.cell 1
  have q2 : w1.cell? ⟨w.heap.size, 2, none⟩ = some (.slice x2 n2 c2) := HX.out.cell 2
  have q3 : w1.cell? ⟨w.heap.size, 3, none⟩ = some (.slice x3 n3 c3) := HX.out.cell 3
  obtain ⟨k, hk⟩ : ∃ k, Ring.validK t.1 = k := ⟨_, rfl⟩
  rw [hk] at HZ ⊢
  clear hk
  cases k with
  | false =>
    have HE : Hid (z = false) := Lib.hid (by rw [← HZ.out]; rfl)
    go_wp2_with fail
    go_ret
    exact ⟨ret_bool HE.out.symm, HB.out⟩
  | true =>
    obtain ⟨r, hr⟩ : ∃ r, validRs t.2.1 = r := ⟨_, rfl⟩
    have HR := Lib.hid hr
    rw [hr] at HZ
    clear hr
    go_wp2_with fail
    refine (specValidRules _ t.2.1 _ r HR.out G1.out HP.out.ruleLen HP.out.ruleWt).mono ?_
    rintro e w2 ⟨rfl, hb⟩
    replace HX := Lib.hid (HX.out.on hb)
    replace HB := Lib.hid (HB.out.trans (hb.mono HB.out.size)); clear hb q0 q1 q2 q3 G1
    have q0 : w2.cell? ⟨w.heap.size, 0, none⟩ = some (.slice x0 n0 c0) := HX.out.cell 0
    have q1 : w2.cell? ⟨w.heap.size, 1, none⟩ = some (.slice x1 n1 c1) := HX.out.cell 1
    have q2 : w2.cell? ⟨w.heap.size, 2, none⟩ = some (.slice x2 n2 c2) := HX.out.cell 2
    have q3 : w2.cell? ⟨w.heap.size, 3, none⟩ = some (.slice x3 n3 c3) := HX.out.cell 3
    cases r with
    | false =>
      have HE : Hid (z = false) := Lib.hid (by rw [← HZ.out]; rfl)
      go_wp2_with fail
      go_ret
      exact ⟨ret_bool HE.out.symm, HB.out⟩
    | true =>
      by_cases i2 : n2 ≤ 8
      · by_cases i3 : n3 ≤ 8
        · have HQ : Hid (z = (t.2.2.1.all (hasK t.1) && t.2.2.2.all validD)) := Lib.hid (by rw [← HZ.out]; simp [i2, i3])
          have j2 : ¬ (8 : Int) < n2 := by omega
          have j3 : ¬ (8 : Int) < n3 := by omega
          go_wp2_with fail
          clear q0 q1 q2 q3
          go_loopw [3] (fun i wr => ∃ k : Nat, k ≤ n2 ∧ i = .int .i64 k ∧ Hid (∀ j, j < k → hasK t.1 (nth t.2.2.1 j) = true) ∧ Hid (Ret.Blk wr w.heap.size #[.slice x0 n0 c0, .slice x1 n1 c1, .slice x2 n2 c2, .slice x3 n3 c3] 35) ∧ Hid (Below w.heap.size w wr)) (fun i _ => n2 - (intOf i).toNat)
          case atStart => exact ⟨0, Nat.zero_le _, rfl, Lib.hid (fun j hj => absurd hj (by omega)), HX, HB⟩
          case round =>
            obtain ⟨k, hk, rfl, ha, hx, hb⟩ := hrel
            have q0 : wr.cell? ⟨w.heap.size, 0, none⟩ = some (.slice x0 n0 c0) := hx.out.cell 0
            have q2 : wr.cell? ⟨w.heap.size, 2, none⟩ = some (.slice x2 n2 c2) := hx.out.cell 2
            have q3 : wr.cell? ⟨w.heap.size, 3, none⟩ = some (.slice x3 n3 c3) := hx.out.cell 3
            by_cases hlt : k < n2
            · have hlen := N2.out
              obtain ⟨b, off, y0, m0, d0, rfl, -, hc0, hA⟩ := kLNn_elem (H2.out.on hb.out) (fun y hy => kNn.holds_on (E2.out y hy) hb.out) (j := k) (by omega)
              have hpt : nth t.2.2.1 k = kNn.strip (nth L2 k) := by rw [← T2.out, nth_map _ (by omega)]
              have hps := HP.out.nameWt (nth t.2.2.1 k) (nth_mem (by have := L_2.out; omega))
              rw [← hpt] at hA
              have HA := Lib.hid hA; have HPS := Lib.hid hps; have HC0 := Lib.hid hc0
              clear hlen hpt hps hA hc0
              obtain ⟨r, hr⟩ : ∃ r, Ring.ixT (Ring.isN (nth t.2.2.1 k)) t.1 = r := ⟨_, rfl⟩
              have HV := Lib.hid hr; clear hr
              go_wp2_with fail
              clear q0 q2 q3
              refine rvt hlt (by omega) (by omega) HV HA (Lib.hid (G0.out.on hb.out)) (Lib.hid HP.out.keys) HPS (Lib.hid (hx.out.cell 0)) (Lib.hid (hx.out.cell 2)) HC0 ?_
              intro u34 u35 u36 u37 u38 u39 u40 u41 wx hb1
              replace hx := Lib.hid (hx.out.on hb1); replace hb := Lib.hid (hb.out.trans (hb1.mono hb.out.size)); clear hb1
              by_cases hr0 : r < 0
              · have HF : Hid (z = false) := Lib.hid (by
                  rw [HQ.out, all_at (p := hasK t.1) (k := k) (by have := L_2.out; omega) (by unfold hasK; rw [HV.out]; simp; omega)]
                  rfl)
                go_wp2_with fail
                go_ret
                exact ⟨ret_bool HF.out.symm, hb.out⟩
              · have HM := Lib.hid (show ∀ j, j < k + 1 → hasK t.1 (nth t.2.2.1 j) = true from fun j hj => by
                  rcases Nat.lt_succ_iff_lt_or_eq.1 hj with h5 | h5
                  · exact ha.out j h5
                  · subst h5; unfold hasK; rw [HV.out]; simp; omega)
                go_wp2_with fail
                go_roundw
                case rel => exact ⟨k + 1, by omega, by go_num, HM, hx, hb⟩
                case measure => simp [intOf]; omega
            · obtain rfl : n2 = k := by omega
              have HF : Hid (z = t.2.2.2.all validD) := Lib.hid (by rw [HQ.out, all_to (p := hasK t.1) (fun j hj => ha.out j (by have := L_2.out; omega)), Bool.true_and])
              clear hlt HQ ha
              go_wp2_with fail
              clear q0 q2 q3
              go_loopw [4] (fun i wr => ∃ k : Nat, k ≤ n3 ∧ i = .int .i64 k ∧ Hid (∀ j, j < k → validD (nth t.2.2.2 j) = true) ∧ Hid (Ret.Blk wr w.heap.size #[.slice x0 n0 c0, .slice x1 n1 c1, .slice x2 n2 c2, .slice x3 n3 c3] 35) ∧ Hid (Below w.heap.size w wr)) (fun i _ => n3 - (intOf i).toNat)
              case atStart => exact ⟨0, Nat.zero_le _, rfl, Lib.hid (fun j hj => absurd hj (by omega)), hx, hb⟩
              case round =>
                clear hx hb
                obtain ⟨k, hk, rfl, ha, hx, hb⟩ := hrel
                have q3 : wr.cell? ⟨w.heap.size, 3, none⟩ = some (.slice x3 n3 c3) := hx.out.cell 3
                by_cases hlt : k < n3
                · have hlen := N3.out
                  obtain ⟨b, off, y0, m0, d0, y1, m1, d1, y2, m2, d2, rfl, -, hc0, hc1, hc2, hc3, hc4, hA⟩ := kLDz_elem (H3.out.on hb.out) (fun y hy => kDz.holds_on (E3.out y hy) hb.out) (j := k) (by omega)
                  have hpt : nth t.2.2.2 k = kDz.strip (nth L3 k) := by rw [← T3.out, nth_map _ (by omega)]
                  have hps := (HP.out.certs (nth t.2.2.2 k) (nth_mem (by have := L_3.out; omega))).bulk9
                  rw [hpt] at hps
                  have HCL := Lib.hid (specValidDataK _ _ _ (kD_ofK hA) hps)
                  have HPT := Lib.hid hpt
                  clear hlen hpt hps hA
                  go_wp2_with fail
                  refine HCL.out.mono ?_
                  rintro e w9 ⟨rfl, hb1⟩
                  replace hx := Lib.hid (hx.out.on hb1); replace hb := Lib.hid (hb.out.trans (hb1.mono hb.out.size)); clear hb1 HCL q3 hc0 hc1 hc2 hc3 hc4
                  rw [← HPT.out]
                  obtain ⟨v, hv⟩ : ∃ v, validD (nth t.2.2.2 k) = v := ⟨_, rfl⟩
                  rw [hv]
                  have HV := Lib.hid hv
                  clear hv
                  cases v with
                  | false =>
                    have HG : Hid (z = false) := Lib.hid (by rw [HF.out, all_at (p := validD) (k := k) (by have := L_3.out; omega) HV.out])
                    go_wp2_with fail
                    go_ret
                    exact ⟨ret_bool HG.out.symm, hb.out⟩
                  | true =>
                    have HM := Lib.hid (show ∀ j, j < k + 1 → validD (nth t.2.2.2 j) = true from fun j hj => by
                      rcases Nat.lt_succ_iff_lt_or_eq.1 hj with h5 | h5
                      · exact ha.out j h5
                      · subst h5; exact HV.out)
                    go_wp2_with fail
                    go_roundw
                    case rel => exact ⟨k + 1, by omega, by go_num, HM, hx, hb⟩
                    case measure => simp [intOf]; omega
                · obtain rfl : k = n3 := by omega
                  have HG : Hid (z = true) := Lib.hid (by rw [HF.out, all_to (p := validD) (fun j hj => ha.out j (by have := L_3.out; omega))])
                  clear hlt
                  go_wp2_with fail
                  go_ret
                  exact ⟨ret_bool HG.out.symm, hb.out⟩
        · have HE : Hid (z = false) := Lib.hid (by rw [← HZ.out]; simp [i3])
          have j2 : ¬ (8 : Int) < n2 := by omega
          have j3 : (8 : Int) < n3 := by omega
          go_wp2_with fail
          go_ret
          exact ⟨ret_bool HE.out.symm, HB.out⟩
      · have HE : Hid (z = false) := Lib.hid (by rw [← HZ.out]; simp [i2])
        have j2 : (8 : Int) < n2 := by omega
        go_wp2_with fail
        go_ret
        exact ⟨ret_bool HE.out.symm, HB.out⟩
end Go.Proofs.Ytcidfmmeonhkhaa.Row
