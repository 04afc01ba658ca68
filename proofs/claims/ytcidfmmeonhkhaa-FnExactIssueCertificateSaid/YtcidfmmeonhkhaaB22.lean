/- Contracts and mathematics, joined: TrustF, RuleP, TrustP, TrustQ. No conditions but those that each states. -/
import Derived.WalkKit
import Derived.Deep.RegionHeld3
import Derived.Test.YtcidfmmeonhkhaaB21
import Derived.Test.YtcidfmmeonhkhaaB20
/- The model's FindCertificate. No conditions but that lengths fit. -/
namespace Go.Proofs.Ytcidfmmeonhkhaa.Row
open Go.ChangeShapes Go.WideShapes Go.ChangeAt Go.RowKit Go.Instr
set_option linter.unusedVariables false
set_option maxRecDepth 100000

theorem kDz_parts {w : World} {xa xb xc : Option Addr} {na ca nb cb nc cc : Nat} {f s : Int} {x : Dt} (h : kD.At w (.agg #[.slice xa na ca, .slice xb nb cb, .slice xc nc cc, .int .i64 f, .int .i64 s]) x) : kN.At w (.agg #[.slice xa na ca]) x.1 ∧ Sl.Holds .u8 w (.slice xb nb cb) x.2.1 ∧ kN.At w (.agg #[.slice xc nc cc]) x.2.2.1 := by
  obtain ⟨⟨h0, h1, h2⟩, -, -⟩ := Ring.kD_cells h
  exact ⟨kN_of h0, h1, kN_of h2⟩
set_option maxHeartbeats 8000000 in
theorem specFindCertificate (V U : Value) (t : Tpt) (m : List ByteArray) (now : Int) (w : World) (z : Int) (hz : findC t m now = z) (h : kTp.At w V t) (g : kN.At w U m) (hp : FitT t) (hm : bulk m ≤ 1200000) :
    Calls Try.prog 26 #[V, U, .int .i64 now] w fun e w' => e = .returned (.int .i64 z) ∧ Below w.heap.size w w' := by
  obtain ⟨x0, n0, c0, x1, n1, c1, x2, n2, c2, x3, n3, c3, rfl, g0, g1, g2, g3⟩ := kTp_at h
  obtain ⟨ad3, k3, d3, L3, e3, hn3, ht3, hh3, hel3⟩ := kLDz_at g3
  cases e3
  obtain ⟨xn, nn, cn, rfl, g⟩ := kN_shapeA g
  have hl3 : t.2.2.2.length = n3 := by rw [← ht3, List.length_map]; exact hn3.symm
  have hcap3 : n3 ≤ c3 := by obtain ⟨x', n', cap', hv, hn', hc', -⟩ := hh3.shapeN; cases hv; exact hc'
  have hs3 : n3 ≤ 9000000 := by rw [← hl3]; exact hp.certLen
  have b1 := (Below.refl w.heap.size w).alloc (Nat.le_refl _) (.cells #[.slice x0 n0 c0, .slice x1 n1 c1, .slice x2 n2 c2, .slice x3 n3 c3] 35)
  have b2 := (Below.refl (w.alloc (.cells #[.slice x0 n0 c0, .slice x1 n1 c1, .slice x2 n2 c2, .slice x3 n3 c3] 35)).heap.size (w.alloc (.cells #[.slice x0 n0 c0, .slice x1 n1 c1, .slice x2 n2 c2, .slice x3 n3 c3] 35))).alloc (Nat.le_refl _) (.cells #[.slice xn nn cn] 47)
  have HB := Lib.hid (b1.trans (b2.mono b1.size))
  have HX := Lib.hid ((Ret.Blk.new w #[.slice x0 n0 c0, .slice x1 n1 c1, .slice x2 n2 c2, .slice x3 n3 c3] 35).on b2)
  have HY := Lib.hid (Ret.Blk.new' (w := (w.alloc (.cells #[.slice x0 n0 c0, .slice x1 n1 c1, .slice x2 n2 c2, .slice x3 n3 c3] 35))) (n := w.heap.size + 1) #[.slice xn nn cn] 47 (by simp))
  have G0 := Lib.hid (kK_ofK g0); have GN := Lib.hid g
  have H3 := Lib.hid hh3; have E3 := Lib.hid hel3; have T3 := Lib.hid ht3; have N3 := Lib.hid hn3; have L_3 := Lib.hid hl3
  have HZ := Lib.hid hz; have HP := Lib.hid hp
  clear b1 b2 g0 g1 g2 g3 g h hz hp hh3 hel3 ht3 hn3 hl3
  have q0 : ((w.alloc (.cells #[.slice x0 n0 c0, .slice x1 n1 c1, .slice x2 n2 c2, .slice x3 n3 c3] 35)).alloc (.cells #[.slice xn nn cn] 47)).cell? ⟨w.heap.size, 0, none⟩ = some (.slice x0 n0 c0) := HX.out.cell 0
  have qn : ((w.alloc (.cells #[.slice x0 n0 c0, .slice x1 n1 c1, .slice x2 n2 c2, .slice x3 n3 c3] 35)).alloc (.cells #[.slice xn nn cn] 47)).cell? ⟨w.heap.size + 1, 0, none⟩ = some (.slice xn nn cn) := HY.out.cell 0
  go_enter Try.func26, Try.ntmps26
  go_wp2_with fail
  refine (Ring.specSecretOfK _ _ t.1 m _ (G0.out.on HB.out) (GN.out.on HB.out) HP.out.keys hm).mono ?_
  rintro e w1 ⟨rfl, hb⟩
  replace HX := Lib.hid (HX.out.on hb); replace HY := Lib.hid (HY.out.on hb)
  replace HB := Lib.hid (HB.out.trans (hb.mono HB.out.size)); clear hb q0 qn
  obtain ⟨s, hs⟩ : ∃ s, Ring.lkN t.1 m = s := ⟨_, rfl⟩
  rw [hs]
  have HS := Lib.hid hs
  clear hs
  by_cases h0 : s = 0
  · subst h0
    have HE : Hid (z = -1) := Lib.hid (by rw [← HZ.out]; unfold findC; rw [if_pos HS.out])
    go_wp2_with fail
    go_ret
    exact ⟨ret_int HE.out.symm, HB.out⟩
  · have HQ : Hid (ixL (certP t.1 m now) t.2.2.2 = z) := Lib.hid (by rw [← HZ.out]; unfold findC; rw [HS.out, if_neg h0])
    clear HZ HS
    go_wp2_with fail
    clear h0
    go_loopw [7] (fun i wr => ∃ k : Nat, k ≤ n3 ∧ i = .int .i64 k ∧ Hid (noL (certP t.1 m now) t.2.2.2 k) ∧ Hid (Ret.Blk wr w.heap.size #[.slice x0 n0 c0, .slice x1 n1 c1, .slice x2 n2 c2, .slice x3 n3 c3] 35) ∧ Hid (Ret.Blk wr (w.heap.size + 1) #[.slice xn nn cn] 47) ∧ Hid (Below w.heap.size w wr)) (fun i _ => n3 - (intOf i).toNat)
    case atStart => exact ⟨0, Nat.zero_le _, rfl, Lib.hid (noL_zero _ _), HX, HY, HB⟩
    case round =>
      clear HX HY HB
      obtain ⟨k, hk, rfl, ha, hx, hy, hb⟩ := hrel
      have q3 : wr.cell? ⟨w.heap.size, 3, none⟩ = some (.slice x3 n3 c3) := hx.out.cell 3
      by_cases hlt : k < n3
      · have hlen := N3.out
        obtain ⟨b, off, y0, m0, d0, y1, m1, d1, y2, m2, d2, rfl, -, hc0, hc1, hc2, hc3, hc4, hA⟩ := kLDz_elem (H3.out.on hb.out) (fun y hy => kDz.holds_on (E3.out y hy) hb.out) (j := k) (by omega)
        have hpt : nth t.2.2.2 k = kDz.strip (nth L3 k) := by rw [← T3.out, nth_map _ (by omega)]
        have hps := HP.out.certs (nth t.2.2.2 k) (nth_mem (by have := L_3.out; omega))
        rw [hpt] at hps
        have HA := Lib.hid hA; have HFF := Lib.hid hps
        have HPT := Lib.hid hpt
        clear hlen hpt hps hA
        obtain ⟨wz, hwz⟩ : ∃ wz, wr.alloc (.cells #[.slice y0 m0 d0, .slice y1 m1 d1, .slice y2 m2 d2, .int .i64 (kDz.strip (nth L3 k)).2.2.2.1, .int .i64 (kDz.strip (nth L3 k)).2.2.2.2] 61) = wz := ⟨_, rfl⟩
        have hbz := (Below.refl wr.heap.size wr).alloc (Nat.le_refl _) (.cells #[.slice y0 m0 d0, .slice y1 m1 d1, .slice y2 m2 d2, .int .i64 (kDz.strip (nth L3 k)).2.2.2.1, .int .i64 (kDz.strip (nth L3 k)).2.2.2.2] 61)
        have hv := Ret.Blk.new wr #[.slice y0 m0 d0, .slice y1 m1 d1, .slice y2 m2 d2, .int .i64 (kDz.strip (nth L3 k)).2.2.2.1, .int .i64 (kDz.strip (nth L3 k)).2.2.2.2] 61
        rw [hwz] at hbz hv
        have HWZ := Lib.hid hwz
        replace hv := Lib.hid hv
        clear hwz
        go_wp2_with fail
        rw [HWZ.out]
        clear HWZ
        replace hx := Lib.hid (hx.out.on hbz); replace hy := Lib.hid (hy.out.on hbz); replace hb := Lib.hid (hb.out.trans (hbz.mono hb.out.size))
        obtain ⟨b8, hb8⟩ : ∃ b8, wr.heap.size = b8 := ⟨_, rfl⟩
        rw [hb8] at hv ⊢
        clear hb8 q3 hc0 hc1 hc2 hc3 hc4
        have HXX := Lib.hid (kD_ofK (HA.out.on hbz)); have HMM := Lib.hid (GN.out.on hb.out); have HTT := Lib.hid (G0.out.on hb.out)
        obtain ⟨hAn, hAb, hAc⟩ := kDz_parts HXX.out
        have HNN := Lib.hid hAn; have HBB := Lib.hid hAb
        clear hAn hAb hAc HA hbz
        obtain ⟨e1, he1⟩ : ∃ e, decide ((kDz.strip (nth L3 k)).1 = m) = e := ⟨_, rfl⟩
        obtain ⟨e2, he2⟩ : ∃ e, decide (now ≤ (kDz.strip (nth L3 k)).2.2.2.1) = e := ⟨_, rfl⟩
        obtain ⟨e3, he3⟩ : ∃ e, verD (Ring.lkN t.1 (kDz.strip (nth L3 k)).2.2.1) (kDz.strip (nth L3 k)) = e := ⟨_, rfl⟩
        obtain ⟨e4, he4⟩ : ∃ e, decide ((kDz.strip (nth L3 k)).2.1 = digK t.1 m) = e := ⟨_, rfl⟩
        have HCP : Hid (certP t.1 m now (kDz.strip (nth L3 k)) = (e1 && e2 && e4 && e3)) := Lib.hid (by unfold certP; rw [he1, he2, he3, he4])
        have H1 := Lib.hid he1; have H2 := Lib.hid he2; have H3' := Lib.hid he3; have H4 := Lib.hid he4
        clear he1 he2 he3 he4
        cases e1 with
        | false =>
          replace HCP : Hid (certP t.1 m now (kDz.strip (nth L3 k)) = false) := Lib.hid (by rw [HCP.out]; rfl)
          refine rfc1 HXX HMM HNN HBB HTT HFF (Lib.hid hm) (Lib.hid HP.out.keys) H1 (Lib.hid (hv.out.cell 0)) (Lib.hid (hv.out.cell 1)) (Lib.hid (hv.out.cell 2)) (Lib.hid (hv.out.cell 3)) (Lib.hid (hv.out.cell 4)) (Lib.hid (hy.out.cell 0)) (Lib.hid (hx.out.cell 0)) ?_
          intro u26 u27 u28 u29 u30 u31 u32 u33 u34 u35 u36 u37 u38 u39 u40 u41 u42 u43 u44 u45 u46 u47 u48 wx hb1
          replace hx := Lib.hid (hx.out.on hb1); replace hy := Lib.hid (hy.out.on hb1); replace hb := Lib.hid (hb.out.trans (hb1.mono hb.out.size)); clear hb1 hv
          have HM := Lib.hid (noL_succ ha.out (HPT.out ▸ HCP.out))
          go_wp2_with fail
          go_roundw
          case rel => exact ⟨k + 1, by omega, by go_num, HM, hx, hy, hb⟩
          case measure => simp [intOf]; omega
        | true =>
          cases e2 with
          | false =>
            replace HCP : Hid (certP t.1 m now (kDz.strip (nth L3 k)) = false) := Lib.hid (by rw [HCP.out]; rfl)
            refine rfc2 HXX HMM HNN HBB HTT HFF (Lib.hid hm) (Lib.hid HP.out.keys) H1 H2 (Lib.hid (hv.out.cell 0)) (Lib.hid (hv.out.cell 1)) (Lib.hid (hv.out.cell 2)) (Lib.hid (hv.out.cell 3)) (Lib.hid (hv.out.cell 4)) (Lib.hid (hy.out.cell 0)) (Lib.hid (hx.out.cell 0)) ?_
            intro u26 u27 u28 u29 u30 u31 u32 u33 u34 u35 u36 u37 u38 u39 u40 u41 u42 u43 u44 u45 u46 u47 u48 wx hb1
            replace hx := Lib.hid (hx.out.on hb1); replace hy := Lib.hid (hy.out.on hb1); replace hb := Lib.hid (hb.out.trans (hb1.mono hb.out.size)); clear hb1 hv
            have HM := Lib.hid (noL_succ ha.out (HPT.out ▸ HCP.out))
            go_wp2_with fail
            go_roundw
            case rel => exact ⟨k + 1, by omega, by go_num, HM, hx, hy, hb⟩
            case measure => simp [intOf]; omega
          | true =>
            cases e3 with
            | false =>
              replace HCP : Hid (certP t.1 m now (kDz.strip (nth L3 k)) = false) := Lib.hid (by rw [HCP.out, Bool.and_false])
              refine rfc3 HXX HMM HNN HBB HTT HFF (Lib.hid hm) (Lib.hid HP.out.keys) H1 H2 H3' (Lib.hid (hv.out.cell 0)) (Lib.hid (hv.out.cell 1)) (Lib.hid (hv.out.cell 2)) (Lib.hid (hv.out.cell 3)) (Lib.hid (hv.out.cell 4)) (Lib.hid (hy.out.cell 0)) (Lib.hid (hx.out.cell 0)) ?_
              intro u26 u27 u28 u29 u30 u31 u32 u33 u34 u35 u36 u37 u38 u39 u40 u41 u42 u43 u44 u45 u46 u47 u48 wx hb1
              replace hx := Lib.hid (hx.out.on hb1); replace hy := Lib.hid (hy.out.on hb1); replace hb := Lib.hid (hb.out.trans (hb1.mono hb.out.size)); clear hb1 hv
              have HM := Lib.hid (noL_succ ha.out (HPT.out ▸ HCP.out))
              go_wp2_with fail
              go_roundw
              case rel => exact ⟨k + 1, by omega, by go_num, HM, hx, hy, hb⟩
              case measure => simp [intOf]; omega
            | true =>
              replace HCP : Hid (certP t.1 m now (kDz.strip (nth L3 k)) = e4) := Lib.hid (by rw [HCP.out]; simp)
              refine rfc4 HXX HMM HNN HBB HTT HFF (Lib.hid hm) (Lib.hid HP.out.keys) H1 H2 H3' H4 (Lib.hid (hv.out.cell 0)) (Lib.hid (hv.out.cell 1)) (Lib.hid (hv.out.cell 2)) (Lib.hid (hv.out.cell 3)) (Lib.hid (hv.out.cell 4)) (Lib.hid (hy.out.cell 0)) (Lib.hid (hx.out.cell 0)) ?_
              intro u26 u27 u28 u29 u30 u31 u32 u33 u34 u35 u36 u37 u38 u39 u40 u41 u42 u43 u44 u45 u46 u47 u48 wx hb1
              replace hx := Lib.hid (hx.out.on hb1); replace hy := Lib.hid (hy.out.on hb1); replace hb := Lib.hid (hb.out.trans (hb1.mono hb.out.size)); clear hb1 hv
              cases e4 with
              | false =>
                have HM := Lib.hid (noL_succ ha.out (HPT.out ▸ HCP.out))
                go_wp2_with fail
                go_roundw
                case rel => exact ⟨k + 1, by omega, by go_num, HM, hx, hy, hb⟩
                case measure => simp [intOf]; omega
              | true =>
                have HF : Hid (z = (k : Int)) := Lib.hid (HQ.out.symm.trans (ixL_at (by have := L_3.out; omega) ha.out (HPT.out ▸ HCP.out)))
                go_wp2_with fail
                go_ret
                exact ⟨ret_int HF.out.symm, hb.out⟩
      · obtain rfl : k = n3 := by omega
        have HF : Hid (z = -1) := Lib.hid (HQ.out.symm.trans (ixL_none (by rw [L_3.out]; exact ha.out)))
        clear hlt
        go_wp2_with fail
        go_ret
        exact ⟨ret_int HF.out.symm, hb.out⟩
end Go.Proofs.Ytcidfmmeonhkhaa.Row
/- The program's chapter 10, its first part: ValidRule, ValidRules, FormatRule, EqualRules. No conditions but that lengths fit. -/
namespace Go.Proofs.Ytcidfmmeonhkhaa.Row
open Go.ChangeShapes Go.WideShapes Go.ChangeAt Go.RowKit Go.Instr
set_option linter.unusedVariables false
set_option maxRecDepth 100000

/-- The text s is a letter that does not stand in p. -/
def freeL (p : List ByteArray) (s : ByteArray) : Bool := letterP s && !hasP p s
end Go.Proofs.Ytcidfmmeonhkhaa.Row
/- The program's chapter 11, its first part: IsAnchor, KeyDigest, ValidTrust. No conditions but that lengths fit. -/
namespace Go.Proofs.Ytcidfmmeonhkhaa.Row
open Go.ChangeShapes Go.WideShapes Go.ChangeAt Go.RowKit Go.Instr
set_option linter.unusedVariables false
set_option maxRecDepth 100000

theorem iEqN {w : World} {V U : Value} {l m : List ByteArray} (z : Bool) (hz : decide (l = m) = z) (h : kN.At w V l) (g : kN.At w U m) (hl : bulk l ≤ 9000000) (hm : bulk m ≤ 9000000) :
    Calls Try.prog 71 #[V, U] w fun e w' => e = .returned (.bool z) ∧ Below w.heap.size w w' := by
  obtain ⟨v, rfl, h9⟩ := kN_at h
  obtain ⟨u, rfl, g9⟩ := kN_at g
  exact hz ▸ implEqualNames v u l m w h9 g9 (by have := bulk_len l; omega) (by have := bulk_len m; omega)

/-! ### IsAnchor -/
/-! ### KeyDigest -/
set_option maxHeartbeats 4000000 in
theorem implKeyDigest (V U : Value) (T : Ring.Kt) (m : List ByteArray) (w : World) (z : List Int) (hz : digK T m = z) (h : Ring.kK.At w V T) (g : kN.At w U m) (hl : Ring.bulkT T ≤ 1200000) (hm : bulk m ≤ 1200000) :
    Calls Try.prog 18 #[V, U] w (Sl.GivesB w z) := by
  obtain ⟨x, n, c, rfl, h⟩ := Ring.kK_shapeA h
  obtain ⟨xn, nn, cn, rfl, g⟩ := kN_shapeA g
  have hal := (Below.refl w.heap.size w).alloc (Nat.le_refl _) (.cells #[.slice xn nn cn] 47)
  have HB := Lib.hid hal
  have HC := Lib.hid (Ret.Box.new w (.slice xn nn cn) 47)
  have HS := Lib.hid (Ring.implSecretOfK _ _ T m _ (h.on hal) (g.on hal) hl hm)
  have HZ := Lib.hid hz
  clear h g hal hz hl hm
  go_enter Try.func18, Try.ntmps18
  have c0 := HC.out.cell
  go_wp2_with fail
  refine HS.out.mono ?_
  rintro e w1 ⟨rfl, hb⟩
  replace HB := Lib.hid (HB.out.trans (hb.mono HB.out.size))
  clear hb c0 HS HC
  obtain ⟨s, hs⟩ : ∃ s, Ring.lkN T m = s := ⟨_, rfl⟩
  rw [hs]
  have HK := Lib.hid hs
  clear hs
  by_cases h0 : s = 0
  · subst h0
    have HE := Lib.hid (show z = [] by rw [← HZ.out]; unfold digK; rw [if_pos HK.out])
    have HO := Lib.hid (Sl.own_empty .u8 5 w1)
    go_wp2_with fail
    go_ret
    exact ⟨_, rfl, by rw [HE.out]; exact Sl.Own.mono HO.out HB.out.size, HB.out.alloc HB.out.size _⟩
  · have HE := Lib.hid (show z = [] ++ Var.var (Seal.digest [s]) by rw [← HZ.out]; unfold digK; rw [HK.out, if_neg h0]; rfl)
    have hb2 := (Below.refl w1.heap.size w1).alloc (Nat.le_refl _) (.cells #[.int .i64 s] 3)
    have HO := Lib.hid (show Sl.Holds .u8 (w1.alloc (.cells #[.int .i64 s] 3)) (.slice none 0 0) [] from ⟨none, 0, rfl, Nat.le_refl _, Or.inl rfl⟩)
    have HI := Lib.hid (Sl.holds_one .i64 3 w1 s)
    have HBB := Lib.hid (HB.out.trans (hb2.mono HB.out.size))
    clear hb2
    go_wp2_with fail
    refine (Sl.implDigest _ [s] _ HI.out (by simp)).mono ?_
    rintro e w2 ⟨rfl, rfl⟩
    go_wp2_with fail
    refine (Sl.implAppendVarint _ [] _ _ HO.out (by decide)).mono ?_
    rintro e w3 ⟨v, rfl, ho, hb⟩
    have HV := Lib.hid (Sl.Own.mono ho HBB.out.size); have HB3 := Lib.hid (HBB.out.trans (hb.mono HBB.out.size))
    clear ho hb
    go_wp2_with fail
    go_ret
    exact ⟨_, rfl, by rw [HE.out]; exact HV.out, HB3.out⟩

/-! ### ValidTrust -/
end Go.Proofs.Ytcidfmmeonhkhaa.Row
/- The program's FindCertificate (slices.IndexFunc with a closure). No conditions but that lengths fit. -/
namespace Go.Proofs.Ytcidfmmeonhkhaa.Row
open Go.ChangeShapes Go.WideShapes Go.ChangeAt Go.RowKit Go.Instr
set_option linter.unusedVariables false
set_option maxRecDepth 100000

theorem iFrV {V : Value} {x : Dt} {n : Int} {w : World} (q : Bool) (hq : decide (n ≤ x.2.2.2.1) = q) (h : kD.At w V x) :
    Calls Try.prog 72 #[V, .int .i64 n] w fun e w' => e = .returned (.bool q) ∧ Below w.heap.size w w' := hq ▸ implFreshAtK V x n w h
theorem iVsV {V U : Value} {T : Ring.Kt} {x : Dt} {w : World} (q : Bool) (hq : verD (Ring.lkN T x.2.2.1) x = q) (h : Ring.kK.At w V T) (g : kD.At w U x) (gn : WfD x) (hl : Ring.bulkT T ≤ 1200000) (hx : bulkD x ≤ 1200000) :
    Calls Try.prog 74 #[V, U] w fun e w' => e = .returned (.bool q) ∧ Below w.heap.size w w' := hq ▸ Ring.implVerifySignatureK V U T x w h g gn hl hx
theorem iEbV {V U : Value} {l m : List Int} {w : World} (q : Bool) (hq : decide (l = m) = q) (h : Sl.Holds .u8 w V l) (g : Sl.Holds .u8 w U m) (hl : Sl.Byt l) (hm : Sl.Byt m) :
    Calls Try.prog 73 #[V, U] w fun e w' => e = .returned (.bool q) ∧ w = w' := hq ▸ Sl.implEqualBytes V U l m w h g hl hm
theorem digK_nil (T : Ring.Kt) (m : List ByteArray) : (digK T m).length = 0 ↔ Ring.lkN T m = 0 := by
  unfold digK
  by_cases h : Ring.lkN T m = 0
  · rw [if_pos h]; simp [h]
  · rw [if_neg h]
    have h1 := Seal.digest_in [Ring.lkN T m]
    have h2 : Var.var (Seal.digest [Ring.lkN T m]) ≠ [] := by
      unfold Var.var
      rw [if_pos (by omega)]
      exact Var.enc_ne _
    constructor
    · intro h3; exact absurd (List.length_eq_zero_iff.1 h3) h2
    · intro h3; exact absurd h3 h

set_option maxHeartbeats 4000000 in
theorem certClos (gn gw gd gt : Nat) (V : Value) (x : Dzt) (t : Tpt) (m : List ByteArray) (now : Int) (dg : List Int) (xn xd x0 x1 x2 x3 : Option Addr) (nn cn nd cd n0 c0 n1 c1 n2 c2 n3 c3 : Nat) (w : World) (z : Bool)
    (hz : (decide (x.1 = m) && decide (now ≤ x.2.2.2.1) && decide (x.2.1 = dg) && verD (Ring.lkN t.1 x.2.2.1) x) = z)
    (hn : Ret.Blk w gn #[.slice xn nn cn] 47) (hw : Ret.Blk w gw #[.int .i64 now] 3) (hd : Ret.Blk w gd #[.slice xd nd cd] 44) (ht : Ret.Blk w gt #[.slice x0 n0 c0, .slice x1 n1 c1, .slice x2 n2 c2, .slice x3 n3 c3] 35)
    (h : kDz.At w V x) (g : kN.At w (.agg #[.slice xn nn cn]) m) (gd9 : Sl.Holds .u8 w (.slice xd nd cd) dg) (gk : kLKy.At w (.slice x0 n0 c0) t.1) (hl : FitD x) (hm : bulk m ≤ 1200000) (hk : Ring.bulkT t.1 ≤ 1200000) (hby : Sl.Byt dg) :
    Calls Try.prog 70 #[V, .pointer (some ⟨gn, 0, none⟩), .pointer (some ⟨gw, 0, none⟩), .pointer (some ⟨gd, 0, none⟩), .pointer (some ⟨gt, 0, none⟩)] w fun e w' => e = .returned (.bool z) ∧ Below w.heap.size w w' := by
  obtain ⟨ya, ma, da, yb, mb, db, yc, mc, dc_, rfl, h⟩ := kD_shapeA (kD_ofK h)
  have hal := (Below.refl w.heap.size w).alloc (Nat.le_refl _) (.cells #[.slice ya ma da, .slice yb mb db, .slice yc mc dc_, .int .i64 x.2.2.2.1, .int .i64 x.2.2.2.2] 61)
  have HB := Lib.hid hal
  have HV := Lib.hid (Ret.Blk.new w #[.slice ya ma da, .slice yb mb db, .slice yc mc dc_, .int .i64 x.2.2.2.1, .int .i64 x.2.2.2.2] 61)
  have HN := Lib.hid (hn.on hal); have HW := Lib.hid (hw.on hal); have HD := Lib.hid (hd.on hal); have HT := Lib.hid (ht.on hal)
  obtain ⟨k1, k2, k3⟩ := kDz_parts (h.on hal)
  have HNM := Lib.hid k1; have HBY := Lib.hid k2
  have HX := Lib.hid (h.on hal); have HM := Lib.hid (g.on hal); have HG := Lib.hid (gd9.on hal); have HK := Lib.hid (kK_ofK (gk.on hal))
  have HL := Lib.hid hl; have HBD := Lib.hid hby
  obtain ⟨e1, he1⟩ : ∃ e, decide (x.1 = m) = e := ⟨_, rfl⟩
  obtain ⟨e2, he2⟩ : ∃ e, decide (now ≤ x.2.2.2.1) = e := ⟨_, rfl⟩
  obtain ⟨e3, he3⟩ : ∃ e, decide (x.2.1 = dg) = e := ⟨_, rfl⟩
  obtain ⟨e4, he4⟩ : ∃ e, verD (Ring.lkN t.1 x.2.2.1) x = e := ⟨_, rfl⟩
  rw [he1, he2, he3, he4] at hz
  have HZ := Lib.hid hz; have H1 := Lib.hid he1; have H2 := Lib.hid he2; have H3 := Lib.hid he3; have H4 := Lib.hid he4
  clear hal hn hw hd ht k1 k2 k3 h g gd9 gk hl hby he1 he2 he3 he4 hz
  have p0 : (w.alloc (.cells #[.slice ya ma da, .slice yb mb db, .slice yc mc dc_, .int .i64 x.2.2.2.1, .int .i64 x.2.2.2.2] 61)).cell? ⟨w.heap.size, 0, none⟩ = some (.slice ya ma da) := HV.out.cell 0
  have p1 : (w.alloc (.cells #[.slice ya ma da, .slice yb mb db, .slice yc mc dc_, .int .i64 x.2.2.2.1, .int .i64 x.2.2.2.2] 61)).cell? ⟨w.heap.size, 1, none⟩ = some (.slice yb mb db) := HV.out.cell 1
  have p2 : (w.alloc (.cells #[.slice ya ma da, .slice yb mb db, .slice yc mc dc_, .int .i64 x.2.2.2.1, .int .i64 x.2.2.2.2] 61)).cell? ⟨w.heap.size, 2, none⟩ = some (.slice yc mc dc_) := HV.out.cell 2
  have p3 : (w.alloc (.cells #[.slice ya ma da, .slice yb mb db, .slice yc mc dc_, .int .i64 x.2.2.2.1, .int .i64 x.2.2.2.2] 61)).cell? ⟨w.heap.size, 3, none⟩ = some (.int .i64 x.2.2.2.1) := HV.out.cell 3
  have p4 : (w.alloc (.cells #[.slice ya ma da, .slice yb mb db, .slice yc mc dc_, .int .i64 x.2.2.2.1, .int .i64 x.2.2.2.2] 61)).cell? ⟨w.heap.size, 4, none⟩ = some (.int .i64 x.2.2.2.2) := HV.out.cell 4
  have pn : (w.alloc (.cells #[.slice ya ma da, .slice yb mb db, .slice yc mc dc_, .int .i64 x.2.2.2.1, .int .i64 x.2.2.2.2] 61)).cell? ⟨gn, 0, none⟩ = some (.slice xn nn cn) := HN.out.cell 0
  have pw : (w.alloc (.cells #[.slice ya ma da, .slice yb mb db, .slice yc mc dc_, .int .i64 x.2.2.2.1, .int .i64 x.2.2.2.2] 61)).cell? ⟨gw, 0, none⟩ = some (.int .i64 now) := HW.out.cell 0
  have pd : (w.alloc (.cells #[.slice ya ma da, .slice yb mb db, .slice yc mc dc_, .int .i64 x.2.2.2.1, .int .i64 x.2.2.2.2] 61)).cell? ⟨gd, 0, none⟩ = some (.slice xd nd cd) := HD.out.cell 0
  have pt : (w.alloc (.cells #[.slice ya ma da, .slice yb mb db, .slice yc mc dc_, .int .i64 x.2.2.2.1, .int .i64 x.2.2.2.2] 61)).cell? ⟨gt, 0, none⟩ = some (.slice x0 n0 c0) := HT.out.cell 0
  go_enter Try.func70, Try.ntmps70
  go_wp2_with fail
  refine (iEqN e1 H1.out HNM.out HM.out (Nat.le_trans HL.out.name (by decide)) (Nat.le_trans hm (by decide))).mono ?_
  rintro e w1 ⟨rfl, hb⟩
  replace HV := Lib.hid (HV.out.on hb); replace HN := Lib.hid (HN.out.on hb); replace HW := Lib.hid (HW.out.on hb); replace HD := Lib.hid (HD.out.on hb); replace HT := Lib.hid (HT.out.on hb); replace HX := Lib.hid (HX.out.on hb); replace HM := Lib.hid (HM.out.on hb); replace HG := Lib.hid (HG.out.on hb); replace HK := Lib.hid (HK.out.on hb); replace HNM := Lib.hid (HNM.out.on hb); replace HBY := Lib.hid (HBY.out.on hb)
  replace HB := Lib.hid (HB.out.trans (hb.mono HB.out.size)); clear hb p0 p1 p2 p3 p4 pn pw pd pt
  have p0 : w1.cell? ⟨w.heap.size, 0, none⟩ = some (.slice ya ma da) := HV.out.cell 0
  have p1 : w1.cell? ⟨w.heap.size, 1, none⟩ = some (.slice yb mb db) := HV.out.cell 1
  have p2 : w1.cell? ⟨w.heap.size, 2, none⟩ = some (.slice yc mc dc_) := HV.out.cell 2
  have p3 : w1.cell? ⟨w.heap.size, 3, none⟩ = some (.int .i64 x.2.2.2.1) := HV.out.cell 3
  have p4 : w1.cell? ⟨w.heap.size, 4, none⟩ = some (.int .i64 x.2.2.2.2) := HV.out.cell 4
  have pn : w1.cell? ⟨gn, 0, none⟩ = some (.slice xn nn cn) := HN.out.cell 0
  have pw : w1.cell? ⟨gw, 0, none⟩ = some (.int .i64 now) := HW.out.cell 0
  have pd : w1.cell? ⟨gd, 0, none⟩ = some (.slice xd nd cd) := HD.out.cell 0
  have pt : w1.cell? ⟨gt, 0, none⟩ = some (.slice x0 n0 c0) := HT.out.cell 0
  cases e1 with
  | false =>
    go_wp2_with fail
    go_ret
    exact ⟨ret_bool HZ.out, HB.out⟩
  | true =>
    go_wp2_with fail
    refine (iFrV e2 H2.out HX.out).mono ?_
    rintro e w2 ⟨rfl, hb⟩
    replace HV := Lib.hid (HV.out.on hb); replace HN := Lib.hid (HN.out.on hb); replace HW := Lib.hid (HW.out.on hb); replace HD := Lib.hid (HD.out.on hb); replace HT := Lib.hid (HT.out.on hb); replace HX := Lib.hid (HX.out.on hb); replace HM := Lib.hid (HM.out.on hb); replace HG := Lib.hid (HG.out.on hb); replace HK := Lib.hid (HK.out.on hb); replace HNM := Lib.hid (HNM.out.on hb); replace HBY := Lib.hid (HBY.out.on hb)
    replace HB := Lib.hid (HB.out.trans (hb.mono HB.out.size)); clear hb p0 p1 p2 p3 p4 pn pw pd pt
    have p0 : w2.cell? ⟨w.heap.size, 0, none⟩ = some (.slice ya ma da) := HV.out.cell 0
    have p1 : w2.cell? ⟨w.heap.size, 1, none⟩ = some (.slice yb mb db) := HV.out.cell 1
    have p2 : w2.cell? ⟨w.heap.size, 2, none⟩ = some (.slice yc mc dc_) := HV.out.cell 2
    have p3 : w2.cell? ⟨w.heap.size, 3, none⟩ = some (.int .i64 x.2.2.2.1) := HV.out.cell 3
    have p4 : w2.cell? ⟨w.heap.size, 4, none⟩ = some (.int .i64 x.2.2.2.2) := HV.out.cell 4
    have pn : w2.cell? ⟨gn, 0, none⟩ = some (.slice xn nn cn) := HN.out.cell 0
    have pw : w2.cell? ⟨gw, 0, none⟩ = some (.int .i64 now) := HW.out.cell 0
    have pd : w2.cell? ⟨gd, 0, none⟩ = some (.slice xd nd cd) := HD.out.cell 0
    have pt : w2.cell? ⟨gt, 0, none⟩ = some (.slice x0 n0 c0) := HT.out.cell 0
    cases e2 with
    | false =>
      go_wp2_with fail
      go_ret
      exact ⟨ret_bool HZ.out, HB.out⟩
    | true =>
      go_wp2_with fail
      refine (iEbV e3 H3.out HBY.out HG.out HL.out.wf.byt HBD.out).mono ?_
      rintro e w3 ⟨rfl, rfl⟩
      cases e3 with
      | false =>
        go_wp2_with fail
        go_ret
        exact ⟨ret_bool HZ.out, HB.out⟩
      | true =>
        go_wp2_with fail
        refine (iVsV e4 H4.out HK.out HX.out HL.out.wf hk HL.out.bulk).mono ?_
        rintro e w4 ⟨rfl, hb⟩
        replace HV := Lib.hid (HV.out.on hb); replace HN := Lib.hid (HN.out.on hb); replace HW := Lib.hid (HW.out.on hb); replace HD := Lib.hid (HD.out.on hb); replace HT := Lib.hid (HT.out.on hb); replace HX := Lib.hid (HX.out.on hb); replace HM := Lib.hid (HM.out.on hb); replace HG := Lib.hid (HG.out.on hb); replace HK := Lib.hid (HK.out.on hb); replace HNM := Lib.hid (HNM.out.on hb); replace HBY := Lib.hid (HBY.out.on hb)
        replace HB := Lib.hid (HB.out.trans (hb.mono HB.out.size)); clear hb p0 p1 p2 p3 p4 pn pw pd pt
        replace HZ : Hid (e4 = z) := Lib.hid (by have h5 := HZ.out; simpa using h5)
        go_wp2_with fail
        go_ret
        exact ⟨ret_bool HZ.out, HB.out⟩

set_option maxHeartbeats 2000000 in
theorem indexCert (b0 b1 b2 b3 : Addr) (p : Dzt → Bool) (ok : Dzt → Prop) (v : Value) (l : List Dzt) (w : World) (z : Int) (hz : ixL p l = z) (h : kLDz.At w v l) (hl : l.length ≤ 9000000) (hp : ∀ x ∈ l, ok x) (hc : ClosK Try.prog kDz 70 #[.pointer (some b0), .pointer (some b1), .pointer (some b2), .pointer (some b3)] p ok w) :
    Calls Try.prog 69 #[v, .func (.func 70) #[] #[.pointer (some b0), .pointer (some b1), .pointer (some b2), .pointer (some b3)]] w fun e w' => e = .returned (.int .i64 z) ∧ Below w.heap.size w w' := by
  obtain ⟨x, n, cx, L, rfl, hn, ht, hh, hel⟩ := kLDz_at h
  have hlen : l.length = n := by rw [← ht, List.length_map]; exact hn.symm
  rw [hlen] at hl
  have hcap : n ≤ cx := by obtain ⟨x', n', cap', hv, hn', hc', -⟩ := hh.shapeN; cases hv; exact hc'
  have HN := Lib.hid hn; have HT := Lib.hid ht; have HH := Lib.hid hh; have HEL := Lib.hid hel; have HLEN := Lib.hid hlen; have HP := Lib.hid hp; have HC := Lib.hid hc; have HZ := Lib.hid hz
  clear hn h hh hc hp ht hel hlen hz
  go_enter Try.func69, Try.ntmps69
  go_wp2
  go_loopw [8] (fun iv wr => ∃ i : Nat, i ≤ n ∧ iv = .int .i64 i ∧ Hid (noL p l i) ∧ Hid (Below w.heap.size w wr)) (fun iv _ => n - (intOf iv).toNat)
  case atStart => exact ⟨0, Nat.zero_le _, rfl, Lib.hid (noL_zero _ _), Lib.hid (Below.refl _ _)⟩
  case round =>
    obtain ⟨k, hk, rfl, ha, hb⟩ := hrel
    by_cases hlt : k < n
    · have hlen := HN.out
      obtain ⟨b, off, y0, m0, d0, y1, m1, d1, y2, m2, d2, rfl, -, hc0, hc1, hc2, hc3, hc4, hA⟩ := kLDz_elem (HH.out.on hb.out) (fun y hy => kDz.holds_on (HEL.out y hy) hb.out) (j := k) (by omega)
      have hpt : nth l k = kDz.strip (nth L k) := by rw [← HT.out, nth_map _ (by omega)]
      have hps := HP.out (nth l k) (nth_mem (by have := HLEN.out; omega))
      rw [hpt] at hps
      obtain ⟨q, hq⟩ : ∃ q, p (kDz.strip (nth L k)) = q := ⟨_, rfl⟩
      have HCL := HC.out _ _ wr hb.out hA hps
      rw [hq] at HCL
      rw [← hpt] at hq
      replace HCL := Lib.hid HCL
      have HQ := Lib.hid hq
      clear hlen hpt hps hA hq
      go_wp2_with fail
      refine HCL.out.mono ?_
      rintro e w2 ⟨rfl, hb2⟩
      have HB2 := Lib.hid (hb.out.trans (hb2.mono hb.out.size))
      clear hb2 hc0 hc1 hc2 hc3 hc4 HCL
      cases q with
      | true =>
        have HV := Lib.hid (show z = (k : Int) from HZ.out.symm.trans (ixL_at (by have := HLEN.out; omega) ha.out HQ.out))
        go_wp2
        go_ret
        exact ⟨ret_int HV.out.symm, HB2.out⟩
      | false =>
        have HA := Lib.hid (noL_succ ha.out HQ.out)
        go_wp2
        go_roundw
        case rel => exact ⟨k + 1, by omega, by go_num, HA, HB2⟩
        case measure => simp [intOf]; omega
    · obtain rfl : k = n := by omega
      have HV := Lib.hid (show z = -1 from HZ.out.symm.trans (ixL_none (by rw [HLEN.out]; exact ha.out)))
      clear hlt
      go_wp2
      go_ret
      exact ⟨ret_int HV.out.symm, hb.out⟩

set_option maxHeartbeats 8000000 in
theorem implFindCertificate (V U : Value) (t : Tpt) (m : List ByteArray) (now : Int) (w : World) (z : Int) (hz : findC t m now = z) (h : kTp.At w V t) (g : kN.At w U m) (hp : FitT t) (hm : bulk m ≤ 1200000) :
    Calls Try.prog 27 #[V, U, .int .i64 now] w fun e w' => e = .returned (.int .i64 z) ∧ Below w.heap.size w w' := by
  obtain ⟨x0, n0, c0, x1, n1, c1, x2, n2, c2, x3, n3, c3, rfl, g0, g1, g2, g3⟩ := kTp_at h
  obtain ⟨xn, nn, cn, rfl, g⟩ := kN_shapeA g
  have b1 := (Below.refl w.heap.size w).alloc (Nat.le_refl _) (.cells #[.slice x0 n0 c0, .slice x1 n1 c1, .slice x2 n2 c2, .slice x3 n3 c3] 35)
  have b2 := (Below.refl (w.alloc (.cells #[.slice x0 n0 c0, .slice x1 n1 c1, .slice x2 n2 c2, .slice x3 n3 c3] 35)).heap.size (w.alloc (.cells #[.slice x0 n0 c0, .slice x1 n1 c1, .slice x2 n2 c2, .slice x3 n3 c3] 35))).alloc (Nat.le_refl _) (.cells #[.slice xn nn cn] 47)
  have b3 := (Below.refl ((w.alloc (.cells #[.slice x0 n0 c0, .slice x1 n1 c1, .slice x2 n2 c2, .slice x3 n3 c3] 35)).alloc (.cells #[.slice xn nn cn] 47)).heap.size ((w.alloc (.cells #[.slice x0 n0 c0, .slice x1 n1 c1, .slice x2 n2 c2, .slice x3 n3 c3] 35)).alloc (.cells #[.slice xn nn cn] 47))).alloc (Nat.le_refl _) (.cells #[.int .i64 now] 3)
  have b23 := b2.trans (b3.mono b2.size)
  have HB := Lib.hid (b1.trans (b23.mono b1.size))
  have HX := Lib.hid ((Ret.Blk.new w #[.slice x0 n0 c0, .slice x1 n1 c1, .slice x2 n2 c2, .slice x3 n3 c3] 35).on b23)
  have HY := Lib.hid ((Ret.Blk.new' (w := (w.alloc (.cells #[.slice x0 n0 c0, .slice x1 n1 c1, .slice x2 n2 c2, .slice x3 n3 c3] 35))) (n := w.heap.size + 1) #[.slice xn nn cn] 47 (by simp)).on b3)
  have HW := Lib.hid (Ret.Blk.new' (w := ((w.alloc (.cells #[.slice x0 n0 c0, .slice x1 n1 c1, .slice x2 n2 c2, .slice x3 n3 c3] 35)).alloc (.cells #[.slice xn nn cn] 47))) (n := w.heap.size + 1 + 1) #[.int .i64 now] 3 (by simp))
  have G0 := Lib.hid g0; have G3 := Lib.hid g3; have GN := Lib.hid g
  have HZ := Lib.hid hz; have HP := Lib.hid hp
  clear b1 b2 b3 b23 g0 g1 g2 g3 g h hz hp
  have q0 : (((w.alloc (.cells #[.slice x0 n0 c0, .slice x1 n1 c1, .slice x2 n2 c2, .slice x3 n3 c3] 35)).alloc (.cells #[.slice xn nn cn] 47)).alloc (.cells #[.int .i64 now] 3)).cell? ⟨w.heap.size, 0, none⟩ = some (.slice x0 n0 c0) := HX.out.cell 0
  have qn : (((w.alloc (.cells #[.slice x0 n0 c0, .slice x1 n1 c1, .slice x2 n2 c2, .slice x3 n3 c3] 35)).alloc (.cells #[.slice xn nn cn] 47)).alloc (.cells #[.int .i64 now] 3)).cell? ⟨w.heap.size + 1, 0, none⟩ = some (.slice xn nn cn) := HY.out.cell 0
  go_enter Try.func27, Try.ntmps27
  go_wp2_with fail
  refine (implKeyDigest _ _ t.1 m _ _ rfl (kK_ofK (G0.out.on HB.out)) (GN.out.on HB.out) HP.out.keys hm).mono ?_
  rintro e w1 ⟨v, rfl, ho, hb⟩
  obtain ⟨xd, cd, rfl, -, ho⟩ := ho.holds.shape
  obtain ⟨nd, hnd⟩ : ∃ nd, (digK t.1 m).length = nd := ⟨_, rfl⟩
  rw [hnd] at ho ⊢
  replace HX := Lib.hid (HX.out.on hb); replace HY := Lib.hid (HY.out.on hb); replace HW := Lib.hid (HW.out.on hb)
  replace HB := Lib.hid (HB.out.trans (hb.mono HB.out.size)); clear hb q0 qn
  obtain ⟨wz, hwz⟩ : ∃ wz, w1.alloc (.cells #[.slice xd nd cd] 44) = wz := ⟨_, rfl⟩
  have hbz := (Below.refl w1.heap.size w1).alloc (Nat.le_refl _) (.cells #[.slice xd nd cd] 44)
  have hv := Ret.Blk.new w1 #[.slice xd nd cd] 44
  rw [hwz] at hbz hv
  have HWZ := Lib.hid hwz
  have HV := Lib.hid hv
  clear hwz hv
  have HG := Lib.hid (ho.on hbz)
  have HND := Lib.hid hnd.symm
  replace HX := Lib.hid (HX.out.on hbz); replace HY := Lib.hid (HY.out.on hbz); replace HW := Lib.hid (HW.out.on hbz); replace HB := Lib.hid (HB.out.trans (hbz.mono HB.out.size))
  clear ho hbz hnd
  go_upto_region 2 with fail
  rw [HWZ.out]
  clear HWZ
  obtain ⟨b8, hb8⟩ : ∃ b8, w1.heap.size = b8 := ⟨_, rfl⟩
  rw [hb8] at HV ⊢
  clear hb8
  have qd : wz.cell? ⟨b8, 0, none⟩ = some (.slice xd nd cd) := HV.out.cell 0
  have q3 : wz.cell? ⟨w.heap.size, 3, none⟩ = some (.slice x3 n3 c3) := HX.out.cell 3
  by_cases h0 : nd = 0
  · have HE : Hid (z = -1) := Lib.hid (by rw [← HZ.out]; unfold findC; rw [if_pos ((digK_nil t.1 m).1 (HND.out.symm.trans h0))])
    subst h0
    go_wp2_with fail
    go_ret
    exact ⟨ret_int HE.out.symm, HB.out⟩
  · have HQ : Hid (ixL (certP t.1 m now) t.2.2.2 = z) := Lib.hid (by rw [← HZ.out]; unfold findC; rw [if_neg (fun h1 => h0 (HND.out.trans ((digK_nil t.1 m).2 h1)))])
    have HC := Lib.hid (show ClosK Try.prog kDz 70 #[.pointer (some ⟨w.heap.size + 1, 0, none⟩), .pointer (some ⟨w.heap.size + 1 + 1, 0, none⟩), .pointer (some ⟨b8, 0, none⟩), .pointer (some ⟨w.heap.size, 0, none⟩)] (certP t.1 m now) FitD wz from
      fun x W0 W hW ha hk => certClos _ _ _ _ W0 x t m now _ xn xd x0 x1 x2 x3 nn cn nd cd n0 c0 n1 c1 n2 c2 n3 c3 W _ rfl (HY.out.on hW) (HW.out.on hW) (HV.out.on hW) (HX.out.on hW) ha ((GN.out.on HB.out).on hW) (HG.out.on hW) ((G0.out.on HB.out).on hW) hk hm HP.out.keys (digK_byt _ _))
    have n0' : ¬ (nd : Int) = 0 := by omega
    have n0'' : ((nd : Int) == 0) = false := by simpa using n0'
    go_wp2_with fail
    refine (indexCert _ _ _ _ (certP t.1 m now) FitD _ t.2.2.2 _ z HQ.out (G3.out.on HB.out) HP.out.certLen HP.out.certs HC.out).mono ?_
    rintro e w5 ⟨rfl, hb⟩
    replace HB := Lib.hid (HB.out.trans (hb.mono HB.out.size))
    clear hb
    go_wp2_with fail
    go_ret
    exact ⟨rfl, HB.out⟩
end Go.Proofs.Ytcidfmmeonhkhaa.Row
