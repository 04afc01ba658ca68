/- Contracts and mathematics, joined: TrustF, TrustP, TrustI, DrawV0. No conditions but those that each states. -/
import Derived.WalkKit
import Derived.Deep.RegionHeld3
import Derived.Test.YtlhchmjnaanjpaaGreatDoorB19
import Derived.Test.YtlhchmjnaanjpaaGreatDoorB18
import Derived.Test.YtlhchmjnaanjpaaGreatDoorB9
import Derived.Test.YtlhchmjnaanjpaaGreatDoorB5
import Derived.Test.YtlhchmjnaanjpaaGreatDoorB17
import Derived.Test.YtlhchmjnaanjpaaGreatDoorB8
/- The model's FindCertificate. No conditions but that lengths fit. -/
namespace Go.Proofs.YtlhchmjnaanjpaaGreatDoor.Row
open Go.ChangeShapes Go.WideShapes Go.ChangeAt Go.RowKit Go.Instr
set_option linter.unusedVariables false
set_option maxRecDepth 100000
theorem kDz_parts {w : World} {xa xb xc : Option Addr} {na ca nb cb nc cc : Nat} {f s : Int} {x : Dt} (h : kD.At w (.agg #[.slice xa na ca, .slice xb nb cb, .slice xc nc cc, .int .i64 f, .int .i64 s]) x) : kN.At w (.agg #[.slice xa na ca]) x.1 ∧ Sl.Holds .u8 w (.slice xb nb cb) x.2.1 ∧ kN.At w (.agg #[.slice xc nc cc]) x.2.2.1 := by
  obtain ⟨⟨h0, h1, h2⟩, -, -⟩ := Ring.kD_cells h
  exact ⟨kN_of h0, h1, kN_of h2⟩
set_option maxHeartbeats 8000000 in
theorem specFindCertificate (V U : Value) (t : Tpt) (m : List ByteArray) (now : Int) (w : World) (z : Int) (hz : findC t m now = z) (h : kTp.At w V t) (g : kN.At w U m) (hp : FitT t) (hm : bulk m ≤ 1200000) :
    Calls Tryz.prog 19 #[V, U, .int .i64 now] w fun e w' => e = .returned (.int .i64 z) ∧ Below w.heap.size w w' := by
  obtain ⟨x0, n0, c0, x1, n1, c1, x2, n2, c2, x3, n3, c3, rfl, g0, g1, g2, g3⟩ := kTp_at h
  obtain ⟨ad3, k3, d3, L3, e3, hn3, ht3, hh3, hel3⟩ := kLDz_at g3
  cases e3
  obtain ⟨xn, nn, cn, rfl, g⟩ := kN_shapeA g
  have hl3 : t.2.2.2.length = n3 := by rw [← ht3, List.length_map]; exact hn3.symm
  have hcap3 : n3 ≤ c3 := by obtain ⟨x', n', cap', hv, hn', hc', -⟩ := hh3.shapeN; cases hv; exact hc'
  have hs3 : n3 ≤ 9000000 := by rw [← hl3]; exact hp.certLen
  have b1 := (Below.refl w.heap.size w).alloc (Nat.le_refl _) (.cells #[.slice x0 n0 c0, .slice x1 n1 c1, .slice x2 n2 c2, .slice x3 n3 c3] 29)
  have b2 := (Below.refl (w.alloc (.cells #[.slice x0 n0 c0, .slice x1 n1 c1, .slice x2 n2 c2, .slice x3 n3 c3] 29)).heap.size (w.alloc (.cells #[.slice x0 n0 c0, .slice x1 n1 c1, .slice x2 n2 c2, .slice x3 n3 c3] 29))).alloc (Nat.le_refl _) (.cells #[.slice xn nn cn] 32)
  have HB := Lib.hid (b1.trans (b2.mono b1.size))
  have HX := Lib.hid ((Ret.Blk.new w #[.slice x0 n0 c0, .slice x1 n1 c1, .slice x2 n2 c2, .slice x3 n3 c3] 29).on b2)
  have HY := Lib.hid (Ret.Blk.new' (w := (w.alloc (.cells #[.slice x0 n0 c0, .slice x1 n1 c1, .slice x2 n2 c2, .slice x3 n3 c3] 29))) (n := w.heap.size + 1) #[.slice xn nn cn] 32 (by simp))
  have G0 := Lib.hid (kK_ofK g0); have GN := Lib.hid g
  have H3 := Lib.hid hh3; have E3 := Lib.hid hel3; have T3 := Lib.hid ht3; have N3 := Lib.hid hn3; have L_3 := Lib.hid hl3
  have HZ := Lib.hid hz; have HP := Lib.hid hp
  clear b1 b2 g0 g1 g2 g3 g h hz hp hh3 hel3 ht3 hn3 hl3
  have q0 : ((w.alloc (.cells #[.slice x0 n0 c0, .slice x1 n1 c1, .slice x2 n2 c2, .slice x3 n3 c3] 29)).alloc (.cells #[.slice xn nn cn] 32)).cell? ⟨w.heap.size, 0, none⟩ = some (.slice x0 n0 c0) := HX.out.cell 0
  have qn : ((w.alloc (.cells #[.slice x0 n0 c0, .slice x1 n1 c1, .slice x2 n2 c2, .slice x3 n3 c3] 29)).alloc (.cells #[.slice xn nn cn] 32)).cell? ⟨w.heap.size + 1, 0, none⟩ = some (.slice xn nn cn) := HY.out.cell 0
  go_enter Tryz.func19, Tryz.ntmps19
  go_wp2_with fail
  refine (Ring.specSecretOfK _ _ t.1 m _ (G0.out.on HB.out) (GN.out.on HB.out) HP.out.keys hm).mono ?_
  rintro e w1 ⟨rfl, hb⟩
  replace HX := Lib.hid (HX.out.on hb); replace HY := Lib.hid (HY.out.on hb)
  replace HB := Lib.hid (HB.out.trans (hb.mono HB.out.size)); clear hb q0 qn
  obtain ⟨s, hs⟩ : ∃ s, Ring.lkN t.1 m = s := ⟨_, rfl⟩
  rw [hs]
  have HS := Lib.hid hs
  clear hs
  by_cases h0 : s = 0
  · subst h0
    have HE : Hid (z = -1) := Lib.hid (by rw [← HZ.out]; unfold findC; rw [if_pos HS.out])
    go_wp2_with fail
    go_ret
    exact ⟨ret_int HE.out.symm, HB.out⟩
  · have HQ : Hid (ixL (certP t.1 m now) t.2.2.2 = z) := Lib.hid (by rw [← HZ.out]; unfold findC; rw [HS.out, if_neg h0])
    clear HZ HS
    go_wp2_with fail
    clear h0
    go_loopw [7] (fun i wr => ∃ k : Nat, k ≤ n3 ∧ i = .int .i64 k ∧ Hid (noL (certP t.1 m now) t.2.2.2 k) ∧ Hid (Ret.Blk wr w.heap.size #[.slice x0 n0 c0, .slice x1 n1 c1, .slice x2 n2 c2, .slice x3 n3 c3] 29) ∧ Hid (Ret.Blk wr (w.heap.size + 1) #[.slice xn nn cn] 32) ∧ Hid (Below w.heap.size w wr)) (fun i _ => n3 - (intOf i).toNat)
    case atStart => exact ⟨0, Nat.zero_le _, rfl, Lib.hid (noL_zero _ _), HX, HY, HB⟩
    case round =>
      clear HX HY HB
      obtain ⟨k, hk, rfl, ha, hx, hy, hb⟩ := hrel
      have q3 : wr.cell? ⟨w.heap.size, 3, none⟩ = some (.slice x3 n3 c3) := hx.out.cell 3
      by_cases hlt : k < n3
      · have hlen := N3.out
        obtain ⟨b, off, y0, m0, d0, y1, m1, d1, y2, m2, d2, rfl, -, hc0, hc1, hc2, hc3, hc4, hA⟩ := kLDz_elem (H3.out.on hb.out) (fun y hy => kDz.holds_on (E3.out y hy) hb.out) (j := k) (by omega)
        have hpt : nth t.2.2.2 k = kDz.strip (nth L3 k) := by rw [← T3.out, nth_map _ (by omega)]
        have hps := HP.out.certs (nth t.2.2.2 k) (nth_mem (by have := L_3.out; omega))
        rw [hpt] at hps
        have HA := Lib.hid hA; have HFF := Lib.hid hps
        have HPT := Lib.hid hpt
        clear hlen hpt hps hA
        obtain ⟨wz, hwz⟩ : ∃ wz, wr.alloc (.cells #[.slice y0 m0 d0, .slice y1 m1 d1, .slice y2 m2 d2, .int .i64 (kDz.strip (nth L3 k)).2.2.2.1, .int .i64 (kDz.strip (nth L3 k)).2.2.2.2] 34) = wz := ⟨_, rfl⟩
        have hbz := (Below.refl wr.heap.size wr).alloc (Nat.le_refl _) (.cells #[.slice y0 m0 d0, .slice y1 m1 d1, .slice y2 m2 d2, .int .i64 (kDz.strip (nth L3 k)).2.2.2.1, .int .i64 (kDz.strip (nth L3 k)).2.2.2.2] 34)
        have hv := Ret.Blk.new wr #[.slice y0 m0 d0, .slice y1 m1 d1, .slice y2 m2 d2, .int .i64 (kDz.strip (nth L3 k)).2.2.2.1, .int .i64 (kDz.strip (nth L3 k)).2.2.2.2] 34
        rw [hwz] at hbz hv
        have HWZ := Lib.hid hwz
        replace hv := Lib.hid hv
        clear hwz
        go_wp2_with fail
        rw [HWZ.out]
        clear HWZ
        replace hx := Lib.hid (hx.out.on hbz); replace hy := Lib.hid (hy.out.on hbz); replace hb := Lib.hid (hb.out.trans (hbz.mono hb.out.size))
        obtain ⟨b8, hb8⟩ : ∃ b8, wr.heap.size = b8 := ⟨_, rfl⟩
        rw [hb8] at hv ⊢
        clear hb8 q3 hc0 hc1 hc2 hc3 hc4
        have HXX := Lib.hid (kD_ofK (HA.out.on hbz)); have HMM := Lib.hid (GN.out.on hb.out); have HTT := Lib.hid (G0.out.on hb.out)
        obtain ⟨hAn, hAb, hAc⟩ := kDz_parts HXX.out
        have HNN := Lib.hid hAn; have HBB := Lib.hid hAb
        clear hAn hAb hAc HA hbz
        obtain ⟨e1, he1⟩ : ∃ e, decide ((kDz.strip (nth L3 k)).1 = m) = e := ⟨_, rfl⟩
        obtain ⟨e2, he2⟩ : ∃ e, decide (now ≤ (kDz.strip (nth L3 k)).2.2.2.1) = e := ⟨_, rfl⟩
        obtain ⟨e3, he3⟩ : ∃ e, verD (Ring.lkN t.1 (kDz.strip (nth L3 k)).2.2.1) (kDz.strip (nth L3 k)) = e := ⟨_, rfl⟩
        obtain ⟨e4, he4⟩ : ∃ e, decide ((kDz.strip (nth L3 k)).2.1 = digK t.1 m) = e := ⟨_, rfl⟩
        have HCP : Hid (certP t.1 m now (kDz.strip (nth L3 k)) = (e1 && e2 && e4 && e3)) := Lib.hid (by unfold certP; rw [he1, he2, he3, he4])
        have H1 := Lib.hid he1; have H2 := Lib.hid he2; have H3' := Lib.hid he3; have H4 := Lib.hid he4
        clear he1 he2 he3 he4
        cases e1 with
        | false =>
          replace HCP : Hid (certP t.1 m now (kDz.strip (nth L3 k)) = false) := Lib.hid (by rw [HCP.out]; rfl)
          refine rfc1 HXX HMM HNN HBB HTT HFF (Lib.hid hm) (Lib.hid HP.out.keys) H1 (Lib.hid (hv.out.cell 0)) (Lib.hid (hv.out.cell 1)) (Lib.hid (hv.out.cell 2)) (Lib.hid (hv.out.cell 3)) (Lib.hid (hv.out.cell 4)) (Lib.hid (hy.out.cell 0)) (Lib.hid (hx.out.cell 0)) ?_
          intro u26 u27 u28 u29 u30 u31 u32 u33 u34 u35 u36 u37 u38 u39 u40 u41 u42 u43 u44 u45 u46 u47 u48 wx hb1
          replace hx := Lib.hid (hx.out.on hb1); replace hy := Lib.hid (hy.out.on hb1); replace hb := Lib.hid (hb.out.trans (hb1.mono hb.out.size)); clear hb1 hv
          have HM := Lib.hid (noL_succ ha.out (HPT.out ▸ HCP.out))
          go_wp2_with fail
          go_roundw
          case rel => exact ⟨k + 1, by omega, by go_num, HM, hx, hy, hb⟩
          case measure => simp [intOf]; omega
        | true =>
          cases e2 with
          | false =>
            replace HCP : Hid (certP t.1 m now (kDz.strip (nth L3 k)) = false) := Lib.hid (by rw [HCP.out]; rfl)
            refine rfc2 HXX HMM HNN HBB HTT HFF (Lib.hid hm) (Lib.hid HP.out.keys) H1 H2 (Lib.hid (hv.out.cell 0)) (Lib.hid (hv.out.cell 1)) (Lib.hid (hv.out.cell 2)) (Lib.hid (hv.out.cell 3)) (Lib.hid (hv.out.cell 4)) (Lib.hid (hy.out.cell 0)) (Lib.hid (hx.out.cell 0)) ?_
            intro u26 u27 u28 u29 u30 u31 u32 u33 u34 u35 u36 u37 u38 u39 u40 u41 u42 u43 u44 u45 u46 u47 u48 wx hb1
            replace hx := Lib.hid (hx.out.on hb1); replace hy := Lib.hid (hy.out.on hb1); replace hb := Lib.hid (hb.out.trans (hb1.mono hb.out.size)); clear hb1 hv
            have HM := Lib.hid (noL_succ ha.out (HPT.out ▸ HCP.out))
            go_wp2_with fail
            go_roundw
            case rel => exact ⟨k + 1, by omega, by go_num, HM, hx, hy, hb⟩
            case measure => simp [intOf]; omega
          | true =>
            cases e3 with
            | false =>
              replace HCP : Hid (certP t.1 m now (kDz.strip (nth L3 k)) = false) := Lib.hid (by rw [HCP.out, Bool.and_false])
              refine rfc3 HXX HMM HNN HBB HTT HFF (Lib.hid hm) (Lib.hid HP.out.keys) H1 H2 H3' (Lib.hid (hv.out.cell 0)) (Lib.hid (hv.out.cell 1)) (Lib.hid (hv.out.cell 2)) (Lib.hid (hv.out.cell 3)) (Lib.hid (hv.out.cell 4)) (Lib.hid (hy.out.cell 0)) (Lib.hid (hx.out.cell 0)) ?_
              intro u26 u27 u28 u29 u30 u31 u32 u33 u34 u35 u36 u37 u38 u39 u40 u41 u42 u43 u44 u45 u46 u47 u48 wx hb1
              replace hx := Lib.hid (hx.out.on hb1); replace hy := Lib.hid (hy.out.on hb1); replace hb := Lib.hid (hb.out.trans (hb1.mono hb.out.size)); clear hb1 hv
              have HM := Lib.hid (noL_succ ha.out (HPT.out ▸ HCP.out))
              go_wp2_with fail
              go_roundw
              case rel => exact ⟨k + 1, by omega, by go_num, HM, hx, hy, hb⟩
              case measure => simp [intOf]; omega
            | true =>
              replace HCP : Hid (certP t.1 m now (kDz.strip (nth L3 k)) = e4) := Lib.hid (by rw [HCP.out]; simp)
              refine rfc4 HXX HMM HNN HBB HTT HFF (Lib.hid hm) (Lib.hid HP.out.keys) H1 H2 H3' H4 (Lib.hid (hv.out.cell 0)) (Lib.hid (hv.out.cell 1)) (Lib.hid (hv.out.cell 2)) (Lib.hid (hv.out.cell 3)) (Lib.hid (hv.out.cell 4)) (Lib.hid (hy.out.cell 0)) (Lib.hid (hx.out.cell 0)) ?_
              intro u26 u27 u28 u29 u30 u31 u32 u33 u34 u35 u36 u37 u38 u39 u40 u41 u42 u43 u44 u45 u46 u47 u48 wx hb1
              replace hx := Lib.hid (hx.out.on hb1); replace hy := Lib.hid (hy.out.on hb1); replace hb := Lib.hid (hb.out.trans (hb1.mono hb.out.size)); clear hb1 hv
              cases e4 with
              | false =>
                have HM := Lib.hid (noL_succ ha.out (HPT.out ▸ HCP.out))
                go_wp2_with fail
                go_roundw
                case rel => exact ⟨k + 1, by omega, by go_num, HM, hx, hy, hb⟩
                case measure => simp [intOf]; omega
              | true =>
                have HF : Hid (z = (k : Int)) := Lib.hid (HQ.out.symm.trans (ixL_at (by have := L_3.out; omega) ha.out (HPT.out ▸ HCP.out)))
                go_wp2_with fail
                go_ret
                exact ⟨ret_int HF.out.symm, hb.out⟩
      · obtain rfl : k = n3 := by omega
        have HF : Hid (z = -1) := Lib.hid (HQ.out.symm.trans (ixL_none (by rw [L_3.out]; exact ha.out)))
        clear hlt
        go_wp2_with fail
        go_ret
        exact ⟨ret_int HF.out.symm, hb.out⟩
end Go.Proofs.YtlhchmjnaanjpaaGreatDoor.Row
/- The program's chapter 11, its first part: IsAnchor, KeyDigest, ValidTrust. No conditions but that lengths fit. -/
namespace Go.Proofs.YtlhchmjnaanjpaaGreatDoor.Row
open Go.ChangeShapes Go.WideShapes Go.ChangeAt Go.RowKit Go.Instr
set_option linter.unusedVariables false
set_option maxRecDepth 100000
theorem iEqN {w : World} {V U : Value} {l m : List ByteArray} (z : Bool) (hz : decide (l = m) = z) (h : kN.At w V l) (g : kN.At w U m) (hl : bulk l ≤ 9000000) (hm : bulk m ≤ 9000000) :
    Calls Tryz.prog 52 #[V, U] w fun e w' => e = .returned (.bool z) ∧ Below w.heap.size w w' := by
  obtain ⟨v, rfl, h9⟩ := kN_at h
  obtain ⟨u, rfl, g9⟩ := kN_at g
  exact hz ▸ implEqualNames v u l m w h9 g9 (by have := bulk_len l; omega) (by have := bulk_len m; omega)
set_option maxHeartbeats 1000000 in
theorem anchorClos (g : Nat) (V : Value) (a m : List ByteArray) (xn : Option Addr) (nn cn : Nat) (w : World) (z : Bool) (hz : decide (a = m) = z) (hx : Ret.Blk w g #[.slice xn nn cn] 32) (ha : kN.At w V a) (hm : kN.At w (.agg #[.slice xn nn cn]) m) (hl : bulk a ≤ 9000000) (hl' : bulk m ≤ 9000000) :
    Calls Tryz.prog 67 #[V, .pointer (some ⟨g, 0, none⟩)] w fun e w' => e = .returned (.bool z) ∧ Below w.heap.size w w' := by
  obtain ⟨xa, na, ca, rfl, ha⟩ := kN_shapeA ha
  have hal := (Below.refl w.heap.size w).alloc (Nat.le_refl _) (.cells #[.slice xa na ca] 32)
  have HB := Lib.hid hal; have HX := Lib.hid (hx.on hal); have HA := Lib.hid (ha.on hal); have HM := Lib.hid (hm.on hal); have HZ := Lib.hid hz
  have HY := Lib.hid (Ret.Blk.new w #[.slice xa na ca] 32)
  clear hal hx ha hm hz
  have q0 : (w.alloc (.cells #[.slice xa na ca] 32)).cell? ⟨g, 0, none⟩ = some (.slice xn nn cn) := HX.out.cell 0
  have q1 : (w.alloc (.cells #[.slice xa na ca] 32)).cell? ⟨w.heap.size, 0, none⟩ = some (.slice xa na ca) := HY.out.cell 0
  go_enter Tryz.func67, Tryz.ntmps67
  go_wp2_with fail
  refine (iEqN z HZ.out HA.out HM.out hl hl').mono ?_
  rintro e w1 ⟨rfl, hb⟩
  replace HB := Lib.hid (HB.out.trans (hb.mono HB.out.size))
  clear hb
  go_wp2_with fail
  go_ret
  exact ⟨rfl, HB.out⟩
set_option maxHeartbeats 2000000 in
theorem indexAnc (b0 : Addr) (p : Nnt → Bool) (ok : Nnt → Prop) (v : Value) (l : List Nnt) (w : World) (z : Int) (hz : ixL p l = z) (h : kLNn.At w v l) (hl : l.length ≤ 9000000) (hp : ∀ x ∈ l, ok x) (hc : ClosK Tryz.prog kNn 67 #[.pointer (some b0)] p ok w) :
    Calls Tryz.prog 110 #[v, .func (.func 67) #[] #[.pointer (some b0)]] w fun e w' => e = .returned (.int .i64 z) ∧ Below w.heap.size w w' := by
  obtain ⟨x, n, cx, L, rfl, hn, ht, hh, hel⟩ := kLNn_at h
  have hlen : l.length = n := by rw [← ht, List.length_map]; exact hn.symm
  rw [hlen] at hl
  have hcap : n ≤ cx := by obtain ⟨x', n', cap', hv, hn', hc', -⟩ := hh.shapeN; cases hv; exact hc'
  have HN := Lib.hid hn; have HT := Lib.hid ht; have HH := Lib.hid hh; have HEL := Lib.hid hel; have HLEN := Lib.hid hlen; have HP := Lib.hid hp; have HC := Lib.hid hc; have HZ := Lib.hid hz
  clear hn h hh hc hp ht hel hlen hz
  go_enter Tryz.func110, Tryz.ntmps110
  go_wp2
  go_loopw [8] (fun iv wr => ∃ i : Nat, i ≤ n ∧ iv = .int .i64 i ∧ Hid (noL p l i) ∧ Hid (Below w.heap.size w wr)) (fun iv _ => n - (intOf iv).toNat)
  case atStart => exact ⟨0, Nat.zero_le _, rfl, Lib.hid (noL_zero _ _), Lib.hid (Below.refl _ _)⟩
  case round =>
    obtain ⟨k, hk, rfl, ha, hb⟩ := hrel
    by_cases hlt : k < n
    · have hlen := HN.out
      obtain ⟨b, off, y0, m0, d0, rfl, -, hc0, hA⟩ := kLNn_elem (HH.out.on hb.out) (fun y hy => kNn.holds_on (HEL.out y hy) hb.out) (j := k) (by omega)
      have hpt : nth l k = kNn.strip (nth L k) := by rw [← HT.out, nth_map _ (by omega)]
      have hps := HP.out (nth l k) (nth_mem (by have := HLEN.out; omega))
      rw [hpt] at hps
      obtain ⟨q, hq⟩ : ∃ q, p (kNn.strip (nth L k)) = q := ⟨_, rfl⟩
      have HCL := HC.out _ _ wr hb.out hA hps
      rw [hq] at HCL
      rw [← hpt] at hq
      replace HCL := Lib.hid HCL
      have HQ := Lib.hid hq
      clear hlen hpt hps hA hq
      go_wp2_with fail
      refine HCL.out.mono ?_
      rintro e w2 ⟨rfl, hb2⟩
      have HB2 := Lib.hid (hb.out.trans (hb2.mono hb.out.size))
      clear hb2 hc0 HCL
      cases q with
      | true =>
        have HV := Lib.hid (show z = (k : Int) from HZ.out.symm.trans (ixL_at (by have := HLEN.out; omega) ha.out HQ.out))
        go_wp2
        go_ret
        exact ⟨ret_int HV.out.symm, HB2.out⟩
      | false =>
        have HA := Lib.hid (noL_succ ha.out HQ.out)
        go_wp2
        go_roundw
        case rel => exact ⟨k + 1, by omega, by go_num, HA, HB2⟩
        case measure => simp [intOf]; omega
    · obtain rfl : k = n := by omega
      have HV := Lib.hid (show z = -1 from HZ.out.symm.trans (ixL_none (by rw [HLEN.out]; exact ha.out)))
      clear hlt
      go_wp2
      go_ret
      exact ⟨ret_int HV.out.symm, hb.out⟩
set_option maxHeartbeats 2000000 in
theorem containsAnc (b0 : Addr) (p : Nnt → Bool) (ok : Nnt → Prop) (v : Value) (l : List Nnt) (w : World) (z : Bool) (hz : l.any p = z) (h : kLNn.At w v l) (hl : l.length ≤ 9000000) (hp : ∀ x ∈ l, ok x) (hc : ClosK Tryz.prog kNn 67 #[.pointer (some b0)] p ok w) :
    Calls Tryz.prog 66 #[v, .func (.func 67) #[] #[.pointer (some b0)]] w fun e w' => e = .returned (.bool z) ∧ Below w.heap.size w w' := by
  obtain ⟨x, n, cx, rfl, h⟩ := kLNn_shapeA h
  obtain ⟨i, hi⟩ : ∃ i, ixL p l = i := ⟨_, rfl⟩
  have hr : -1 ≤ i := by rw [← hi]; rcases ixL_lt p l with h5 | h5 <;> omega
  rw [any_ixL, hi] at hz
  have HI := Lib.hid hi; have HH := Lib.hid h; have HP := Lib.hid hp; have HC := Lib.hid hc; have HZ := Lib.hid hz
  clear hi h hp hc hz
  go_enter Tryz.func66, Tryz.ntmps66
  go_wp2_with fail
  refine (indexAnc b0 p ok _ l _ i HI.out HH.out hl HP.out HC.out).mono ?_
  rintro e w1 ⟨rfl, hb⟩
  have HB := Lib.hid hb
  clear hb
  go_wp2
  go_ret
  exact ⟨ret_bool (by rw [← HZ.out]), HB.out⟩
set_option maxHeartbeats 2000000 in
theorem implIsAnchor (V U : Value) (t : Tpt) (m : List ByteArray) (w : World) (z : Bool) (hz : anchorT t.2.2.1 m = z) (h : kTp.At w V t) (g : kN.At w U m) (hl : t.2.2.1.length ≤ 9000000) (hp : ∀ a ∈ t.2.2.1, bulk a ≤ 9000000) (hm : bulk m ≤ 9000000) :
    Calls Tryz.prog 22 #[V, U] w fun e w' => e = .returned (.bool z) ∧ Below w.heap.size w w' := by
  obtain ⟨x0, n0, c0, x1, n1, c1, x2, n2, c2, x3, n3, c3, rfl, g0, g1, g2, g3⟩ := kTp_at h
  obtain ⟨xn, nn, cn, rfl, g⟩ := kN_shapeA g
  have b1 := (Below.refl w.heap.size w).alloc (Nat.le_refl _) (.cells #[.slice x0 n0 c0, .slice x1 n1 c1, .slice x2 n2 c2, .slice x3 n3 c3] 29)
  have b2 := (Below.refl (w.alloc (.cells #[.slice x0 n0 c0, .slice x1 n1 c1, .slice x2 n2 c2, .slice x3 n3 c3] 29)).heap.size (w.alloc (.cells #[.slice x0 n0 c0, .slice x1 n1 c1, .slice x2 n2 c2, .slice x3 n3 c3] 29))).alloc (Nat.le_refl _) (.cells #[.slice xn nn cn] 32)
  have HB := Lib.hid (b1.trans (b2.mono b1.size))
  have HX := Lib.hid ((Ret.Blk.new w #[.slice x0 n0 c0, .slice x1 n1 c1, .slice x2 n2 c2, .slice x3 n3 c3] 29).on b2)
  have HY := Lib.hid (Ret.Blk.new' (w := w.alloc (.cells #[.slice x0 n0 c0, .slice x1 n1 c1, .slice x2 n2 c2, .slice x3 n3 c3] 29)) (n := w.heap.size + 1) #[.slice xn nn cn] 32 (by simp))
  have G2 := Lib.hid (g2.on HB.out)
  have HC := Lib.hid (show ClosK Tryz.prog kNn 67 #[.pointer (some ⟨w.heap.size + 1, 0, none⟩)] (fun a => decide (a = m)) (fun a => bulk a ≤ 9000000) ((w.alloc (.cells #[.slice x0 n0 c0, .slice x1 n1 c1, .slice x2 n2 c2, .slice x3 n3 c3] 29)).alloc (.cells #[.slice xn nn cn] 32)) from
    fun a W0 W hW ha hk => anchorClos _ W0 a m xn nn cn W _ rfl (HY.out.on hW) ha ((g.on HB.out).on hW) hk hm)
  have HZ := Lib.hid hz; have HP := Lib.hid hp
  clear b1 b2 g0 g1 g2 g3 g h hz hp
  have q2 : ((w.alloc (.cells #[.slice x0 n0 c0, .slice x1 n1 c1, .slice x2 n2 c2, .slice x3 n3 c3] 29)).alloc (.cells #[.slice xn nn cn] 32)).cell? ⟨w.heap.size, 2, none⟩ = some (.slice x2 n2 c2) := HX.out.cell 2
  go_enter Tryz.func22, Tryz.ntmps22
  go_wp2_with fail
  refine (containsAnc _ (fun a => decide (a = m)) (fun a => bulk a ≤ 9000000) _ t.2.2.1 _ z HZ.out G2.out hl HP.out HC.out).mono ?_
  rintro e w1 ⟨rfl, hb⟩
  replace HB := Lib.hid (HB.out.trans (hb.mono HB.out.size))
  clear hb
  go_wp2_with fail
  go_ret
  exact ⟨rfl, HB.out⟩
set_option maxHeartbeats 4000000 in
theorem implKeyDigest (V U : Value) (T : Ring.Kt) (m : List ByteArray) (w : World) (z : List Int) (hz : digK T m = z) (h : Ring.kK.At w V T) (g : kN.At w U m) (hl : Ring.bulkT T ≤ 1200000) (hm : bulk m ≤ 1200000) :
    Calls Tryz.prog 26 #[V, U] w (Sl.GivesB w z) := by
  obtain ⟨x, n, c, rfl, h⟩ := Ring.kK_shapeA h
  obtain ⟨xn, nn, cn, rfl, g⟩ := kN_shapeA g
  have hal := (Below.refl w.heap.size w).alloc (Nat.le_refl _) (.cells #[.slice xn nn cn] 32)
  have HB := Lib.hid hal
  have HC := Lib.hid (Ret.Box.new w (.slice xn nn cn) 32)
  have HS := Lib.hid (Ring.implSecretOfK _ _ T m _ (h.on hal) (g.on hal) hl hm)
  have HZ := Lib.hid hz
  clear h g hal hz hl hm
  go_enter Tryz.func26, Tryz.ntmps26
  have c0 := HC.out.cell
  go_wp2_with fail
  refine HS.out.mono ?_
  rintro e w1 ⟨rfl, hb⟩
  replace HB := Lib.hid (HB.out.trans (hb.mono HB.out.size))
  clear hb c0 HS HC
  obtain ⟨s, hs⟩ : ∃ s, Ring.lkN T m = s := ⟨_, rfl⟩
  rw [hs]
  have HK := Lib.hid hs
  clear hs
  by_cases h0 : s = 0
  · subst h0
    have HE := Lib.hid (show z = [] by rw [← HZ.out]; unfold digK; rw [if_pos HK.out])
    have HO := Lib.hid (Sl.own_empty .u8 5 w1)
    go_wp2_with fail
    go_ret
    exact ⟨_, rfl, by rw [HE.out]; exact Sl.Own.mono HO.out HB.out.size, HB.out.alloc HB.out.size _⟩
  · have HE := Lib.hid (show z = [] ++ Var.var (Seal.digest [s]) by rw [← HZ.out]; unfold digK; rw [HK.out, if_neg h0]; rfl)
    have hb2 := (Below.refl w1.heap.size w1).alloc (Nat.le_refl _) (.cells #[.int .i64 s] 3)
    have HO := Lib.hid (show Sl.Holds .u8 (w1.alloc (.cells #[.int .i64 s] 3)) (.slice none 0 0) [] from ⟨none, 0, rfl, Nat.le_refl _, Or.inl rfl⟩)
    have HI := Lib.hid (Sl.holds_one .i64 3 w1 s)
    have HBB := Lib.hid (HB.out.trans (hb2.mono HB.out.size))
    clear hb2
    go_wp2_with fail
    refine (Sl.implDigest _ [s] _ HI.out (by simp)).mono ?_
    rintro e w2 ⟨rfl, rfl⟩
    go_wp2_with fail
    refine (Sl.implAppendVarint _ [] _ _ HO.out (by decide)).mono ?_
    rintro e w3 ⟨v, rfl, ho, hb⟩
    have HV := Lib.hid (Sl.Own.mono ho HBB.out.size); have HB3 := Lib.hid (HBB.out.trans (hb.mono HBB.out.size))
    clear ho hb
    go_wp2_with fail
    go_ret
    exact ⟨_, rfl, by rw [HE.out]; exact HV.out, HB3.out⟩
end Go.Proofs.YtlhchmjnaanjpaaGreatDoor.Row
/- IssueCertificate, the model's and the program's. No conditions but that lengths fit. -/
namespace Go.Proofs.YtlhchmjnaanjpaaGreatDoor.Row
open Go.ChangeShapes Go.WideShapes Go.ChangeAt Go.RowKit Go.Instr
set_option linter.unusedVariables false
set_option maxRecDepth 100000
theorem size_five11 {g : Nat} {w : World} {a b c f s : Value} : ((((((w).setCell ⟨g, 0, none⟩ (a)).setCell ⟨g, 1, none⟩ (b)).setCell ⟨g, 2, none⟩ (c)).setCell ⟨g, 3, none⟩ (f)).setCell ⟨g, 4, none⟩ (s)).heap.size = w.heap.size := by simp [World.setCell]
theorem five_facts11 {B B' : Nat} {w wx : World} {gD ma da mb db mc dc_ : Nat} {ya yb yc : Option Addr} {x : Dt} (hgd : B ≤ gD) (hB : B ≤ B') (hxd : Ret.Blk wx gD (dc (.slice none 0 0) (.slice none 0 0) (.slice none 0 0) 0 0) 34)
    (hin : kD.In B' wx.heap.size wx (.agg #[.slice ya ma da, .slice yb mb db, .slice yc mc dc_, .int .i64 x.2.2.2.1, .int .i64 x.2.2.2.2]) x) (hb : Below B w wx) :
    Below B w ((((((wx).setCell ⟨gD, 0, none⟩ (.slice ya ma da)).setCell ⟨gD, 1, none⟩ (.slice yb mb db)).setCell ⟨gD, 2, none⟩ (.slice yc mc dc_)).setCell ⟨gD, 3, none⟩ (.int .i64 x.2.2.2.1)).setCell ⟨gD, 4, none⟩ (.int .i64 x.2.2.2.2)) ∧ kD.In B ((((((wx).setCell ⟨gD, 0, none⟩ (.slice ya ma da)).setCell ⟨gD, 1, none⟩ (.slice yb mb db)).setCell ⟨gD, 2, none⟩ (.slice yc mc dc_)).setCell ⟨gD, 3, none⟩ (.int .i64 x.2.2.2.1)).setCell ⟨gD, 4, none⟩ (.int .i64 x.2.2.2.2)).heap.size ((((((wx).setCell ⟨gD, 0, none⟩ (.slice ya ma da)).setCell ⟨gD, 1, none⟩ (.slice yb mb db)).setCell ⟨gD, 2, none⟩ (.slice yc mc dc_)).setCell ⟨gD, 3, none⟩ (.int .i64 x.2.2.2.1)).setCell ⟨gD, 4, none⟩ (.int .i64 x.2.2.2.2)) (.agg #[.slice ya ma da, .slice yb mb db, .slice yc mc dc_, .int .i64 x.2.2.2.1, .int .i64 x.2.2.2.2]) x ∧ Ret.Blk ((((((wx).setCell ⟨gD, 0, none⟩ (.slice ya ma da)).setCell ⟨gD, 1, none⟩ (.slice yb mb db)).setCell ⟨gD, 2, none⟩ (.slice yc mc dc_)).setCell ⟨gD, 3, none⟩ (.int .i64 x.2.2.2.1)).setCell ⟨gD, 4, none⟩ (.int .i64 x.2.2.2.2)) gD #[.slice ya ma da, .slice yb mb db, .slice yc mc dc_, .int .i64 x.2.2.2.1, .int .i64 x.2.2.2.2] 34 := by
  refine ⟨Ring.below_five hb hgd, ?_, Ring.blk_five hxd⟩
  obtain ⟨a, b, c, e, ho, h1, h2, h3⟩ := kD_in hin
  have e2 := congrArg (fun v => match v with | Value.agg cs => cs.toList | _ => []) e
  simp only [List.cons.injEq, and_true] at e2
  obtain ⟨rfl, rfl, rfl⟩ := e2
  refine kD_mk ((ho.five hxd).mono hB) ?_
  rw [size_five11]
  exact ⟨h1, h2, h3⟩
theorem cells5_11 {w : World} {g : Nat} {c0 c1 c2 c3 c4 : Value} {t : TypeId} (h : Ret.Blk w g #[c0, c1, c2, c3, c4] t) : w.cell? ⟨g, 0, none⟩ = some c0 ∧ w.cell? ⟨g, 1, none⟩ = some c1 ∧ w.cell? ⟨g, 2, none⟩ = some c2 ∧ w.cell? ⟨g, 3, none⟩ = some c3 ∧ w.cell? ⟨g, 4, none⟩ = some c4 := ⟨h.cell 0, h.cell 1, h.cell 2, h.cell 3, h.cell 4⟩
theorem froz5_11 {w : World} {g : Nat} {cs : Array Value} {t : TypeId} (h : Ret.Blk w g cs t) : w.frozen? ⟨g, 0, none⟩ = false ∧ w.frozen? ⟨g, 1, none⟩ = false ∧ w.frozen? ⟨g, 2, none⟩ = false ∧ w.frozen? ⟨g, 3, none⟩ = false ∧ w.frozen? ⟨g, 4, none⟩ = false := ⟨h.frozen 0, h.frozen 1, h.frozen 2, h.frozen 3, h.frozen 4⟩
theorem cell_five11 {w : World} {p g i : Nat} {u a b c f s : Value} (h : w.cell? ⟨p, i, none⟩ = some u) (hn : p ≠ g) : ((((((w).setCell ⟨g, 0, none⟩ (a)).setCell ⟨g, 1, none⟩ (b)).setCell ⟨g, 2, none⟩ (c)).setCell ⟨g, 3, none⟩ (f)).setCell ⟨g, 4, none⟩ (s)).cell? ⟨p, i, none⟩ = some u := by
  have st : ∀ {w1 : World} (j : Nat) (v : Value), w1.cell? ⟨p, i, none⟩ = some u → (w1.setCell ⟨g, j, none⟩ v).cell? ⟨p, i, none⟩ = some u := fun {w1} j v h1 => (World.cell?_of_block (w := w1) (Go.RowKit.Below.heap_setCell _ _ _ _ hn)).trans h1
  exact st 4 _ (st 3 _ (st 2 _ (st 1 _ (st 0 _ h))))
set_option maxRecDepth 100000 in
set_option maxHeartbeats 4000000 in
theorem specIss {Q : Exit → Act → World → Prop} {v1 v2 v4 v7 v9 v10 v11 v12 v13 v14 v15 v16 v17 v18 v19 : Value} {w : World} {p q gD nl cl nk ck nn cn : Nat} {xl xk xn : Option Addr} {T : Ring.Kt} {lk ln : List ByteArray} {a : Int} (H_t : Hid (Ring.kK.At w (.slice xl nl cl) T)) (H_k : Hid (kN.At w (.agg #[.slice xk nk ck]) lk)) (H_n : Hid (kN.At w (.agg #[.slice xn nn cn]) ln)) (XD : Hid (Ret.Blk w gD #[.slice none 0 0, .slice none 0 0, .slice none 0 0, .int .i64 0, .int .i64 0] 34)) (HPD : Hid (p ≠ gD)) (HQD : Hid (q ≠ gD)) (HT : Hid (Ring.bulkT T ≤ 1200000)) (HLK : Hid (bulk lk ≤ 1200000)) (HLN : Hid (bulk ln ≤ 1200000)) (KN : Hid (w.cell? ⟨p, 0, none⟩ = some (.slice xn nn cn))) (KK : Hid (w.cell? ⟨q, 0, none⟩ = some (.slice xk nk ck)))
  (hQ : ∀ (u10 u11 u12 u13 u14 u15 u16 u17 u18 u19 : Value) (ma da mb db mc dc_ : Nat) (ya yb yc : Option Addr)  (wx : World), kD.In w.heap.size wx.heap.size wx (.agg #[.slice ya ma da, .slice yb mb db, .slice yc mc dc_, .int .i64 (Ring.sgK T lk ln (digK T ln) a).2.2.2.1, .int .i64 (Ring.sgK T lk ln (digK T ln) a).2.2.2.2]) (Ring.sgK T lk ln (digK T ln) a) → Below w.heap.size w wx → Q .normal ⟨#[.slice xl nl cl, v1, v2, .int .i64 a, v4, .pointer (some ⟨p, 0, none⟩), .pointer (some ⟨q, 0, none⟩), v7, .pointer (some ⟨gD, 0, none⟩), .bool (Ring.sgOk T lk ln (digK T ln) a), u10, u11, u12, u13, u14, u15, u16, u17, u18, u19], []⟩ ((((((wx).setCell ⟨gD, 0, none⟩ (.slice ya ma da)).setCell ⟨gD, 1, none⟩ (.slice yb mb db)).setCell ⟨gD, 2, none⟩ (.slice yc mc dc_)).setCell ⟨gD, 3, none⟩ (.int .i64 (Ring.sgK T lk ln (digK T ln) a).2.2.2.1)).setCell ⟨gD, 4, none⟩ (.int .i64 (Ring.sgK T lk ln (digK T ln) a).2.2.2.2))) :
  (Code.region 1 #[⟨some 10, .move (.tmp 0), 24, "l11_trust.go:101", #[], none⟩,
   ⟨some 11, .load 32 (.tmp 6), 32, "l11_trust.go:101", #[], none⟩,
   ⟨some 12, .load 32 (.tmp 5), 32, "l11_trust.go:101", #[], none⟩,
   ⟨some 13, .move (.tmp 0), 24, "l11_trust.go:101", #[], none⟩,
   ⟨some 14, .load 32 (.tmp 5), 32, "l11_trust.go:101", #[], none⟩,
   ⟨some 15, .call ⟨.value (.func 27), #[.tmp 13, .tmp 14], #[24, 32]⟩, 22, "l11_trust.go:101", #[⟨3, .data⟩, ⟨4, .data⟩], none⟩,
   ⟨some 16, .move (.tmp 3), 3, "l11_trust.go:101", #[], none⟩,
   ⟨some 17, .call ⟨.value (.func 47), #[.tmp 10, .tmp 11, .tmp 12, .tmp 15, .tmp 16], #[24, 32, 32, 22, 3]⟩, 46, "l11_trust.go:101", #[⟨0, .data⟩, ⟨1, .data⟩, ⟨2, .data⟩, ⟨5, .data⟩, ⟨6, .data⟩, ⟨5, .chain⟩], none⟩,
   ⟨some 18, .extract (.tmp 17) 0, 34, "l11_trust.go:101", #[⟨7, .data⟩], none⟩,
   ⟨some 19, .extract (.tmp 17) 1, 4, "l11_trust.go:101", #[⟨7, .data⟩], none⟩,
   ⟨none, .store 34 (.tmp 8) (.tmp 18), 0, "l11_trust.go:101", #[⟨8, .data⟩, ⟨7, .chain⟩, ⟨0, .phase⟩, ⟨1, .phase⟩, ⟨2, .phase⟩, ⟨3, .phase⟩, ⟨4, .phase⟩, ⟨5, .phase⟩, ⟨6, .phase⟩, ⟨7, .phase⟩, ⟨8, .phase⟩, ⟨9, .phase⟩], none⟩,
   ⟨some 9, .assign (.tmp 19), 4, "l11_trust.go:101", #[⟨9, .data⟩, ⟨10, .chain⟩, ⟨0, .phase⟩, ⟨1, .phase⟩, ⟨2, .phase⟩, ⟨3, .phase⟩, ⟨4, .phase⟩, ⟨5, .phase⟩, ⟨6, .phase⟩, ⟨7, .phase⟩, ⟨8, .phase⟩, ⟨9, .phase⟩, ⟨10, .phase⟩], none⟩] true).wp Tryz.prog Q ⟨#[.slice xl nl cl, v1, v2, .int .i64 a, v4, .pointer (some ⟨p, 0, none⟩), .pointer (some ⟨q, 0, none⟩), v7, .pointer (some ⟨gD, 0, none⟩), v9, v10, v11, v12, v13, v14, v15, v16, v17, v18, v19], []⟩ w := by
 have HQ := Lib.hid hQ; clear hQ
 have hdr : Below w.heap.size w w.drew := (Below.refl _ _).drew
 have BB := Lib.hid hdr
 refine wp_region_noPanic ?_
 refine wp_region_held_drew (S := (fun w' => w'.cell? ⟨p, 0, none⟩ = some (.slice xn nn cn) ∧ w'.cell? ⟨q, 0, none⟩ = some (.slice xk nk ck))) (by kernel_rfl) ?_ (fun hHeld => ?_)
 ·
  exact ⟨kc KN.out BB.out, kc KK.out BB.out⟩
 clear hdr
 generalize w.drew = wd at *
 refine wpAnyH_take (i := 0) (oi := ⟨some 10, .move (.tmp 0), 24, "l11_trust.go:101", #[], none⟩) (v := ?_) rfl (by kernel_rfl) (by kernel_rfl) (by kernel_rfl) (fun _ _ _ h => h) (Or.inl ⟨by rfl, ?_⟩) (by assumption) ?_
 rotate_left
 ·
  intro w' hSw; (try dsimp only at hSw); first | (go_simp; done) | (go_simp; with_reducible rfl)
 (try simp only [Act.put, Row.pB0, Row.pB1, Row.pB2])
 refine wpAnyH_take (i := 1) (oi := ⟨some 11, .load 32 (.tmp 6), 32, "l11_trust.go:101", #[], none⟩) (v := ?_) rfl (by kernel_rfl) (by kernel_rfl) (by kernel_rfl) (fun _ _ _ h => h) (Or.inl ⟨by rfl, ?_⟩) (by assumption) ?_
 rotate_left
 ·
  intro w' hSw; (try dsimp only at hSw); first | (go_simp; done) | (go_simp; with_reducible rfl)
 (try simp only [Act.put, Row.pB0, Row.pB1, Row.pB2])
 refine wpAnyH_take (i := 2) (oi := ⟨some 12, .load 32 (.tmp 5), 32, "l11_trust.go:101", #[], none⟩) (v := ?_) rfl (by kernel_rfl) (by kernel_rfl) (by kernel_rfl) (fun _ _ _ h => h) (Or.inl ⟨by rfl, ?_⟩) (by assumption) ?_
 rotate_left
 ·
  intro w' hSw; (try dsimp only at hSw); first | (go_simp; done) | (go_simp; with_reducible rfl)
 (try simp only [Act.put, Row.pB0, Row.pB1, Row.pB2])
 refine wpAnyH_take (i := 3) (oi := ⟨some 13, .move (.tmp 0), 24, "l11_trust.go:101", #[], none⟩) (v := ?_) rfl (by kernel_rfl) (by kernel_rfl) (by kernel_rfl) (fun _ _ _ h => h) (Or.inl ⟨by rfl, ?_⟩) (by assumption) ?_
 rotate_left
 ·
  intro w' hSw; (try dsimp only at hSw); first | (go_simp; done) | (go_simp; with_reducible rfl)
 (try simp only [Act.put, Row.pB0, Row.pB1, Row.pB2])
 refine wpAnyH_take (i := 4) (oi := ⟨some 14, .load 32 (.tmp 5), 32, "l11_trust.go:101", #[], none⟩) (v := ?_) rfl (by kernel_rfl) (by kernel_rfl) (by kernel_rfl) (fun _ _ _ h => h) (Or.inl ⟨by rfl, ?_⟩) (by assumption) ?_
 rotate_left
 ·
  intro w' hSw; (try dsimp only at hSw); first | (go_simp; done) | (go_simp; with_reducible rfl)
 (try simp only [Act.put, Row.pB0, Row.pB1, Row.pB2])
 refine wpAnyH_take (i := 6) (oi := ⟨some 16, .move (.tmp 3), 3, "l11_trust.go:101", #[], none⟩) (v := ?_) rfl (by kernel_rfl) (by kernel_rfl) (by kernel_rfl) (fun _ _ _ h => h) (Or.inl ⟨by rfl, ?_⟩) (by assumption) ?_
 rotate_left
 ·
  intro w' hSw; (try dsimp only at hSw); first | (go_simp; done) | (go_simp; with_reducible rfl)
 (try simp only [Act.put, Row.pB0, Row.pB1, Row.pB2])
 refine wpAnyH_ready (rs := [5]) (by kernel_rfl) (by simp) ?_
 refine AllReadyH.cons (o := ⟨some 15, .call ⟨.value (.func 27), #[.tmp 13, .tmp 14], #[24, 32]⟩, 22, "l11_trust.go:101", #[⟨3, .data⟩, ⟨4, .data⟩], none⟩) rfl (fun K hK => ?_) AllReadyH.nil
 go_simp
 refine (specKeyDigest _ _ T ln _ _ rfl (H_t.out.on BB.out) (H_n.out.on BB.out) HT.out HLN.out).mono ?_
 rintro e wn1 ⟨v15, rfl, ho, hb⟩
 obtain ⟨x15, n15, rfl, -, h15⟩ := ho.holds.shape
 have H15 := Lib.hid (kB_of h15); clear ho h15
 replace BB := Lib.hid (BB.out.trans (hb.mono BB.out.size))
 clear hb
 (try go_wp2_with fail)
 clear hHeld
 refine hK.out _ _ ?_ (fun hHeld => ?_)
 ·
  (try dsimp only); exact ⟨kc KN.out BB.out, kc KK.out BB.out⟩
 clear hK K
 (try simp only [Act.put, Row.pB0, Row.pB1, Row.pB2])
 refine wpAnyH_ready (rs := [7]) (by kernel_rfl) (by simp) ?_
 refine AllReadyH.cons (o := ⟨some 17, .call ⟨.value (.func 47), #[.tmp 10, .tmp 11, .tmp 12, .tmp 15, .tmp 16], #[24, 32, 32, 22, 3]⟩, 46, "l11_trust.go:101", #[⟨0, .data⟩, ⟨1, .data⟩, ⟨2, .data⟩, ⟨5, .data⟩, ⟨6, .data⟩, ⟨5, .chain⟩], none⟩) rfl (fun K hK => ?_) AllReadyH.nil
 go_simp
 refine (Ring.specSignWithKeyK _ _ _ _ T lk ln (digK T ln) a _ (H_t.out.on BB.out) (H_k.out.on BB.out) (H_n.out.on BB.out) H15.out (digK_byt _ _) HT.out HLK.out HLN.out (Nat.le_trans (digK_len T ln) (by decide))).mono ?_
 rintro e wn2 ⟨v, rfl, ho, hb⟩
 obtain ⟨ya, ma, da, yb, mb, db, yc, mc, dc_, rfl, ho⟩ := kD_shape ho
 have HXX := Lib.hid (show kD.In w.heap.size wn2.heap.size wn2 (.agg #[.slice ya ma da, .slice yb mb db, .slice yc mc dc_, .int .i64 (Ring.sgK T lk ln (digK T ln) a).2.2.2.1, .int .i64 (Ring.sgK T lk ln (digK T ln) a).2.2.2.2]) (Ring.sgK T lk ln (digK T ln) a) from Kd.In.mono ho BB.out.size (Nat.le_refl _)); clear ho
 replace H15 := Lib.hid (H15.out.on hb)
 replace BB := Lib.hid (BB.out.trans (hb.mono BB.out.size))
 clear hb
 (try go_wp2_with fail)
 clear hHeld
 refine hK.out _ _ ?_ (fun hHeld => ?_)
 ·
  (try dsimp only); exact ⟨kc KN.out BB.out, kc KK.out BB.out⟩
 clear hK K
 (try simp only [Act.put, Row.pB0, Row.pB1, Row.pB2])
 refine wpAnyH_take (i := 8) (oi := ⟨some 18, .extract (.tmp 17) 0, 34, "l11_trust.go:101", #[⟨7, .data⟩], none⟩) (v := ?_) rfl (by kernel_rfl) (by kernel_rfl) (by kernel_rfl) (fun _ _ _ h => h) (Or.inl ⟨by rfl, ?_⟩) (by assumption) ?_
 rotate_left
 ·
  intro w' hSw; (try dsimp only at hSw); first | (go_simp; done) | (go_simp; with_reducible rfl)
 (try simp only [Act.put, Row.pB0, Row.pB1, Row.pB2])
 refine wpAnyH_take (i := 9) (oi := ⟨some 19, .extract (.tmp 17) 1, 4, "l11_trust.go:101", #[⟨7, .data⟩], none⟩) (v := ?_) rfl (by kernel_rfl) (by kernel_rfl) (by kernel_rfl) (fun _ _ _ h => h) (Or.inl ⟨by rfl, ?_⟩) (by assumption) ?_
 rotate_left
 ·
  intro w' hSw; (try dsimp only at hSw); first | (go_simp; done) | (go_simp; with_reducible rfl)
 (try simp only [Act.put, Row.pB0, Row.pB1, Row.pB2])
 refine wpAnyH_ready (rs := [10]) (by kernel_rfl) (by simp) ?_
 refine AllReadyH.cons (o := ⟨none, .store 34 (.tmp 8) (.tmp 18), 0, "l11_trust.go:101", #[⟨8, .data⟩, ⟨7, .chain⟩, ⟨0, .phase⟩, ⟨1, .phase⟩, ⟨2, .phase⟩, ⟨3, .phase⟩, ⟨4, .phase⟩, ⟨5, .phase⟩, ⟨6, .phase⟩, ⟨7, .phase⟩, ⟨8, .phase⟩, ⟨9, .phase⟩], none⟩) rfl (fun K hK => ?_) AllReadyH.nil
 obtain ⟨r0, r1, r2, r3, r4⟩ := cells5_11 (XD.out.on BB.out)
 obtain ⟨t0, t1, t2, t3, t4⟩ := froz5_11 (XD.out.on BB.out)
 go_simp
 clear hHeld
 refine hK.out _ _ ?_ (fun hHeld => ?_)
 ·
  (try dsimp only); exact ⟨cell_five11 (kc KN.out BB.out) HPD.out, cell_five11 (kc KK.out BB.out) HQD.out⟩
 clear hK K
 (try simp only [Act.put, Row.pB0, Row.pB1, Row.pB2])
 refine wpAnyH_take (i := 11) (oi := ⟨some 9, .assign (.tmp 19), 4, "l11_trust.go:101", #[⟨9, .data⟩, ⟨10, .chain⟩, ⟨0, .phase⟩, ⟨1, .phase⟩, ⟨2, .phase⟩, ⟨3, .phase⟩, ⟨4, .phase⟩, ⟨5, .phase⟩, ⟨6, .phase⟩, ⟨7, .phase⟩, ⟨8, .phase⟩, ⟨9, .phase⟩, ⟨10, .phase⟩], none⟩) (v := ?_) rfl (by kernel_rfl) (by kernel_rfl) (by kernel_rfl) (fun _ _ _ h => h) (Or.inl ⟨by rfl, ?_⟩) (by assumption) ?_
 rotate_left
 ·
  intro w' hSw; (try dsimp only at hSw); first | (go_simp; done) | (go_simp; with_reducible rfl)
 (try simp only [Act.put, Row.pB0, Row.pB1, Row.pB2])
 refine wpAnyH_done (by kernel_rfl) ?_ _
 exact NoPanic.normal (HQ.out _ _ _ _ _ _ _ _ _ _ ma da mb db mc dc_ ya yb yc _ HXX.out BB.out)
set_option maxHeartbeats 8000000 in
theorem specIssueCertificate (V U1 U2 : Value) (T : Ring.Kt) (ln lk : List ByteArray) (a : Int) (w : World) (h : Ring.kK.At w V T) (g1 : kN.At w U1 ln) (g2 : kN.At w U2 lk) (hl : Ring.bulkT T ≤ 1200000) (h1 : bulk ln ≤ 1200000) (h2 : bulk lk ≤ 1200000) :
    Calls Tryz.prog 14 #[V, U1, U2, .int .i64 a] w fun e w' => ∃ X, e = .returned (.tuple #[X, .bool (Ring.sgOk T lk ln (digK T ln) a)]) ∧ kD.In w.heap.size w'.heap.size w' X (Ring.sgK T lk ln (digK T ln) a) ∧ Below w.heap.size w w' := by
  obtain ⟨xl, nl, cl, rfl, h⟩ := Ring.kK_shapeA h
  obtain ⟨xn, nn, cn, rfl, g1⟩ := kN_shapeA g1
  obtain ⟨xk, nk, ck, rfl, g2⟩ := kN_shapeA g2
  have b1 := (Below.refl w.heap.size w).alloc (Nat.le_refl _) (.cells #[.slice xn nn cn] 32)
  have b2 := (Below.refl (w.alloc (.cells #[.slice xn nn cn] 32)).heap.size (w.alloc (.cells #[.slice xn nn cn] 32))).alloc (Nat.le_refl _) (.cells #[.slice xk nk ck] 32)
  have b3 := (Below.refl ((w.alloc (.cells #[.slice xn nn cn] 32)).alloc (.cells #[.slice xk nk ck] 32)).heap.size ((w.alloc (.cells #[.slice xn nn cn] 32)).alloc (.cells #[.slice xk nk ck] 32))).alloc (Nat.le_refl _) (.cells #[.slice none 0 0, .slice none 0 0, .slice none 0 0, .int .i64 0, .int .i64 0] 34)
  have b23 := b2.trans (b3.mono b2.size)
  have hb0 := b1.trans (b23.mono b1.size)
  have HB := Lib.hid hb0
  have HX := Lib.hid ((Ret.Blk.new w #[.slice xn nn cn] 32).on b23)
  have HY := Lib.hid ((Ret.Blk.new' (w := (w.alloc (.cells #[.slice xn nn cn] 32))) (n := w.heap.size + 1) #[.slice xk nk ck] 32 (by simp)).on b3)
  have HD := Lib.hid (Ret.Blk.new' (w := ((w.alloc (.cells #[.slice xn nn cn] 32)).alloc (.cells #[.slice xk nk ck] 32))) (n := w.heap.size + 1 + 1) #[.slice none 0 0, .slice none 0 0, .slice none 0 0, .int .i64 0, .int .i64 0] 34 (by simp))
  have H0 := Lib.hid (h.on hb0); have H1 := Lib.hid (g1.on hb0); have H2 := Lib.hid (g2.on hb0)
  obtain ⟨W, hW⟩ : ∃ W, (((w.alloc (.cells #[.slice xn nn cn] 32)).alloc (.cells #[.slice xk nk ck] 32)).alloc (.cells #[.slice none 0 0, .slice none 0 0, .slice none 0 0, .int .i64 0, .int .i64 0] 34)) = W := ⟨_, rfl⟩
  rw [hW] at HB HX HY HD H0 H1 H2
  have HW := Lib.hid hW
  clear b1 b2 b3 b23 hb0 h g1 g2 hW
  go_enter Tryz.func14, Tryz.ntmps14
  go_upto_region 1 with fail
  rw [HW.out]
  clear HW
  refine specIss H0 H2 H1 HD (Lib.hid (by omega)) (Lib.hid (by omega)) (Lib.hid hl) (Lib.hid h2) (Lib.hid h1) (Lib.hid (HX.out.cell 0)) (Lib.hid (HY.out.cell 0)) ?_
  intro u10 u11 u12 u13 u14 u15 u16 u17 u18 u19 ma da mb db mc dc_ ya yb yc wx hin hb
  have HD2 := HD.out.on hb
  obtain ⟨k1, k2, k3⟩ := five_facts11 (B := w.heap.size) (w := w) (by omega) HB.out.size HD2 hin (HB.out.trans (hb.mono HB.out.size))
  generalize ((((((wx).setCell ⟨(w.heap.size + 1 + 1), 0, none⟩ (.slice ya ma da)).setCell ⟨(w.heap.size + 1 + 1), 1, none⟩ (.slice yb mb db)).setCell ⟨(w.heap.size + 1 + 1), 2, none⟩ (.slice yc mc dc_)).setCell ⟨(w.heap.size + 1 + 1), 3, none⟩ (.int .i64 (Ring.sgK T lk ln (digK T ln) a).2.2.2.1)).setCell ⟨(w.heap.size + 1 + 1), 4, none⟩ (.int .i64 (Ring.sgK T lk ln (digK T ln) a).2.2.2.2)) = w5 at *
  have K1 := Lib.hid k1; have K2 := Lib.hid k2; have K3 := Lib.hid k3
  clear k1 k2 k3 HD2 hin hb HD HX HY
  go_wp2_with fail
  refine bodyPost_ret (Ret.results_ct rfl _ _ (w.heap.size + 1 + 1) (#[.slice ya ma da, .slice yb mb db, .slice yc mc dc_, .int .i64 (Ring.sgK T lk ln (digK T ln) a).2.2.2.1, .int .i64 (Ring.sgK T lk ln (digK T ln) a).2.2.2.2] : Array Value).toList rfl aggD K3.out.cells) rfl ?_
  exact ⟨_, rfl, K2.out, K1.out⟩
end Go.Proofs.YtlhchmjnaanjpaaGreatDoor.Row
/- What a draw keeps, over a cursor: calls, stores into variables, lists that grow. No conditions. -/
namespace Go.Proofs.YtlhchmjnaanjpaaGreatDoor.Draw
open Go.ChangeShapes Go.WideShapes Go.ChangeAt Go.RowKit Go.Instr
open Go.Proofs.YtlhchmjnaanjpaaGreatDoor.Row
open Go.Proofs.YtlhchmjnaanjpaaGreatDoor.Ret (NC Blk Box)
set_option linter.unusedVariables false
set_option maxRecDepth 100000
structure DS (w0 : World) (p : Nat) (v : Value) (l : List UInt8) (w W : World) : Prop where
  cur : Cur w0 p v l W
  keep : Keep p w W
  h0 : w0.heap.size ≤ w.heap.size
  hp : p < w.heap.size
section
variable {w0 w W W' : World} {p g i B : Nat} {v : Value} {l : List UInt8} {u : Value}
theorem DS.start (hc : Cur w0 p v l w) : DS w0 p v l w w := ⟨hc, Keep.refl _ _, hc.below.size, hc.lt⟩
theorem DS.size (h : DS w0 p v l w W) : w.heap.size ≤ W.heap.size := h.keep.size
theorem DS.on (h : DS w0 p v l w W) (hb : Below W.heap.size W W') : DS w0 p v l w W' := ⟨h.cur.on hb, h.keep.trans (Keep.of_below hb), h.h0, h.hp⟩
theorem DS.step (h : DS w0 p v l w W) (hc : Cur w0 p v l W') (hk : Keep p W W') : DS w0 p v l w W' := ⟨hc, h.keep.trans hk, h.h0, h.hp⟩
theorem DS.set (h : DS w0 p v l w W) (hg : w.heap.size ≤ g) : DS w0 p v l w (W.setCell ⟨g, i, none⟩ u) := ⟨h.cur.setI i (by have := h.h0; omega) (by have := h.hp; omega) u, h.keep.setI i hg u, h.h0, h.hp⟩
theorem DS.grown (h : DS w0 p v l w W) {α : Type} {enc : α → List Value} {sz : Nat} {e : TypeId} {x : Value} {L : List α} (ho : OwnK e enc sz w.heap.size W x L) (hg : W.grownBy W' x.ownBlock) : DS w0 p v l w W' :=
  ⟨h.cur.grown hg (fun g e => by have h1 := (ho.lt g e).1; have h2 := h.h0; have h3 := h.hp; exact ⟨by omega, by omega⟩), h.keep.grown hg (fun g e => (ho.lt g e).1), h.h0, h.hp⟩
theorem DS.alloc (h : DS w0 p v l w W) (o : Obj) : DS w0 p v l w (W.alloc o) := h.on ((Below.refl _ _).alloc (Nat.le_refl _) o)
end
theorem blk_row {w w' : World} {g B sz : Nat} {cs : Array Value} {t e : TypeId} {α : Type} {enc : α → List Value} {x : Value} {L : List α} (h : Blk w g cs t) (hne : e ≠ t) (ho : OwnK e enc sz B w x L) (hg : w.grownBy w' x.ownBlock) : Blk w' g cs t :=
  h.grown hg (fun e1 => by
    obtain ⟨cs2, hc⟩ := ho.row e1.symm
    rw [show w.heap[g]? = some (.cells cs t) from h] at hc
    injection hc with hc
    injection hc with h3 h4
    exact hne h4.symm)
theorem blk_ty {w : World} {g : Nat} {cs cs2 : Array Value} {t t2 : TypeId} (h : Blk w g cs t) (h2 : Blk w g cs2 t2) : t = t2 := by
  have h3 : some (Obj.cells cs t) = some (Obj.cells cs2 t2) := h.symm.trans h2
  injection h3 with h3
  injection h3
theorem two_new {w : World} (cs cs2 : Array Value) (t1 t2 : TypeId) : Ret.Blk ((w.alloc (.cells cs t1)).alloc (.cells cs2 t2)) w.heap.size cs t1 ∧ Ret.Blk ((w.alloc (.cells cs t1)).alloc (.cells cs2 t2)) (w.heap.size + 1) cs2 t2 ∧ Below w.heap.size w ((w.alloc (.cells cs t1)).alloc (.cells cs2 t2)) ∧ ((w.alloc (.cells cs t1)).alloc (.cells cs2 t2)).heap.size = w.heap.size + 2 := by
  have b1 := (Below.refl w.heap.size w).alloc (Nat.le_refl _) (.cells cs t1)
  have b2 := (Below.refl (w.alloc (.cells cs t1)).heap.size (w.alloc (.cells cs t1))).alloc (Nat.le_refl _) (.cells cs2 t2)
  exact ⟨(Ret.Blk.new w cs t1).on b2, Ret.Blk.new' (w := w.alloc (.cells cs t1)) (n := w.heap.size + 1) cs2 t2 (by simp), b1.trans (b2.mono b1.size), by simp⟩
theorem kRl_strip11 (a b : Rw ByteArray) : kRl.strip (a, b) = (a.els, b.els) := by
  show (kN.strip a, kN.strip b) = _
  rw [kN_strip, kN_strip]
theorem kKy_strip11 (a : Rw ByteArray) (s : Int) : kKy.strip (a, s) = (a.els, s) := by
  show (kN.strip a, s) = _
  rw [kN_strip]
theorem kB_strip11 (m : Rw Int) : kB.strip m = m.els := by simp [kB, kS, Kd.slice, Kd.scalar]
theorem kDz_strip11 (a : Rw ByteArray) (b : Rw Int) (c : Rw ByteArray) (f s : Int) : kDz.strip (a, b, c, f, s) = (a.els, b.els, c.els, f, s) := by
  show (kN.strip a, kB.strip b, kN.strip c, f, s) = _
  rw [kN_strip, kN_strip, kB_strip11]
theorem own_four11 {α M : Type} {k : Kd α M} {B g : Nat} {ty : TypeId} {w : World} {m : M} {cs : Array Value} {a b c d : Value} (hN : k.NoRow ty) (h : k.own B w m) (hb : Blk w g cs ty) : k.own B ((((w.setCell ⟨g, 0, none⟩ a).setCell ⟨g, 1, none⟩ b).setCell ⟨g, 2, none⟩ c).setCell ⟨g, 3, none⟩ d) m :=
  Kd.own_setT hN (Kd.own_setT hN (Kd.own_setT hN (Kd.own_setT hN h hb) (hb.set 0 a)) ((hb.set 0 a).set 1 b)) (((hb.set 0 a).set 1 b).set 2 c)
theorem DS.four11 {w0 w W : World} {p g : Nat} {v : Value} {l : List UInt8} {a b c d : Value} (h : DS w0 p v l w W) (hg : w.heap.size ≤ g) : DS w0 p v l w ((((W.setCell ⟨g, 0, none⟩ a).setCell ⟨g, 1, none⟩ b).setCell ⟨g, 2, none⟩ c).setCell ⟨g, 3, none⟩ d) := (((h.set hg).set hg).set hg).set hg
theorem sDz_of_kD {B E : Nat} {w : World} {ya yb yc : Option Addr} {ma da mb db mc dc_ : Nat} {x : Dt} (h : kD.In B E w (.agg #[.slice ya ma da, .slice yb mb db, .slice yc mc dc_, .int .i64 x.2.2.2.1, .int .i64 x.2.2.2.2]) x) : sDz.own B w (⟨ya, ma, da, x.1⟩, ⟨yb, mb, db, x.2.1⟩, ⟨yc, mc, dc_, x.2.2.1⟩, x.2.2.2.1, x.2.2.2.2) := by
  obtain ⟨a, b, c, e, ho, -⟩ := kD_in h
  have e2 := congrArg (fun v => match v with | Value.agg cs => cs.toList | _ => []) e
  simp only [List.cons.injEq, and_true] at e2
  obtain ⟨rfl, rfl, rfl⟩ := e2
  exact sDz_own ⟨kN_own2 ho.1, ⟨ownK_single.2 ho.2.1, fun _ _ => trivial⟩, kN_own2 ho.2.2.1, trivial, trivial⟩
theorem okN_bulk {l : List ByteArray} {n : Nat} (h : bulk l ≤ n) (hn : n ≤ 9000000) : okN l := by
  have h1 := bulk_len l
  refine ⟨by omega, fun x hx => ?_⟩
  obtain ⟨j, hj, rfl⟩ := List.getElem_of_mem hx
  have h2 := size_nth (Nat.le_trans h (Nat.le_trans hn (by decide : 9000000 ≤ 100000000))) hj
  rw [nth_eq hj] at h2
  unfold maxLen
  omega
theorem digK_wf (T : Ring.Kt) (m : List ByteArray) : ∀ y ∈ digK T m, (Lit.int .u8 y).wf = true := wfB (digK_byt T m)
def smD11 (x : Dzt) : Prop := bulk x.1 ≤ 1000 ∧ x.2.1.length ≤ 100 ∧ bulk x.2.2.1 ≤ 1000 ∧ inDz x
theorem smD11_zero : smD11 ([], [], [], 0, 0) := ⟨by simp [bulk_nil], by simp, by simp [bulk_nil], ⟨by simp, by simp⟩, ⟨by simp [okB], by simp⟩, ⟨by simp, by simp⟩, by decide, by decide⟩
theorem sgK_small {T : Ring.Kt} {lk ln : List ByteArray} {b : List Int} {u : Int} (h1 : bulk lk ≤ 1000) (h2 : bulk ln ≤ 1000) (h3 : b.length ≤ 100) (h4 : ∀ y ∈ b, (Lit.int .u8 y).wf = true) (h5 : (Lit.int .i64 u).wf = true) : smD11 (Ring.sgK T lk ln b u) := by
  cases h : Ring.sgOk T lk ln b u with
  | false => rw [Ring.sgK_no h]; exact smD11_zero
  | true =>
    rw [Ring.sgK_yes h]
    have hm := Seal.mac_in (Ring.lkN T lk) (portD (ln, b, lk, u, 0))
    exact ⟨h2, h3, h1, okN_bulk h2 (by decide), ⟨(show b.length ≤ 9223372036854775807 by omega), h4⟩, okN_bulk h1 (by decide), h5, wf_of (by show (-9223372036854775808 : Int) ≤ Seal.mac _ _; omega) (by show Seal.mac _ _ ≤ (9223372036854775807 : Int); omega)⟩
theorem hb_soft {w : World} {B n c : Nat} {ad : Option Addr} {l : List ByteArray} (h : HB B w (.slice ad n c) l) : sN.own B w ⟨ad, n, c, l⟩ := sN_of h
end Go.Proofs.YtlhchmjnaanjpaaGreatDoor.Draw
