/- Contracts and mathematics, joined: ForgeMath, Law, TrustQ, TrustE, RuleQ. No conditions but those that each states. -/
import Derived.WalkKit
import Derived.Test.YtlhchmjnaanjpaaGreatDoorB23
import Derived.Test.YtlhchmjnaanjpaaGreatDoorB3
import Derived.Deep.RegionHeld3
import Derived.Test.YtlhchmjnaanjpaaGreatDoorB20
import Derived.Test.YtlhchmjnaanjpaaGreatDoorProg
import Derived.LaidEql
import Derived.Stop.Asserts
import Derived.RowKitTokens
import Derived.Below
import Derived.Test.YtlhchmjnaanjpaaGreatDoorB2
import Derived.Test.YtlhchmjnaanjpaaGreatDoorB9
/- What nobody makes without a key's secret: a packet with another time, another signature, another key is not trusted. No conditions. -/
namespace Go.Proofs.YtlhchmjnaanjpaaGreatDoor.Row
open Go.ChangeShapes Go.WideShapes Go.ChangeAt Go.RowKit Go.Instr
set_option linter.unusedVariables false
set_option maxRecDepth 100000
theorem mac_set11 (s : Int) {l : List Int} {i : Nat} (hi : i < l.length) (y : Int) (hy : y % 2147483647 ≠ Sl.nth l i % 2147483647) : Seal.mac s (l.set i y) ≠ Seal.mac s l := by
  intro h
  have e1 : l = l.take i ++ [Sl.nth l i] ++ l.drop (i + 1) := by
    rw [Sl.nth_eq hi]; simp
  have e2 : l.set i y = l.take i ++ [y] ++ l.drop (i + 1) := by
    rw [List.set_eq_take_append_cons_drop, if_pos hi]; simp
  generalize Sl.nth l i = x at *
  rw [e2] at h
  conv at h => rhs; rw [e1]
  unfold Seal.mac Seal.digest at h
  simp only [List.foldl_append, List.foldl_cons, List.foldl_nil] at h
  have p0 := Seal.dstep_in 11 s
  have p1 := Seal.foldl_in (l.take i) _ p0.1 p0.2
  have q := fun y => Seal.dstep_in (List.foldl Seal.dstep (Seal.dstep 11 s) (l.take i)) y
  have r := fun y => Seal.foldl_in (l.drop (i + 1)) _ (q y).1 (q y).2
  have h1 := Seal.dstep_left s (r _).1 (r _).2 (r _).1 (r _).2 h
  have h2 := Seal.foldl_inj _ _ _ (q _).1 (q _).2 (q _).1 (q _).2 h1
  exact hy (Seal.dstep_right h2)
theorem verD_fresh11 (t : Int) (x : Dt) (g : Int) (hg : g % 2147483647 ≠ x.2.2.2.1 % 2147483647) (hv : verD t x = true) : verD t (x.1, x.2.1, x.2.2.1, g, x.2.2.2.2) = false := by
  obtain ⟨a, b, c, f, s⟩ := x
  unfold verD at hv ⊢
  rw [Bool.and_eq_true, beq_iff_eq] at hv
  have hs : s = Seal.mac t (portD (a, b, c, f, s)) := hv.2
  have e : portD (a, b, c, g, s) = (portD (a, b, c, f, s)).set (Seal.b2i (appName [] a) ++ Seal.b2i b ++ Seal.b2i (appName [] c)).length g := by
    unfold portD
    simp
  have h1 : Sl.nth (portD (a, b, c, f, s)) (Seal.b2i (appName [] a) ++ Seal.b2i b ++ Seal.b2i (appName [] c)).length = f := by
    unfold portD Sl.nth
    simp
  have h2 := mac_set11 t (l := portD (a, b, c, f, s)) (i := (Seal.b2i (appName [] a) ++ Seal.b2i b ++ Seal.b2i (appName [] c)).length) (by unfold portD; simp) g (by rw [h1]; exact hg)
  rw [← e, ← hs] at h2
  rw [show (s == Seal.mac t (portD (a, b, c, g, s))) = false by simpa using fun e => h2 e.symm, Bool.and_false]
section
variable {t : Tpt} {x : Dzt} {now : Int}
theorem trusted_ver (h : trusted t x now = true) : verD (Ring.lkN t.1 x.2.2.1) x = true ∧ validD x = true := by
  unfold trusted chOk at h
  rw [Bool.and_eq_true] at h
  refine ⟨?_, h.2⟩
  cases hv : verD (Ring.lkN t.1 x.2.2.1) x with
  | true => rfl
  | false =>
    have h1 := h.1
    rw [show chainT t now 4 x = none from by unfold chainT sigT; rw [hv]; simp] at h1
    exact absurd h1 (by simp)
theorem not_ver (h : verD (Ring.lkN t.1 x.2.2.1) x = false) : trusted t x now = false := by
  cases ht : trusted t x now with
  | false => rfl
  | true => rw [(trusted_ver ht).1] at h; cases h
theorem not_may (h : firstR t.2.1 x.1 x.2.2.1 < 0) : trusted t x now = false := by
  unfold trusted chOk
  rw [show chainT t now 4 x = none from by unfold chainT sigT; rw [decide_eq_false (show ¬ 0 ≤ firstR t.2.1 x.1 x.2.2.1 by omega)]; simp]
  rfl
theorem forge_fresh (h : trusted t x now = true) {a : Int} (h0 : 0 ≤ a) (h1 : a ≤ 255) : trusted t (x.1, x.2.1, x.2.2.1, x.2.2.2.1 + 1 + a, x.2.2.2.2) now = false := by
  have hv := trusted_ver h
  have hd := (validD_iff.1 hv.2).2.2.2.2.1
  exact not_ver (x := (x.1, x.2.1, x.2.2.1, x.2.2.2.1 + 1 + a, x.2.2.2.2)) (verD_fresh11 _ x _ (by omega) hv.1)
theorem forge_sig (h : trusted t x now = true) {s : Int} (hs : s ≠ x.2.2.2.2) : trusted t (x.1, x.2.1, x.2.2.1, x.2.2.2.1, s) now = false := by
  have hv := (trusted_ver h).1
  refine not_ver (x := (x.1, x.2.1, x.2.2.1, x.2.2.2.1, s)) ?_
  unfold verD at hv ⊢
  rw [Bool.and_eq_true, beq_iff_eq] at hv
  have e : portD (x.1, x.2.1, x.2.2.1, x.2.2.2.1, s) = portD x := rfl
  show (Num.inB _ 1 2147483646 && (s == Seal.mac _ (portD (x.1, x.2.1, x.2.2.1, x.2.2.2.1, s)))) = false
  rw [e, show (s == Seal.mac (Ring.lkN t.1 x.2.2.1) (portD x)) = false by rw [← hv.2]; simpa using hs, Bool.and_false]
def badK : List ByteArray := [{ data := #[98, 97, 100] }, { data := #[107, 101, 121] }]
theorem bad_may {n : List ByteArray} (h : n = [] ∨ n ∈ Draw.NM11) : firstR Draw.RS11 n badK < 0 := by
  have e : (([] :: Draw.NM11).all fun n => decide (firstR Draw.RS11 n badK < 0)) = true := by kernel_rfl
  have h2 := List.all_eq_true.1 e n (by rcases h with rfl | h; exact List.mem_cons_self; exact List.mem_cons_of_mem _ h)
  simpa using h2
theorem forge_key (hr : t.2.1 = Draw.RS11) {n : List ByteArray} (hn : n = [] ∨ n ∈ Draw.NM11) {T : Ring.Kt} {b : List Int} {u : Int} (hk : Ring.sgOk T badK n b u = true) : trusted t (Ring.sgK T badK n b u) now = false := by
  refine not_may ?_
  have h := Draw.sgK_until hk
  rw [h.2.1, h.2.2.2, hr]
  exact bad_may hn
end
section
variable {w : World} {xa xb xc : Option Addr} {na ca nb cb nc cc : Nat} {f s : Value} {x : Dt}
theorem kD_parts11 (h : kD.At w (.agg #[.slice xa na ca, .slice xb nb cb, .slice xc nc cc, f, s]) x) : DHold w (.slice xa na ca) (.slice xb nb cb) (.slice xc nc cc) x := by
  obtain ⟨a, b, c, e, ho⟩ := kD_at h
  have e2 := congrArg (fun v => match v with | Value.agg cs => cs.toList | _ => []) e
  simp only [List.cons.injEq, and_true] at e2
  obtain ⟨rfl, rfl, rfl, -⟩ := e2
  exact ho
theorem kD_turn11 (h : kD.At w (.agg #[.slice xa na ca, .slice xb nb cb, .slice xc nc cc, f, s]) x) (g u : Int) : kD.At w (.agg #[.slice xa na ca, .slice xb nb cb, .slice xc nc cc, .int .i64 g, .int .i64 u]) (x.1, x.2.1, x.2.2.1, g, u) :=
  by
  have h2 := kD_parts11 h
  exact kD_of (x := (x.1, x.2.1, x.2.2.1, g, u)) (show DHold w _ _ _ (x.1, x.2.1, x.2.2.1, g, u) from h2)
end
theorem fitD_turn11 {x : Dt} (h : FitD x) {g u : Int} (hg : (Lit.int .i64 g).wf = true) (hu : (Lit.int .i64 u).wf = true) : FitD (x.1, x.2.1, x.2.2.1, g, u) := ⟨h.wt, h.ok.1, h.ok.2.1, h.ok.2.2.1, hg, hu⟩
theorem kTp_keys11 {w : World} {x0 : Option Addr} {n0 c0 : Nat} {a b c : Value} {t : Tpt} (h : kTp.At w (.agg #[.slice x0 n0 c0, a, b, c]) t) : Ring.kK.At w (.slice x0 n0 c0) t.1 := by
  obtain ⟨y0, m0, d0, y1, m1, d1, y2, m2, d2, y3, m3, d3, e, g0, -, -, -⟩ := kTp_at h
  have e2 := congrArg (fun v => match v with | Value.agg cs => cs.toList | _ => []) e
  simp only [List.cons.injEq, and_true] at e2
  obtain ⟨e3, -⟩ := e2
  rw [e3]
  exact kK_ofK g0
theorem bad_lit11 (w : World) : kN.At (w.alloc (.cells #[.string { data := #[98, 97, 100] }, .string { data := #[107, 101, 121] }] 9)) (.agg #[.slice (some ⟨w.heap.size, 0, none⟩) 2 2]) badK :=
  kN_of (Row.Own.holds (show Own 9 Value.string w.heap.size (w.alloc (.cells #[.string { data := #[98, 97, 100] }, .string { data := #[107, 101, 121] }] 9)) (.slice (some ⟨w.heap.size, 0, none⟩) 2 2) badK from World.ownsRow_lit w #[.string { data := #[98, 97, 100] }, .string { data := #[107, 101, 121] }] 2 (Nat.le_refl _) (by unfold maxLen; omega) rfl))
theorem forge_fit11 {T : Ring.Kt} {x : Dt} (hv : validD x = true) (hb : ∀ y ∈ x.2.1, (Lit.int .u8 y).wf = true) (hw : (Lit.int .i64 x.2.2.2.1).wf = true) : FitD (Ring.sgK T badK x.1 x.2.1 x.2.2.2.1) := by
  have h := validD_iff.1 hv
  have h2 := Draw.sgK_small (T := T) (lk := badK) (ln := x.1) (b := x.2.1) (u := x.2.2.2.1) (of_decide_eq_true (by kernel_rfl)) (Nat.le_trans (bulk_valid h.1) (by decide)) (by omega) hb hw
  exact ⟨by have h1 := h2.1; have h3 := h2.2.1; have h4 := h2.2.2.1; show bulk _ + List.length _ + bulk _ ≤ 1200000; omega, h2.2.2.2⟩
theorem trustD_at2 {B : Nat} {V : Value} {w : World} (h : Draw.TrustD B V w) : ∃ t : Tpt, kTp.At w V t ∧ FitT t ∧ t.2.1 = Draw.RS11 := by
  obtain ⟨gk, ga, a1, a3, c1, n3, c3, L0, L1, L2, L3, rfl, h0, h1, h2, h3, e0, e1, e2, e3, e4⟩ := h
  refine ⟨(Draw.KS11, Draw.RS11, [pN { data := #[47, 107, 101, 121, 47, 97] }], L3.map kDz.strip), ?_, fit_made (by rw [List.length_map]; exact e3) (fun y hy => ?_), rfl⟩
  · have h := sTp_at (m := (⟨some ⟨gk, 0, none⟩, 4, 4, L0⟩, ⟨a1, 2, c1, L1⟩, ⟨some ⟨ga, 0, none⟩, 1, 1, L2⟩, ⟨a3, n3, c3, L3⟩)) ⟨h0, h1, h2, h3⟩
    rw [← e0, ← e1, ← e2]
    exact h
  · obtain ⟨z, hz, rfl⟩ := List.mem_map.1 hy
    exact (e4 z hz).1
end Go.Proofs.YtlhchmjnaanjpaaGreatDoor.Row
/- Contracts of the laws' own helpers over the drawn bytes: at gives a number from 0 to 255. Nothing in memory turns. No conditions. -/
namespace Go.Proofs.YtlhchmjnaanjpaaGreatDoor.Draw
open Go.ChangeShapes Go.WideShapes Go.ChangeAt Go.RowKit Go.Instr
set_option linter.unusedVariables false
set_option maxRecDepth 100000
set_option maxHeartbeats 1000000 in
theorem lawAt (x : Option Addr) (n cap k : Nat) (l : List UInt8) (w : World) (hq : Frame.Bytes w (.slice x n cap) l) (hn : n = l.length) (hk : k ≤ 1000) :
    Calls Tryz.prog 32 #[.slice x n cap, .int .i64 k] w fun e w' => (∃ r : Int, e = .returned (.int .i64 r) ∧ 0 ≤ r ∧ r ≤ 255) ∧ w = w' := by
  have hle := bytes_le hq
  rw [← hn] at hle
  obtain ⟨x', cap', hv, hat⟩ := bytes_at hq
  have hx : x = x' := by cases hv; rfl
  subst hx; clear hv
  by_cases hlt : k < n
  · obtain ⟨b, off, hx, hc⟩ := hat k (by omega)
    subst hx
    have hu := l[k].toNat_lt
    obtain ⟨u, hu2⟩ : ∃ u, u = l[k].toNat := ⟨_, rfl⟩
    rw [← hu2] at hc hu
    have hlti : (k : Int) < (n : Int) := by omega
    have hu0 : (0 : Int) ≤ (u : Int) := by omega
    have hu1 : (u : Int) ≤ 255 := by omega
    clear hat hq hn hu2
    go_enter Tryz.func32, Tryz.ntmps32
    go_wp2_with fail
    go_ret
    exact ⟨⟨_, rfl, hu0, hu1⟩, rfl⟩
  · have hlti : decide ((k : Int) < (n : Int)) = false := by simp; omega
    clear hat hq hn
    go_enter Tryz.func32, Tryz.ntmps32
    go_wp2_with fail
    go_ret
    exact ⟨⟨_, rfl, by omega, by omega⟩, rfl⟩
end Go.Proofs.YtlhchmjnaanjpaaGreatDoor.Draw
/- The program's FindCertificate (slices.IndexFunc with a closure). No conditions but that lengths fit. -/
namespace Go.Proofs.YtlhchmjnaanjpaaGreatDoor.Row
open Go.ChangeShapes Go.WideShapes Go.ChangeAt Go.RowKit Go.Instr
set_option linter.unusedVariables false
set_option maxRecDepth 100000
theorem iFrV {V : Value} {x : Dt} {n : Int} {w : World} (q : Bool) (hq : decide (n ≤ x.2.2.2.1) = q) (h : kD.At w V x) :
    Calls Tryz.prog 53 #[V, .int .i64 n] w fun e w' => e = .returned (.bool q) ∧ Below w.heap.size w w' := hq ▸ implFreshAtK V x n w h
theorem iVsV {V U : Value} {T : Ring.Kt} {x : Dt} {w : World} (q : Bool) (hq : verD (Ring.lkN T x.2.2.1) x = q) (h : Ring.kK.At w V T) (g : kD.At w U x) (gn : WfD x) (hl : Ring.bulkT T ≤ 1200000) (hx : bulkD x ≤ 1200000) :
    Calls Tryz.prog 30 #[V, U] w fun e w' => e = .returned (.bool q) ∧ Below w.heap.size w w' := hq ▸ Ring.implVerifySignatureK V U T x w h g gn hl hx
theorem iEbV {V U : Value} {l m : List Int} {w : World} (q : Bool) (hq : decide (l = m) = q) (h : Sl.Holds .u8 w V l) (g : Sl.Holds .u8 w U m) (hl : Sl.Byt l) (hm : Sl.Byt m) :
    Calls Tryz.prog 54 #[V, U] w fun e w' => e = .returned (.bool q) ∧ w = w' := hq ▸ Sl.implEqualBytes V U l m w h g hl hm
theorem digK_nil (T : Ring.Kt) (m : List ByteArray) : (digK T m).length = 0 ↔ Ring.lkN T m = 0 := by
  unfold digK
  by_cases h : Ring.lkN T m = 0
  · rw [if_pos h]; simp [h]
  · rw [if_neg h]
    have h1 := Seal.digest_in [Ring.lkN T m]
    have h2 : Var.var (Seal.digest [Ring.lkN T m]) ≠ [] := by
      unfold Var.var
      rw [if_pos (by omega)]
      exact Var.enc_ne _
    constructor
    · intro h3; exact absurd (List.length_eq_zero_iff.1 h3) h2
    · intro h3; exact absurd h3 h
set_option maxHeartbeats 4000000 in
theorem certClos (gn gw gd gt : Nat) (V : Value) (x : Dzt) (t : Tpt) (m : List ByteArray) (now : Int) (dg : List Int) (xn xd x0 x1 x2 x3 : Option Addr) (nn cn nd cd n0 c0 n1 c1 n2 c2 n3 c3 : Nat) (w : World) (z : Bool)
    (hz : (decide (x.1 = m) && decide (now ≤ x.2.2.2.1) && decide (x.2.1 = dg) && verD (Ring.lkN t.1 x.2.2.1) x) = z)
    (hn : Ret.Blk w gn #[.slice xn nn cn] 32) (hw : Ret.Blk w gw #[.int .i64 now] 3) (hd : Ret.Blk w gd #[.slice xd nd cd] 22) (ht : Ret.Blk w gt #[.slice x0 n0 c0, .slice x1 n1 c1, .slice x2 n2 c2, .slice x3 n3 c3] 29)
    (h : kDz.At w V x) (g : kN.At w (.agg #[.slice xn nn cn]) m) (gd9 : Sl.Holds .u8 w (.slice xd nd cd) dg) (gk : kLKy.At w (.slice x0 n0 c0) t.1) (hl : FitD x) (hm : bulk m ≤ 1200000) (hk : Ring.bulkT t.1 ≤ 1200000) (hby : Sl.Byt dg) :
    Calls Tryz.prog 51 #[V, .pointer (some ⟨gn, 0, none⟩), .pointer (some ⟨gw, 0, none⟩), .pointer (some ⟨gd, 0, none⟩), .pointer (some ⟨gt, 0, none⟩)] w fun e w' => e = .returned (.bool z) ∧ Below w.heap.size w w' := by
  obtain ⟨ya, ma, da, yb, mb, db, yc, mc, dc_, rfl, h⟩ := kD_shapeA (kD_ofK h)
  have hal := (Below.refl w.heap.size w).alloc (Nat.le_refl _) (.cells #[.slice ya ma da, .slice yb mb db, .slice yc mc dc_, .int .i64 x.2.2.2.1, .int .i64 x.2.2.2.2] 34)
  have HB := Lib.hid hal
  have HV := Lib.hid (Ret.Blk.new w #[.slice ya ma da, .slice yb mb db, .slice yc mc dc_, .int .i64 x.2.2.2.1, .int .i64 x.2.2.2.2] 34)
  have HN := Lib.hid (hn.on hal); have HW := Lib.hid (hw.on hal); have HD := Lib.hid (hd.on hal); have HT := Lib.hid (ht.on hal)
  obtain ⟨k1, k2, k3⟩ := kDz_parts (h.on hal)
  have HNM := Lib.hid k1; have HBY := Lib.hid k2
  have HX := Lib.hid (h.on hal); have HM := Lib.hid (g.on hal); have HG := Lib.hid (gd9.on hal); have HK := Lib.hid (kK_ofK (gk.on hal))
  have HL := Lib.hid hl; have HBD := Lib.hid hby
  obtain ⟨e1, he1⟩ : ∃ e, decide (x.1 = m) = e := ⟨_, rfl⟩
  obtain ⟨e2, he2⟩ : ∃ e, decide (now ≤ x.2.2.2.1) = e := ⟨_, rfl⟩
  obtain ⟨e3, he3⟩ : ∃ e, decide (x.2.1 = dg) = e := ⟨_, rfl⟩
  obtain ⟨e4, he4⟩ : ∃ e, verD (Ring.lkN t.1 x.2.2.1) x = e := ⟨_, rfl⟩
  rw [he1, he2, he3, he4] at hz
  have HZ := Lib.hid hz; have H1 := Lib.hid he1; have H2 := Lib.hid he2; have H3 := Lib.hid he3; have H4 := Lib.hid he4
  clear hal hn hw hd ht k1 k2 k3 h g gd9 gk hl hby he1 he2 he3 he4 hz
  have p0 : (w.alloc (.cells #[.slice ya ma da, .slice yb mb db, .slice yc mc dc_, .int .i64 x.2.2.2.1, .int .i64 x.2.2.2.2] 34)).cell? ⟨w.heap.size, 0, none⟩ = some (.slice ya ma da) := HV.out.cell 0
  have p1 : (w.alloc (.cells #[.slice ya ma da, .slice yb mb db, .slice yc mc dc_, .int .i64 x.2.2.2.1, .int .i64 x.2.2.2.2] 34)).cell? ⟨w.heap.size, 1, none⟩ = some (.slice yb mb db) := HV.out.cell 1
  have p2 : (w.alloc (.cells #[.slice ya ma da, .slice yb mb db, .slice yc mc dc_, .int .i64 x.2.2.2.1, .int .i64 x.2.2.2.2] 34)).cell? ⟨w.heap.size, 2, none⟩ = some (.slice yc mc dc_) := HV.out.cell 2
  have p3 : (w.alloc (.cells #[.slice ya ma da, .slice yb mb db, .slice yc mc dc_, .int .i64 x.2.2.2.1, .int .i64 x.2.2.2.2] 34)).cell? ⟨w.heap.size, 3, none⟩ = some (.int .i64 x.2.2.2.1) := HV.out.cell 3
  have p4 : (w.alloc (.cells #[.slice ya ma da, .slice yb mb db, .slice yc mc dc_, .int .i64 x.2.2.2.1, .int .i64 x.2.2.2.2] 34)).cell? ⟨w.heap.size, 4, none⟩ = some (.int .i64 x.2.2.2.2) := HV.out.cell 4
  have pn : (w.alloc (.cells #[.slice ya ma da, .slice yb mb db, .slice yc mc dc_, .int .i64 x.2.2.2.1, .int .i64 x.2.2.2.2] 34)).cell? ⟨gn, 0, none⟩ = some (.slice xn nn cn) := HN.out.cell 0
  have pw : (w.alloc (.cells #[.slice ya ma da, .slice yb mb db, .slice yc mc dc_, .int .i64 x.2.2.2.1, .int .i64 x.2.2.2.2] 34)).cell? ⟨gw, 0, none⟩ = some (.int .i64 now) := HW.out.cell 0
  have pd : (w.alloc (.cells #[.slice ya ma da, .slice yb mb db, .slice yc mc dc_, .int .i64 x.2.2.2.1, .int .i64 x.2.2.2.2] 34)).cell? ⟨gd, 0, none⟩ = some (.slice xd nd cd) := HD.out.cell 0
  have pt : (w.alloc (.cells #[.slice ya ma da, .slice yb mb db, .slice yc mc dc_, .int .i64 x.2.2.2.1, .int .i64 x.2.2.2.2] 34)).cell? ⟨gt, 0, none⟩ = some (.slice x0 n0 c0) := HT.out.cell 0
  go_enter Tryz.func51, Tryz.ntmps51
  go_wp2_with fail
  refine (iEqN e1 H1.out HNM.out HM.out (Nat.le_trans HL.out.name (by decide)) (Nat.le_trans hm (by decide))).mono ?_
  rintro e w1 ⟨rfl, hb⟩
  replace HV := Lib.hid (HV.out.on hb); replace HN := Lib.hid (HN.out.on hb); replace HW := Lib.hid (HW.out.on hb); replace HD := Lib.hid (HD.out.on hb); replace HT := Lib.hid (HT.out.on hb); replace HX := Lib.hid (HX.out.on hb); replace HM := Lib.hid (HM.out.on hb); replace HG := Lib.hid (HG.out.on hb); replace HK := Lib.hid (HK.out.on hb); replace HNM := Lib.hid (HNM.out.on hb); replace HBY := Lib.hid (HBY.out.on hb)
  replace HB := Lib.hid (HB.out.trans (hb.mono HB.out.size)); clear hb p0 p1 p2 p3 p4 pn pw pd pt
  have p0 : w1.cell? ⟨w.heap.size, 0, none⟩ = some (.slice ya ma da) := HV.out.cell 0
  have p1 : w1.cell? ⟨w.heap.size, 1, none⟩ = some (.slice yb mb db) := HV.out.cell 1
  have p2 : w1.cell? ⟨w.heap.size, 2, none⟩ = some (.slice yc mc dc_) := HV.out.cell 2
  have p3 : w1.cell? ⟨w.heap.size, 3, none⟩ = some (.int .i64 x.2.2.2.1) := HV.out.cell 3
  have p4 : w1.cell? ⟨w.heap.size, 4, none⟩ = some (.int .i64 x.2.2.2.2) := HV.out.cell 4
  have pn : w1.cell? ⟨gn, 0, none⟩ = some (.slice xn nn cn) := HN.out.cell 0
  have pw : w1.cell? ⟨gw, 0, none⟩ = some (.int .i64 now) := HW.out.cell 0
  have pd : w1.cell? ⟨gd, 0, none⟩ = some (.slice xd nd cd) := HD.out.cell 0
  have pt : w1.cell? ⟨gt, 0, none⟩ = some (.slice x0 n0 c0) := HT.out.cell 0
  cases e1 with
  | false =>
    go_wp2_with fail
    go_ret
    exact ⟨ret_bool HZ.out, HB.out⟩
  | true =>
    go_wp2_with fail
    refine (iFrV e2 H2.out HX.out).mono ?_
    rintro e w2 ⟨rfl, hb⟩
    replace HV := Lib.hid (HV.out.on hb); replace HN := Lib.hid (HN.out.on hb); replace HW := Lib.hid (HW.out.on hb); replace HD := Lib.hid (HD.out.on hb); replace HT := Lib.hid (HT.out.on hb); replace HX := Lib.hid (HX.out.on hb); replace HM := Lib.hid (HM.out.on hb); replace HG := Lib.hid (HG.out.on hb); replace HK := Lib.hid (HK.out.on hb); replace HNM := Lib.hid (HNM.out.on hb); replace HBY := Lib.hid (HBY.out.on hb)
    replace HB := Lib.hid (HB.out.trans (hb.mono HB.out.size)); clear hb p0 p1 p2 p3 p4 pn pw pd pt
    have p0 : w2.cell? ⟨w.heap.size, 0, none⟩ = some (.slice ya ma da) := HV.out.cell 0
    have p1 : w2.cell? ⟨w.heap.size, 1, none⟩ = some (.slice yb mb db) := HV.out.cell 1
    have p2 : w2.cell? ⟨w.heap.size, 2, none⟩ = some (.slice yc mc dc_) := HV.out.cell 2
    have p3 : w2.cell? ⟨w.heap.size, 3, none⟩ = some (.int .i64 x.2.2.2.1) := HV.out.cell 3
    have p4 : w2.cell? ⟨w.heap.size, 4, none⟩ = some (.int .i64 x.2.2.2.2) := HV.out.cell 4
    have pn : w2.cell? ⟨gn, 0, none⟩ = some (.slice xn nn cn) := HN.out.cell 0
    have pw : w2.cell? ⟨gw, 0, none⟩ = some (.int .i64 now) := HW.out.cell 0
    have pd : w2.cell? ⟨gd, 0, none⟩ = some (.slice xd nd cd) := HD.out.cell 0
    have pt : w2.cell? ⟨gt, 0, none⟩ = some (.slice x0 n0 c0) := HT.out.cell 0
    cases e2 with
    | false =>
      go_wp2_with fail
      go_ret
      exact ⟨ret_bool HZ.out, HB.out⟩
    | true =>
      go_wp2_with fail
      refine (iEbV e3 H3.out HBY.out HG.out HL.out.wf.byt HBD.out).mono ?_
      rintro e w3 ⟨rfl, rfl⟩
      cases e3 with
      | false =>
        go_wp2_with fail
        go_ret
        exact ⟨ret_bool HZ.out, HB.out⟩
      | true =>
        go_wp2_with fail
        refine (iVsV e4 H4.out HK.out HX.out HL.out.wf hk HL.out.bulk).mono ?_
        rintro e w4 ⟨rfl, hb⟩
        replace HV := Lib.hid (HV.out.on hb); replace HN := Lib.hid (HN.out.on hb); replace HW := Lib.hid (HW.out.on hb); replace HD := Lib.hid (HD.out.on hb); replace HT := Lib.hid (HT.out.on hb); replace HX := Lib.hid (HX.out.on hb); replace HM := Lib.hid (HM.out.on hb); replace HG := Lib.hid (HG.out.on hb); replace HK := Lib.hid (HK.out.on hb); replace HNM := Lib.hid (HNM.out.on hb); replace HBY := Lib.hid (HBY.out.on hb)
        replace HB := Lib.hid (HB.out.trans (hb.mono HB.out.size)); clear hb p0 p1 p2 p3 p4 pn pw pd pt
        replace HZ : Hid (e4 = z) := Lib.hid (by have h5 := HZ.out; simpa using h5)
        go_wp2_with fail
        go_ret
        exact ⟨ret_bool HZ.out, HB.out⟩
set_option maxHeartbeats 2000000 in
theorem indexCert (b0 b1 b2 b3 : Addr) (p : Dzt → Bool) (ok : Dzt → Prop) (v : Value) (l : List Dzt) (w : World) (z : Int) (hz : ixL p l = z) (h : kLDz.At w v l) (hl : l.length ≤ 9000000) (hp : ∀ x ∈ l, ok x) (hc : ClosK Tryz.prog kDz 51 #[.pointer (some b0), .pointer (some b1), .pointer (some b2), .pointer (some b3)] p ok w) :
    Calls Tryz.prog 50 #[v, .func (.func 51) #[] #[.pointer (some b0), .pointer (some b1), .pointer (some b2), .pointer (some b3)]] w fun e w' => e = .returned (.int .i64 z) ∧ Below w.heap.size w w' := by
  obtain ⟨x, n, cx, L, rfl, hn, ht, hh, hel⟩ := kLDz_at h
  have hlen : l.length = n := by rw [← ht, List.length_map]; exact hn.symm
  rw [hlen] at hl
  have hcap : n ≤ cx := by obtain ⟨x', n', cap', hv, hn', hc', -⟩ := hh.shapeN; cases hv; exact hc'
  have HN := Lib.hid hn; have HT := Lib.hid ht; have HH := Lib.hid hh; have HEL := Lib.hid hel; have HLEN := Lib.hid hlen; have HP := Lib.hid hp; have HC := Lib.hid hc; have HZ := Lib.hid hz
  clear hn h hh hc hp ht hel hlen hz
  go_enter Tryz.func50, Tryz.ntmps50
  go_wp2
  go_loopw [8] (fun iv wr => ∃ i : Nat, i ≤ n ∧ iv = .int .i64 i ∧ Hid (noL p l i) ∧ Hid (Below w.heap.size w wr)) (fun iv _ => n - (intOf iv).toNat)
  case atStart => exact ⟨0, Nat.zero_le _, rfl, Lib.hid (noL_zero _ _), Lib.hid (Below.refl _ _)⟩
  case round =>
    obtain ⟨k, hk, rfl, ha, hb⟩ := hrel
    by_cases hlt : k < n
    · have hlen := HN.out
      obtain ⟨b, off, y0, m0, d0, y1, m1, d1, y2, m2, d2, rfl, -, hc0, hc1, hc2, hc3, hc4, hA⟩ := kLDz_elem (HH.out.on hb.out) (fun y hy => kDz.holds_on (HEL.out y hy) hb.out) (j := k) (by omega)
      have hpt : nth l k = kDz.strip (nth L k) := by rw [← HT.out, nth_map _ (by omega)]
      have hps := HP.out (nth l k) (nth_mem (by have := HLEN.out; omega))
      rw [hpt] at hps
      obtain ⟨q, hq⟩ : ∃ q, p (kDz.strip (nth L k)) = q := ⟨_, rfl⟩
      have HCL := HC.out _ _ wr hb.out hA hps
      rw [hq] at HCL
      rw [← hpt] at hq
      replace HCL := Lib.hid HCL
      have HQ := Lib.hid hq
      clear hlen hpt hps hA hq
      go_wp2_with fail
      refine HCL.out.mono ?_
      rintro e w2 ⟨rfl, hb2⟩
      have HB2 := Lib.hid (hb.out.trans (hb2.mono hb.out.size))
      clear hb2 hc0 hc1 hc2 hc3 hc4 HCL
      cases q with
      | true =>
        have HV := Lib.hid (show z = (k : Int) from HZ.out.symm.trans (ixL_at (by have := HLEN.out; omega) ha.out HQ.out))
        go_wp2
        go_ret
        exact ⟨ret_int HV.out.symm, HB2.out⟩
      | false =>
        have HA := Lib.hid (noL_succ ha.out HQ.out)
        go_wp2
        go_roundw
        case rel => exact ⟨k + 1, by omega, by go_num, HA, HB2⟩
        case measure => simp [intOf]; omega
    · obtain rfl : k = n := by omega
      have HV := Lib.hid (show z = -1 from HZ.out.symm.trans (ixL_none (by rw [HLEN.out]; exact ha.out)))
      clear hlt
      go_wp2
      go_ret
      exact ⟨ret_int HV.out.symm, hb.out⟩
set_option maxHeartbeats 8000000 in
theorem implFindCertificate (V U : Value) (t : Tpt) (m : List ByteArray) (now : Int) (w : World) (z : Int) (hz : findC t m now = z) (h : kTp.At w V t) (g : kN.At w U m) (hp : FitT t) (hm : bulk m ≤ 1200000) :
    Calls Tryz.prog 18 #[V, U, .int .i64 now] w fun e w' => e = .returned (.int .i64 z) ∧ Below w.heap.size w w' := by
  obtain ⟨x0, n0, c0, x1, n1, c1, x2, n2, c2, x3, n3, c3, rfl, g0, g1, g2, g3⟩ := kTp_at h
  obtain ⟨xn, nn, cn, rfl, g⟩ := kN_shapeA g
  have b1 := (Below.refl w.heap.size w).alloc (Nat.le_refl _) (.cells #[.slice x0 n0 c0, .slice x1 n1 c1, .slice x2 n2 c2, .slice x3 n3 c3] 29)
  have b2 := (Below.refl (w.alloc (.cells #[.slice x0 n0 c0, .slice x1 n1 c1, .slice x2 n2 c2, .slice x3 n3 c3] 29)).heap.size (w.alloc (.cells #[.slice x0 n0 c0, .slice x1 n1 c1, .slice x2 n2 c2, .slice x3 n3 c3] 29))).alloc (Nat.le_refl _) (.cells #[.slice xn nn cn] 32)
  have b3 := (Below.refl ((w.alloc (.cells #[.slice x0 n0 c0, .slice x1 n1 c1, .slice x2 n2 c2, .slice x3 n3 c3] 29)).alloc (.cells #[.slice xn nn cn] 32)).heap.size ((w.alloc (.cells #[.slice x0 n0 c0, .slice x1 n1 c1, .slice x2 n2 c2, .slice x3 n3 c3] 29)).alloc (.cells #[.slice xn nn cn] 32))).alloc (Nat.le_refl _) (.cells #[.int .i64 now] 3)
  have b23 := b2.trans (b3.mono b2.size)
  have HB := Lib.hid (b1.trans (b23.mono b1.size))
  have HX := Lib.hid ((Ret.Blk.new w #[.slice x0 n0 c0, .slice x1 n1 c1, .slice x2 n2 c2, .slice x3 n3 c3] 29).on b23)
  have HY := Lib.hid ((Ret.Blk.new' (w := (w.alloc (.cells #[.slice x0 n0 c0, .slice x1 n1 c1, .slice x2 n2 c2, .slice x3 n3 c3] 29))) (n := w.heap.size + 1) #[.slice xn nn cn] 32 (by simp)).on b3)
  have HW := Lib.hid (Ret.Blk.new' (w := ((w.alloc (.cells #[.slice x0 n0 c0, .slice x1 n1 c1, .slice x2 n2 c2, .slice x3 n3 c3] 29)).alloc (.cells #[.slice xn nn cn] 32))) (n := w.heap.size + 1 + 1) #[.int .i64 now] 3 (by simp))
  have G0 := Lib.hid g0; have G3 := Lib.hid g3; have GN := Lib.hid g
  have HZ := Lib.hid hz; have HP := Lib.hid hp
  clear b1 b2 b3 b23 g0 g1 g2 g3 g h hz hp
  have q0 : (((w.alloc (.cells #[.slice x0 n0 c0, .slice x1 n1 c1, .slice x2 n2 c2, .slice x3 n3 c3] 29)).alloc (.cells #[.slice xn nn cn] 32)).alloc (.cells #[.int .i64 now] 3)).cell? ⟨w.heap.size, 0, none⟩ = some (.slice x0 n0 c0) := HX.out.cell 0
  have qn : (((w.alloc (.cells #[.slice x0 n0 c0, .slice x1 n1 c1, .slice x2 n2 c2, .slice x3 n3 c3] 29)).alloc (.cells #[.slice xn nn cn] 32)).alloc (.cells #[.int .i64 now] 3)).cell? ⟨w.heap.size + 1, 0, none⟩ = some (.slice xn nn cn) := HY.out.cell 0
  go_enter Tryz.func18, Tryz.ntmps18
  go_wp2_with fail
  refine (implKeyDigest _ _ t.1 m _ _ rfl (kK_ofK (G0.out.on HB.out)) (GN.out.on HB.out) HP.out.keys hm).mono ?_
  rintro e w1 ⟨v, rfl, ho, hb⟩
  obtain ⟨xd, cd, rfl, -, ho⟩ := ho.holds.shape
  obtain ⟨nd, hnd⟩ : ∃ nd, (digK t.1 m).length = nd := ⟨_, rfl⟩
  rw [hnd] at ho ⊢
  replace HX := Lib.hid (HX.out.on hb); replace HY := Lib.hid (HY.out.on hb); replace HW := Lib.hid (HW.out.on hb)
  replace HB := Lib.hid (HB.out.trans (hb.mono HB.out.size)); clear hb q0 qn
  obtain ⟨wz, hwz⟩ : ∃ wz, w1.alloc (.cells #[.slice xd nd cd] 22) = wz := ⟨_, rfl⟩
  have hbz := (Below.refl w1.heap.size w1).alloc (Nat.le_refl _) (.cells #[.slice xd nd cd] 22)
  have hv := Ret.Blk.new w1 #[.slice xd nd cd] 22
  rw [hwz] at hbz hv
  have HWZ := Lib.hid hwz
  have HV := Lib.hid hv
  clear hwz hv
  have HG := Lib.hid (ho.on hbz)
  have HND := Lib.hid hnd.symm
  replace HX := Lib.hid (HX.out.on hbz); replace HY := Lib.hid (HY.out.on hbz); replace HW := Lib.hid (HW.out.on hbz); replace HB := Lib.hid (HB.out.trans (hbz.mono HB.out.size))
  clear ho hbz hnd
  go_upto_region 2 with fail
  rw [HWZ.out]
  clear HWZ
  obtain ⟨b8, hb8⟩ : ∃ b8, w1.heap.size = b8 := ⟨_, rfl⟩
  rw [hb8] at HV ⊢
  clear hb8
  have qd : wz.cell? ⟨b8, 0, none⟩ = some (.slice xd nd cd) := HV.out.cell 0
  have q3 : wz.cell? ⟨w.heap.size, 3, none⟩ = some (.slice x3 n3 c3) := HX.out.cell 3
  by_cases h0 : nd = 0
  · have HE : Hid (z = -1) := Lib.hid (by rw [← HZ.out]; unfold findC; rw [if_pos ((digK_nil t.1 m).1 (HND.out.symm.trans h0))])
    subst h0
    go_wp2_with fail
    go_ret
    exact ⟨ret_int HE.out.symm, HB.out⟩
  · have HQ : Hid (ixL (certP t.1 m now) t.2.2.2 = z) := Lib.hid (by rw [← HZ.out]; unfold findC; rw [if_neg (fun h1 => h0 (HND.out.trans ((digK_nil t.1 m).2 h1)))])
    have HC := Lib.hid (show ClosK Tryz.prog kDz 51 #[.pointer (some ⟨w.heap.size + 1, 0, none⟩), .pointer (some ⟨w.heap.size + 1 + 1, 0, none⟩), .pointer (some ⟨b8, 0, none⟩), .pointer (some ⟨w.heap.size, 0, none⟩)] (certP t.1 m now) FitD wz from
      fun x W0 W hW ha hk => certClos _ _ _ _ W0 x t m now _ xn xd x0 x1 x2 x3 nn cn nd cd n0 c0 n1 c1 n2 c2 n3 c3 W _ rfl (HY.out.on hW) (HW.out.on hW) (HV.out.on hW) (HX.out.on hW) ha ((GN.out.on HB.out).on hW) (HG.out.on hW) ((G0.out.on HB.out).on hW) hk hm HP.out.keys (digK_byt _ _))
    have n0' : ¬ (nd : Int) = 0 := by omega
    have n0'' : ((nd : Int) == 0) = false := by simpa using n0'
    go_wp2_with fail
    refine (indexCert _ _ _ _ (certP t.1 m now) FitD _ t.2.2.2 _ z HQ.out (G3.out.on HB.out) HP.out.certLen HP.out.certs HC.out).mono ?_
    rintro e w5 ⟨rfl, hb⟩
    replace HB := Lib.hid (HB.out.trans (hb.mono HB.out.size))
    clear hb
    go_wp2_with fail
    go_ret
    exact ⟨rfl, HB.out⟩
end Go.Proofs.YtlhchmjnaanjpaaGreatDoor.Row
/- errors.As at the error of a broken chain: a nil error is none; an error of this type is found, and the variable is set. Go's own text of errors.As is walked; the model's entries for internal/reflectlite are closed facts. No conditions but on the variable that is set, and on the library's variable errorType, as laid. -/
namespace Go.Proofs.YtlhchmjnaanjpaaGreatDoor.Brk
open Go.RowKit Go.Extern.Stop Go.Stop Go.Extern
set_option linter.unusedVariables false
theorem as_nil (t : Value) (w : World) :
    Calls Tryz.prog 36 #[.nilIface, t] w fun e w' => e = .returned (.bool false) ∧ w' = w := by
  go_enter Tryz.func36, Tryz.ntmps36
  go_wp2
  go_ret
  exact ⟨rfl, rfl⟩
theorem valueOfP (t : Addr) (w : World) : (ReflectliteValue.unpack (.iface 70 (.pointer (some t)))).run Tryz.prog w
    = .ok (.agg #[.pointer (some ⟨1, 70, none⟩), .pointer (some ⟨w.heap.size, 0, none⟩), .int .u64 150]) (w.alloc (.cells #[.pointer (some t)] 70)) := by kernel_rfl
theorem typeP (a : Addr) (w : World) : (ReflectliteValue.methodAny (ReflectliteValue.valueError "reflectlite.Value.Type" 0) (fun t _ _ _ => ReflectliteType.toType t) #[.agg #[.pointer (some ⟨1, 70, none⟩), .pointer (some a), .int .u64 150]]).run Tryz.prog w
    = .ok (.iface 155 (.agg #[.pointer (some ⟨1, 70, none⟩)])) w := by kernel_rfl
theorem methodKind (n : Nat) (h : Value) (w : World) : (Go.method (n + 1) 155 (.agg #[h]) "Kind").run Tryz.prog w = .ok (200, h) w := by kernel_rfl
theorem kindP (w : World) : ((ReflectliteType.abiMethod fun t => (fun a : Nat => Value.int IntKind.u8 (a : Int)) <$> Rtype.kind t) #[.pointer (some ⟨1, 70, none⟩)]).run Tryz.prog w = .ok (.int .u8 22) w := by kernel_rfl
theorem kindS (w : World) : ((ReflectliteType.abiMethod fun t => (fun a : Nat => Value.int IntKind.u8 (a : Int)) <$> Rtype.kind t) #[.pointer (some ⟨1, 68, none⟩)]).run Tryz.prog w = .ok (.int .u8 25) w := by kernel_rfl
theorem rlm (z : Sem Value) (f : TypeId → Addr → Nat → Nat → Sem Value) (v : Value) :
    ReflectliteValue.method z f #[v] = (do match ← ReflectliteValue.parts v with | none => z | some (t, a, fl) => f t a fl (fl % 32)) := rfl
theorem partsP (a : Addr) (w : World) : (ReflectliteValue.parts (.agg #[.pointer (some ⟨1, 70, none⟩), .pointer (some a), .int .u64 150])).run Tryz.prog w = .ok (some (70, a, 150)) w := by kernel_rfl
theorem isNilP (a p : Addr) (W : World) (ha : W.cell? a = some (.pointer (some p))) :
    (ReflectliteValue.method (ReflectliteValue.valueError "reflectlite.Value.IsNil" 0) ReflectliteValue.isNil #[.agg #[.pointer (some ⟨1, 70, none⟩), .pointer (some a), .int .u64 150]]).run Tryz.prog W = .ok (.bool false) W := by
  rw [rlm]
  simp only [Sem.run_bind, partsP, Result.andThen]
  simp [ReflectliteValue.isNil, loadVar, isAgg, underlying, Tryz.underlying70, ha, Result.andThen]
theorem methodElem (n : Nat) (h : Value) (w : World) : (Go.method (n + 1) 155 (.agg #[h]) "Elem").run Tryz.prog w = .ok (210, .agg #[h]) w := by kernel_rfl
theorem methodImplements (n : Nat) (h : Value) (w : World) : (Go.method (n + 1) 155 (.agg #[h]) "Implements").run Tryz.prog w = .ok (211, .agg #[h]) w := by kernel_rfl
theorem methodAssignableTo (n : Nat) (h : Value) (w : World) : (Go.method (n + 1) 155 (.agg #[h]) "AssignableTo").run Tryz.prog w = .ok (208, .agg #[h]) w := by kernel_rfl
theorem elemP (w : World) : (ReflectliteType.method ReflectliteType.elem #[.agg #[.pointer (some ⟨1, 70, none⟩)]]).run Tryz.prog w = .ok (.iface 155 (.agg #[.pointer (some ⟨1, 68, none⟩)])) w := by kernel_rfl
theorem implementsS (w : World) : (ReflectliteType.relation "Implements" ReflectliteType.implements_ #[.agg #[.pointer (some ⟨1, 68, none⟩)], .iface 155 (.agg #[.pointer (some ⟨1, 64, none⟩)])]).run Tryz.prog w = .ok (.bool true) w := by kernel_rfl
theorem typeOfS (v : Value) (w : World) : (ReflectliteType.typeOf #[.iface 68 v]).run Tryz.prog w = .ok (.iface 155 (.agg #[.pointer (some ⟨1, 68, none⟩)])) w := by kernel_rfl
theorem assignableS (w : World) : (ReflectliteType.relation "AssignableTo" ReflectliteType.assignableTo #[.agg #[.pointer (some ⟨1, 68, none⟩)], .iface 155 (.agg #[.pointer (some ⟨1, 68, none⟩)])]).run Tryz.prog w = .ok (.bool true) w := by kernel_rfl
theorem valueOfS (x : Option Addr) (n c : Nat) (w : World) : (ReflectliteValue.unpack (.iface 68 (.agg #[.slice x n c]))).run Tryz.prog w
    = .ok (.agg #[.pointer (some ⟨1, 68, none⟩), .pointer (some ⟨w.heap.size, 0, none⟩), .int .u64 153]) (w.alloc (.cells #[.slice x n c] 68)) := by kernel_rfl
theorem elemOfP (w : World) : (Rtype.elem? 70).run Tryz.prog w = .ok (some 68) w := by kernel_rfl
theorem mkS (p : Addr) (w : World) : (ReflectliteValue.mk 68 p ReflectliteValue.flagAddr).run Tryz.prog w = .ok (.agg #[.pointer (some ⟨1, 68, none⟩), .pointer (some p), .int .u64 409]) w := by kernel_rfl
theorem elemV (a p : Addr) (W : World) (ha : W.cell? a = some (.pointer (some p))) :
    (ReflectliteValue.method (ReflectliteValue.valueError "reflectlite.Value.Elem" 0) ReflectliteValue.elem #[.agg #[.pointer (some ⟨1, 70, none⟩), .pointer (some a), .int .u64 150]]).run Tryz.prog W
      = .ok (.agg #[.pointer (some ⟨1, 68, none⟩), .pointer (some p), .int .u64 409]) W := by
  rw [rlm]
  simp only [Sem.run_bind, partsP, Result.andThen]
  simp [ReflectliteValue.elem, loadVar, isAgg, underlying, Tryz.underlying70, ha, Result.andThen, elemOfP, mkS]
theorem rls (v x : Value) : ReflectliteValue.set #[v, x] = (do
    let (some (dst, a, fl), some (src, b, _)) := (← ReflectliteValue.parts v, ← ReflectliteValue.parts x)
      | unsupported (.noEntry "extern/(internal/reflectlite.Value).Set.zeroValue")
    if fl / ReflectliteValue.flagAddr % 2 == 0 then unsupported (.noEntry "extern/(internal/reflectlite.Value).Set.unaddressable")
    let val ← loadVar src b
    if ← Rtype.directlyAssignable dst src then storeVar dst a val
    else if ← Rtype.implements dst src then
      if (← Rtype.kind src) == 20 then
        match val with
        | .nilIface => unsupported (.noEntry "extern/reflectlite: a nil value of one interface type handed on as a value of another")
        | _ => storeVar dst a val
      else storeVar dst a (.iface src val)
    else panicString ("reflectlite.Set: value of type " ++ (← Rtype.spelt src) ++ " is not assignable to type " ++ (← Rtype.spelt dst))
    pure (.tuple #[])) := rfl
theorem partsA (a : Addr) (w : World) : (ReflectliteValue.parts (.agg #[.pointer (some ⟨1, 68, none⟩), .pointer (some a), .int .u64 409])).run Tryz.prog w = .ok (some (68, a, 409)) w := by kernel_rfl
theorem partsS (a : Addr) (w : World) : (ReflectliteValue.parts (.agg #[.pointer (some ⟨1, 68, none⟩), .pointer (some a), .int .u64 153])).run Tryz.prog w = .ok (some (68, a, 153)) w := by kernel_rfl
theorem directS (w : World) : (Rtype.directlyAssignable 68 68).run Tryz.prog w = .ok true w := by kernel_rfl
theorem sizeS (w : World) : (sizeOf 68).run Tryz.prog w = .ok 1 w := by kernel_rfl
theorem aggS : Ret.AggOf Tryz.prog 68 1 := ⟨by kernel_rfl, by kernel_rfl⟩
theorem setS (ta b : Nat) (x : Option Addr) (n c : Nat) (old : Value) (W : World) (hb : W.cell? ⟨b, 0, none⟩ = some (.slice x n c)) (ht : W.cell? ⟨ta, 0, none⟩ = some old) (hf : W.frozen? ⟨ta, 0, none⟩ = false) :
    (ReflectliteValue.set #[.agg #[.pointer (some ⟨1, 68, none⟩), .pointer (some ⟨ta, 0, none⟩), .int .u64 409], .agg #[.pointer (some ⟨1, 68, none⟩), .pointer (some ⟨b, 0, none⟩), .int .u64 153]]).run Tryz.prog W
      = .ok (.tuple #[]) (W.setCell ⟨ta, 0, none⟩ (.slice x n c)) := by
  have hl : (loadVar 68 ⟨b, 0, none⟩).run Tryz.prog W = .ok (.agg #[.slice x n c]) W := by
    have := Ret.run_loadVar_cells (P := Tryz.prog) W b 68 [.slice x n c] (fun j v hv => by
      match j, hv with
      | 0, hv => simp at hv; subst hv; exact hb
      | j + 1, hv => simp at hv) aggS
    simpa using this
  have hs : (storeVar 68 ⟨ta, 0, none⟩ (.agg #[.slice x n c])).run Tryz.prog W = .ok () (W.setCell ⟨ta, 0, none⟩ (.slice x n c)) := by
    simp only [storeVar, Sem.run_bind, sizeS, Result.andThen]
    simp [Value.cells, storeCells, Addr.add]
    rw [run_store Tryz.prog W _ _ _ (by rfl)]
    simp [ht, hf]
  rw [rls]
  simp only [Sem.run_bind, partsA, partsS, Result.andThen]
  simp [ReflectliteValue.flagAddr, hl, Result.andThen, directS, hs]
set_option maxHeartbeats 8000000 in
theorem as_hit (x : Option Addr) (n c : Nat) (t : Nat) (old : Value) (w : World) (hg : w.cell? ⟨0, 0, none⟩ = some (.iface 155 (.agg #[.pointer (some ⟨1, 64, none⟩)]))) (ht : Ret.Blk w t #[old] 68) :
    Calls Tryz.prog 36 #[.iface 68 (.agg #[.slice x n c]), .iface 70 (.pointer (some ⟨t, 0, none⟩))] w fun e w' => e = .returned (.bool true) ∧ Below t w w' := by
  have h6 := @run_callFunc_extern Tryz.prog 81 _ (fun args => ReflectliteValue.unpack (args.getD 0 (.tuple #[]))) Tryz.func81 (by kernel_rfl) (by kernel_rfl) (by kernel_rfl) (by kernel_rfl)
  have h7 := @run_callFunc_extern Tryz.prog 82 _ (ReflectliteValue.methodAny (ReflectliteValue.valueError "reflectlite.Value.Type" 0) (fun t _ _ _ => ReflectliteType.toType t)) Tryz.func82 (by kernel_rfl) (by kernel_rfl) (by kernel_rfl) (by kernel_rfl)
  have h8 := @run_callFunc_extern Tryz.prog 83 _ (ReflectliteValue.method (ReflectliteValue.valueError "reflectlite.Value.IsNil" 0) ReflectliteValue.isNil) Tryz.func83 (by kernel_rfl) (by kernel_rfl) (by kernel_rfl) (by kernel_rfl)
  have h27 := @run_callFunc_extern Tryz.prog 200 _ (ReflectliteType.abiMethod fun t => do pure (.int .u8 (← Rtype.kind t))) Tryz.func200 (by kernel_rfl) (by kernel_rfl) (by kernel_rfl) (by kernel_rfl)
  have h37 := @run_callFunc_extern Tryz.prog 210 _ (ReflectliteType.method ReflectliteType.elem) Tryz.func210 (by kernel_rfl) (by kernel_rfl) (by kernel_rfl) (by kernel_rfl)
  have h38 := @run_callFunc_extern Tryz.prog 211 _ (ReflectliteType.relation "Implements" ReflectliteType.implements_) Tryz.func211 (by kernel_rfl) (by kernel_rfl) (by kernel_rfl) (by kernel_rfl)
  have h10 := @run_callFunc_extern Tryz.prog 126 _ ReflectliteType.typeOf Tryz.func126 (by kernel_rfl) (by kernel_rfl) (by kernel_rfl) (by kernel_rfl)
  have h35 := @run_callFunc_extern Tryz.prog 208 _ (ReflectliteType.relation "AssignableTo" ReflectliteType.assignableTo) Tryz.func208 (by kernel_rfl) (by kernel_rfl) (by kernel_rfl) (by kernel_rfl)
  have h11 := @run_callFunc_extern Tryz.prog 127 _ (ReflectliteValue.method (ReflectliteValue.valueError "reflectlite.Value.Elem" 0) ReflectliteValue.elem) Tryz.func127 (by kernel_rfl) (by kernel_rfl) (by kernel_rfl) (by kernel_rfl)
  have h12 := @run_callFunc_extern Tryz.prog 128 _ ReflectliteValue.set Tryz.func128 (by kernel_rfl) (by kernel_rfl) (by kernel_rfl) (by kernel_rfl)
  have tO := typeOfS
  have mA := methodAssignableTo
  have aS := assignableS
  have vS := valueOfS
  have f6 := valueOfP
  have f7 := typeP
  have mK := methodKind
  have mE := methodElem
  have mI := methodImplements
  have kP := kindP
  have kS := kindS
  have eP := elemP
  have iS := implementsS
  have n8 := isNilP ⟨w.heap.size, 0, none⟩ ⟨t, 0, none⟩ ((w.alloc (.cells #[.pointer (some ⟨t, 0, none⟩)] 70)).alloc (.cells #[.pointer (some ⟨1, 70, none⟩), .pointer (some ⟨w.heap.size, 0, none⟩), .int .u64 150] 101)) (by simp)
  have hlt : 0 < w.heap.size := by
    rcases Nat.eq_zero_or_pos w.heap.size with h0 | h
    · simp [World.cell?, h0] at hg
    · exact h
  have hg2 : ((w.alloc (.cells #[.pointer (some ⟨t, 0, none⟩)] 70)).alloc (.cells #[.pointer (some ⟨1, 70, none⟩), .pointer (some ⟨w.heap.size, 0, none⟩), .int .u64 150] 101)).cell? ⟨0, 0, none⟩ = some (.iface 155 (.agg #[.pointer (some ⟨1, 64, none⟩)])) := by
    rw [World.cell?_alloc_lt _ _ ⟨0, 0, none⟩ (by simp), World.cell?_alloc_lt _ _ ⟨0, 0, none⟩ hlt]; exact hg
  have htl : t < w.heap.size := ht.lt
  have ht0 : w.cell? ⟨t, 0, none⟩ = some old := ht.cell 0
  have hf0 : w.frozen? ⟨t, 0, none⟩ = false := ht.frozen 0
  have el := elemV ⟨w.heap.size, 0, none⟩ ⟨t, 0, none⟩ (((w.alloc (.cells #[.pointer (some ⟨t, 0, none⟩)] 70)).alloc (.cells #[.pointer (some ⟨1, 70, none⟩), .pointer (some ⟨w.heap.size, 0, none⟩), .int .u64 150] 101)).alloc (.cells #[.pointer (some ⟨1, 70, none⟩), .pointer (some ⟨w.heap.size, 0, none⟩), .int .u64 150] 101)) (by rw [World.cell?_alloc_lt _ _ ⟨w.heap.size, 0, none⟩ (by simp; omega)]; simp)
  have st := setS t (w.heap.size + 1 + 1 + 1) x n c old ((((w.alloc (.cells #[.pointer (some ⟨t, 0, none⟩)] 70)).alloc (.cells #[.pointer (some ⟨1, 70, none⟩), .pointer (some ⟨w.heap.size, 0, none⟩), .int .u64 150] 101)).alloc (.cells #[.pointer (some ⟨1, 70, none⟩), .pointer (some ⟨w.heap.size, 0, none⟩), .int .u64 150] 101)).alloc (.cells #[.slice x n c] 68))
    (by rw [World.cell?_alloc_at _ _ _ _ (by simp)]; rfl)
    (by rw [World.cell?_alloc_lt _ _ ⟨t, 0, none⟩ (by simp; omega), World.cell?_alloc_lt _ _ ⟨t, 0, none⟩ (by simp; omega), World.cell?_alloc_lt _ _ ⟨t, 0, none⟩ (by simp; omega), World.cell?_alloc_lt _ _ ⟨t, 0, none⟩ htl]; exact ht0)
    (by rw [World.frozen?_alloc_old _ _ ⟨t, 0, none⟩ (by simp; omega), World.frozen?_alloc_old _ _ ⟨t, 0, none⟩ (by simp; omega), World.frozen?_alloc_old _ _ ⟨t, 0, none⟩ (by simp; omega), World.frozen?_alloc_old _ _ ⟨t, 0, none⟩ (Nat.ne_of_lt htl)]; exact hf0)
  go_enter Tryz.func36, Tryz.ntmps36
  go_wp2
  refine wp_loop_rounds 1 ?_
  rw [rounds_succ]
  go_wp2
  go_ret
  refine ⟨rfl, ?_⟩
  have b0 := ((((Below.refl t w).alloc (Nat.le_of_lt htl) (.cells #[.pointer (some ⟨t, 0, none⟩)] 70)).alloc (by simp; omega) (.cells #[.pointer (some ⟨1, 70, none⟩), .pointer (some ⟨w.heap.size, 0, none⟩), .int .u64 150] 101)).alloc (by simp; omega) (.cells #[.pointer (some ⟨1, 70, none⟩), .pointer (some ⟨w.heap.size, 0, none⟩), .int .u64 150] 101)).alloc (by simp; omega) (.cells #[.slice x n c] 68)
  exact b0.trans ⟨rfl, rfl, rfl, by simp [World.setCell], fun k hk => Go.RowKit.Below.heap_setCell _ _ _ _ (by simp; omega)⟩
end Go.Proofs.YtlhchmjnaanjpaaGreatDoor.Brk
/- The program's chapter 10: the rules as functions (allowances), RuleAllows. No conditions but that lengths fit. -/
namespace Go.Proofs.YtlhchmjnaanjpaaGreatDoor.Row
open Go.ChangeShapes Go.WideShapes Go.ChangeAt Go.RowKit Go.Instr
set_option linter.unusedVariables false
set_option maxRecDepth 100000
def okR2 (x : Rlt) (n b : List ByteArray) : Bool := mOk x.1 n [] && mOk x.2 b (mOut x.1 n [])
theorem allowsR_no {x : Rlt} (h : validR x = false) (n b : List ByteArray) : allowsR x n b = false := by unfold allowsR; rw [h]; rfl
theorem allowsR_yes {x : Rlt} (h : validR x = true) (n b : List ByteArray) : allowsR x n b = okR2 x n b := by unfold allowsR okR2; rw [h]; cases mOk x.1 n [] <;> rfl
structure RuleAt (w : World) (g : Nat) (x : Rlt) (x0 x1 : Option Addr) (n0 c0 n1 c1 : Nat) : Prop where
  blk : Ret.Blk w g #[.slice x0 n0 c0, .slice x1 n1 c1] 131
  is : kRl.At w (.agg #[.slice x0 n0 c0, .slice x1 n1 c1]) x
theorem RuleAt.on {w w' : World} {g : Nat} {x : Rlt} {x0 x1 : Option Addr} {n0 c0 n1 c1 : Nat} (h : RuleAt w g x x0 x1 n0 c0 n1 c1) (hb : Below w.heap.size w w') : RuleAt w' g x x0 x1 n0 c0 n1 c1 := ⟨h.blk.on hb, h.is.on hb⟩
def Alw (w : World) (u : Value) (x : Rlt) : Prop :=
  (validR x = false ∧ u = .func (.func 167) #[] #[]) ∨ (validR x = true ∧ ∃ (g : Nat) (x0 x1 : Option Addr) (n0 c0 n1 c1 : Nat), u = .func (.func 168) #[] #[.pointer (some ⟨g, 0, none⟩)] ∧ RuleAt w g x x0 x1 n0 c0 n1 c1)
theorem Alw.on {w w' : World} {u : Value} {x : Rlt} (h : Alw w u x) (hb : Below w.heap.size w w') : Alw w' u x := by
  rcases h with h | ⟨h, g, x0, x1, n0, c0, n1, c1, e, r⟩
  · exact Or.inl h
  · exact Or.inr ⟨h, g, x0, x1, n0, c0, n1, c1, e, r.on hb⟩
set_option maxHeartbeats 1000000 in
theorem allowNo (xn xb : Option Addr) (nn cn nb cb : Nat) (w : World) :
    Calls Tryz.prog 167 #[.agg #[.slice xn nn cn], .agg #[.slice xb nb cb]] w fun e w' => e = .returned (.bool false) ∧ Below w.heap.size w w' := by
  have HB := Lib.hid (((Below.refl w.heap.size w).alloc (Nat.le_refl _) (.cells #[.slice xn nn cn] 32)).alloc (by simp) (.cells #[.slice xb nb cb] 32))
  go_enter Tryz.func167, Tryz.ntmps167
  go_wp2
  go_ret
  exact ⟨rfl, HB.out⟩
set_option maxHeartbeats 4000000 in
theorem allowYes (g : Nat) (x : Rlt) (x0 x1 : Option Addr) (n0 c0 n1 c1 : Nat) (xn xb : Option Addr) (nn cn nb cb : Nat) (n b : List ByteArray) (w : World) (z : Bool) (hz : okR2 x n b = z) (h : RuleAt w g x x0 x1 n0 c0 n1 c1) (gn : kN.At w (.agg #[.slice xn nn cn]) n) (gb : kN.At w (.agg #[.slice xb nb cb]) b) (hp : wtRl x ≤ 9000000) (hn : bulk n ≤ 9000000) (hb : bulk b ≤ 9000000) :
    Calls Tryz.prog 168 #[.agg #[.slice xn nn cn], .agg #[.slice xb nb cb], .pointer (some ⟨g, 0, none⟩)] w fun e w' => e = .returned (.bool z) ∧ Below w.heap.size w w' := by
  obtain ⟨hx, ha⟩ := h
  obtain ⟨y0, m0, d0, y1, m1, d1, e, g0, g1⟩ := kRl_at ha
  obtain ⟨rfl, rfl, rfl, rfl, rfl, rfl⟩ : y0 = x0 ∧ m0 = n0 ∧ d0 = c0 ∧ y1 = x1 ∧ m1 = n1 ∧ d1 = c1 := by
    injection e with e
    have e0 := congrArg (fun z : Array Value => z[0]?) e
    have e1 := congrArg (fun z : Array Value => z[1]?) e
    simp at e0 e1
    exact ⟨e0.1.symm, e0.2.1.symm, e0.2.2.symm, e1.1.symm, e1.2.1.symm, e1.2.2.symm⟩
  obtain ⟨p, q⟩ := x
  obtain ⟨p0, p1⟩ := fitR hp
  dsimp only at g0 g1 p0 p1
  obtain ⟨v0, e0, g0⟩ := kN_at g0
  obtain ⟨v1, e1, g1⟩ := kN_at g1
  obtain rfl : v0 = .slice y0 m0 d0 := by injection e0 with e; have := congrArg (fun z : Array Value => z[0]?) e; simpa using this.symm
  obtain rfl : v1 = .slice y1 m1 d1 := by injection e1 with e; have := congrArg (fun z : Array Value => z[0]?) e; simpa using this.symm
  obtain ⟨vn, en, gn⟩ := kN_at gn
  obtain ⟨vb, eb, gb⟩ := kN_at gb
  obtain rfl : vn = .slice xn nn cn := by injection en with e; have := congrArg (fun z : Array Value => z[0]?) e; simpa using this.symm
  obtain rfl : vb = .slice xb nb cb := by injection eb with e; have := congrArg (fun z : Array Value => z[0]?) e; simpa using this.symm
  have HB := Lib.hid (((Below.refl w.heap.size w).alloc (Nat.le_refl _) (.cells #[.slice xn nn cn] 32)).alloc (by simp) (.cells #[.slice xb nb cb] 32))
  have HX := Lib.hid (hx.on HB.out)
  have HN := Lib.hid ((Ret.Blk.new w #[.slice xn nn cn] 32).on ((Below.refl _ _).alloc (Nat.le_refl _) (.cells #[.slice xb nb cb] 32)))
  have HY := Lib.hid (Ret.Blk.new' (w := w.alloc (.cells #[.slice xn nn cn] 32)) (n := w.heap.size + 1) #[.slice xb nb cb] 32 (by simp))
  have G0 := Lib.hid g0; have G1 := Lib.hid g1; have GN := Lib.hid gn; have GB := Lib.hid gb
  obtain ⟨a, ha2⟩ : ∃ a, mOk p n [] = a := ⟨_, rfl⟩
  obtain ⟨m, hm⟩ : ∃ m, mOut p n [] = m := ⟨_, rfl⟩
  obtain ⟨c, hc⟩ : ∃ a, mOk q b m = a := ⟨_, rfl⟩
  have hml := mOut_len p n []
  rw [hm] at hml
  have HA := Lib.hid ha2; have HM := Lib.hid hm; have HC := Lib.hid hc
  have HE : Hid (z = (a && c)) := Lib.hid (by rw [← hz]; show (mOk p n [] && mOk q b (mOut p n [])) = _; rw [hm, ha2, hc])
  have q0 : ((w.alloc (.cells #[.slice xn nn cn] 32)).alloc (.cells #[.slice xb nb cb] 32)).cell? ⟨g, 0, none⟩ = some (.slice y0 m0 d0) := HX.out.cell 0
  clear hx ha g0 g1 e0 e1 gn gb en eb hz ha2 hm hc e hp
  go_enter Tryz.func168, Tryz.ntmps168
  go_wp2_with fail
  clear q0
  refine (implMatchX _ _ _ p n [] _ (G0.out.on HB.out) (GN.out.on HB.out) (HoldsK.nil _ _ _) (by omega) (by omega) (by simp)).mono ?_
  rintro e w1 ⟨v1, rfl, ho, hb1⟩
  rw [HA.out, HM.out] at *
  obtain ⟨xm, nm, cm, rfl, -, -, ho⟩ := ho.shapeN
  have HO := Lib.hid ho.holds
  replace HX := Lib.hid (HX.out.on hb1); replace HN := Lib.hid (HN.out.on hb1); replace HY := Lib.hid (HY.out.on hb1); replace HB := Lib.hid (HB.out.trans (hb1.mono HB.out.size)); clear hb1 ho
  have q1 : w1.cell? ⟨g, 1, none⟩ = some (.slice y1 m1 d1) := HX.out.cell 1
  have q2 : w1.cell? ⟨w.heap.size + 1, 0, none⟩ = some (.slice xb nb cb) := HY.out.cell 0
  cases a with
  | false =>
    have HF : Hid (z = false) := Lib.hid HE.out
    go_wp2_with fail
    go_ret
    exact ⟨ret_bool HF.out.symm, HB.out⟩
  | true =>
    have HF : Hid (z = c) := Lib.hid HE.out
    go_wp2_with fail
    clear q1 q2
    refine (implMatchX _ _ _ q b m _ (G1.out.on HB.out) (GB.out.on HB.out) HO.out (by omega) (by omega) (by simp at hml; omega)).mono ?_
    rintro e w2 ⟨v2, rfl, -, hb2⟩
    rw [HC.out]
    replace HB := Lib.hid (HB.out.trans (hb2.mono HB.out.size)); clear hb2
    go_wp2_with fail
    go_ret
    exact ⟨ret_bool HF.out.symm, HB.out⟩
set_option maxHeartbeats 2000000 in
theorem allowanceNo (V : Value) (x : Rlt) (w : World) (hv : validR x = false) (h : kRl.At w V x) (hp : wtRl x ≤ 9000000) :
    Calls Tryz.prog 150 #[V] w fun e w' => e = .returned (.func (.func 167) #[] #[]) ∧ Below w.heap.size w w' := by
  obtain ⟨x0, n0, c0, x1, n1, c1, rfl, g0⟩ := kRl_shapeA h
  have HB := Lib.hid ((Below.refl w.heap.size w).alloc (Nat.le_refl _) (.cells #[.slice x0 n0 c0, .slice x1 n1 c1] 131))
  have G0 := Lib.hid g0; have HV := Lib.hid hv; have HP := Lib.hid hp
  clear h g0 hv hp
  go_enter Tryz.func150, Tryz.ntmps150
  go_wp2_with fail
  refine (implValidRule _ x _ false HV.out (G0.out.on HB.out) HP.out).mono ?_
  rintro e w1 ⟨rfl, hb⟩
  replace HB := Lib.hid (HB.out.trans (hb.mono HB.out.size)); clear hb
  go_wp2_with fail
  go_ret
  exact ⟨rfl, HB.out⟩
set_option maxHeartbeats 2000000 in
theorem allowanceYesV (x0 : Option Addr) (n0 c0 : Nat) (x1 : Option Addr) (n1 c1 : Nat) (x : Rlt) (w : World) (hv : validR x = true) (g0 : kRl.At w (.agg #[.slice x0 n0 c0, .slice x1 n1 c1]) x) (hp : wtRl x ≤ 9000000) :
    Calls Tryz.prog 150 #[.agg #[.slice x0 n0 c0, .slice x1 n1 c1]] w fun e w' => ∃ g : Nat, e = .returned (.func (.func 168) #[] #[.pointer (some ⟨g, 0, none⟩)]) ∧ Ret.Blk w' g #[.slice x0 n0 c0, .slice x1 n1 c1] 131 ∧ Below w.heap.size w w' := by
  have HB := Lib.hid ((Below.refl w.heap.size w).alloc (Nat.le_refl _) (.cells #[.slice x0 n0 c0, .slice x1 n1 c1] 131))
  have HX := Lib.hid (Ret.Blk.new w #[.slice x0 n0 c0, .slice x1 n1 c1] 131)
  have G0 := Lib.hid g0; have HV := Lib.hid hv; have HP := Lib.hid hp
  have hmf : ∀ (fn : Fn) (first cap : Array Value) (w : World), (Instr.makeFunc fn first cap).run Tryz.prog w = .ok (.func fn first cap) w := fun _ _ _ _ => rfl
  clear g0 hv hp
  go_enter Tryz.func150, Tryz.ntmps150
  go_wp2_with fail
  refine (implValidRule _ x _ true HV.out (G0.out.on HB.out) HP.out).mono ?_
  rintro e w1 ⟨rfl, hb⟩
  replace HX := Lib.hid (HX.out.on hb); replace HB := Lib.hid (HB.out.trans (hb.mono HB.out.size)); clear hb
  go_wp2_with fail
  go_ret
  exact ⟨_, rfl, HX.out, HB.out⟩
def AlwV (w : World) (u : Value) (x0 : Option Addr) (n0 c0 : Nat) (x1 : Option Addr) (n1 c1 : Nat) (x : Rlt) : Prop :=
  (validR x = false ∧ u = .func (.func 167) #[] #[]) ∨ (validR x = true ∧ ∃ g : Nat, u = .func (.func 168) #[] #[.pointer (some ⟨g, 0, none⟩)] ∧ Ret.Blk w g #[.slice x0 n0 c0, .slice x1 n1 c1] 131)
theorem AlwV.on {w w' : World} {u : Value} {x0 x1 : Option Addr} {n0 c0 n1 c1 : Nat} {x : Rlt} (h : AlwV w u x0 n0 c0 x1 n1 c1 x) (hb : Below w.heap.size w w') : AlwV w' u x0 n0 c0 x1 n1 c1 x := by
  rcases h with h | ⟨h, g, e, r⟩
  · exact Or.inl h
  · exact Or.inr ⟨h, g, e, r.on hb⟩
theorem AlwV.set {w : World} {u : Value} {x0 x1 : Option Addr} {n0 c0 n1 c1 : Nat} {x : Rlt} {g i : Nat} {cs : Array Value} {t : TypeId} (h : AlwV w u x0 n0 c0 x1 n1 c1 x) (hg : Ret.Blk w g cs t) (ht : t ≠ 131) (v : Value) : AlwV (w.setCell ⟨g, i, none⟩ v) u x0 n0 c0 x1 n1 c1 x := by
  rcases h with h | ⟨h, q, e, r⟩
  · exact Or.inl h
  · refine Or.inr ⟨h, q, e, r.other (fun e2 => ?_) v⟩
    dsimp only at e2
    subst e2
    have h1 : w.heap[g]? = some (.cells cs t) := hg
    have h2 : w.heap[g]? = some (.cells #[.slice x0 n0 c0, .slice x1 n1 c1] 131) := r
    rw [h1] at h2
    injection h2 with h2
    injection h2 with _ h3
    exact ht h3
theorem AlwV.alw {w : World} {u : Value} {x0 x1 : Option Addr} {n0 c0 n1 c1 : Nat} {x : Rlt} (h : AlwV w u x0 n0 c0 x1 n1 c1 x) (ha : kRl.At w (.agg #[.slice x0 n0 c0, .slice x1 n1 c1]) x) : Alw w u x := by
  rcases h with h | ⟨h, q, e, r⟩
  · exact Or.inl h
  · exact Or.inr ⟨h, q, _, _, _, _, _, _, e, r, ha⟩
theorem allowanceOfV (x0 : Option Addr) (n0 c0 : Nat) (x1 : Option Addr) (n1 c1 : Nat) (x : Rlt) (w : World) (h : kRl.At w (.agg #[.slice x0 n0 c0, .slice x1 n1 c1]) x) (hp : wtRl x ≤ 9000000) :
    Calls Tryz.prog 150 #[.agg #[.slice x0 n0 c0, .slice x1 n1 c1]] w fun e w' => ∃ (fn : Fn) (cap : Array Value), e = .returned (.func fn #[] cap) ∧ AlwV w' (.func fn #[] cap) x0 n0 c0 x1 n1 c1 x ∧ Below w.heap.size w w' := by
  cases hv : validR x with
  | false => exact (allowanceNo _ x w hv h hp).mono fun e w' ⟨a, b⟩ => ⟨_, _, a, Or.inl ⟨hv, rfl⟩, b⟩
  | true => exact (allowanceYesV x0 n0 c0 x1 n1 c1 x w hv h hp).mono fun e w' ⟨g, a, r, b⟩ => ⟨_, _, a, Or.inr ⟨hv, g, rfl, r⟩, b⟩
end Go.Proofs.YtlhchmjnaanjpaaGreatDoor.Row
