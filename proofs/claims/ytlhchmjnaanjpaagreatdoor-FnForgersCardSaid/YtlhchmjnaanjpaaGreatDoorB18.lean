/- Contracts and mathematics, joined: TrustA, RingOpen, RingH, KRing, TrustB, TrustC, FindK, TrustMath. No conditions but those that each states. -/
import Derived.WalkKit
import Derived.Deep.RegionHeld3
import Derived.Test.YtlhchmjnaanjpaaGreatDoorB3
import Derived.Test.YtlhchmjnaanjpaaGreatDoorB5
import Derived.Test.YtlhchmjnaanjpaaGreatDoorB16
import Derived.Test.YtlhchmjnaanjpaaGreatDoorB1
import Derived.Deep.Slices
import Derived.Deep.Strs
import Derived.ChangeSame
import Derived.ChangeArms
import Derived.Test.YtlhchmjnaanjpaaGreatDoorB17
import Derived.Test.YtlhchmjnaanjpaaGreatDoorB10
import Derived.Test.YtlhchmjnaanjpaaGreatDoorB11
import Derived.Test.YtlhchmjnaanjpaaGreatDoorB2
import Derived.Test.YtlhchmjnaanjpaaGreatDoorB8
/- Chapter 11 (trust) in the words of kinds: the model's IsAnchor. No conditions but that lengths fit. -/
namespace Go.Proofs.YtlhchmjnaanjpaaGreatDoor.Row
open Go.ChangeShapes Go.WideShapes Go.ChangeAt Go.RowKit Go.Instr
set_option linter.unusedVariables false
set_option maxRecDepth 100000
def anchorT (l : List Nnt) (n : List ByteArray) : Bool := l.any fun a => decide (a = n)
theorem anchorT_yes {l : List Nnt} {n : List ByteArray} {k : Nat} (hk : k < l.length) (h : nth l k = n) : anchorT l n = true := by
  unfold anchorT
  rw [List.any_eq_true]
  exact ⟨nth l k, nth_mem hk, by simp [h]⟩
theorem anchorT_no {l : List Nnt} {n : List ByteArray} (h : ∀ j, j < l.length → ¬ nth l j = n) : anchorT l n = false := by
  unfold anchorT
  rw [List.any_eq_false]
  intro a ha
  obtain ⟨j, hj, rfl⟩ := List.getElem_of_mem ha
  have := h j hj
  rw [nth_eq hj] at this
  simp [this]
theorem eqNV10 {w : World} {V U : Value} {l m : List ByteArray} (z : Bool) (hz : decide (l = m) = z) (h : kN.At w V l) (g : kN.At w U m) (hl : bulk l ≤ 9000000) (hm : bulk m ≤ 9000000) :
    Calls Tryz.prog 56 #[V, U] w fun e w' => e = .returned (.bool z) ∧ Below w.heap.size w w' := by
  obtain ⟨v, rfl, h9⟩ := kN_at h
  obtain ⟨u, rfl, g9⟩ := kN_at g
  exact hz ▸ specEqualNames v u l m w h9 g9 (by have := bulk_len l; omega) (by have := bulk_len m; omega)
set_option maxRecDepth 100000 in
set_option maxHeartbeats 4000000 in
theorem ria {Q : Exit → Act → World → Prop} {v0 v1 v4 v6 v7 v8 v9 v10 v11 v12 v13 v14 v15 v16 v17 v18 v19 : Value} {w : World} {b off n c g r k n0 c0 nn cn : Nat} {x0 xn : Option Addr} {a m : List ByteArray} {z : Bool} (hk : k < n) (hkc : k ≤ c) (hn : n ≤ 9000000) (HZ : Hid (decide (a = m) = z)) (H_a : Hid (kN.At w (.agg #[.slice x0 n0 c0]) a)) (H_m : Hid (kN.At w (.agg #[.slice xn nn cn]) m)) (HP : Hid (bulk a ≤ 9000000)) (HM : Hid (bulk m ≤ 9000000)) (K0 : Hid (w.cell? ⟨r, 2, none⟩ = some (.slice (some ⟨b, off, none⟩) n c))) (K1 : Hid (w.cell? ⟨b, off + k, none⟩ = some (.slice x0 n0 c0))) (K2 : Hid (w.cell? ⟨g, 0, none⟩ = some (.slice xn nn cn)))
  (hQ : ∀ (u13 u14 u15 u16 u17 u18 : Value)  (wx : World), Below w.heap.size w wx → Q .normal ⟨#[v0, v1, .pointer (some ⟨r, 0, none⟩), .pointer (some ⟨g, 0, none⟩), v4, .int .i64 k, v6, v7, v8, v9, v10, v11, v12, u13, u14, u15, u16, u17, u18, .bool z], []⟩ wx) :
  (Code.region 4 #[⟨some 13, .fieldAddr 29 (.tmp 2) 2, 0, "l11_trust.go:68", #[], none⟩,
   ⟨some 14, .load 26 (.tmp 13), 26, "l11_trust.go:68", #[⟨0, .data⟩], none⟩,
   ⟨some 15, .move (.tmp 5), 3, "l11_trust.go:68", #[], none⟩,
   ⟨some 16, .indexAddr 26 (.tmp 14) (.tmp 15), 0, "l11_trust.go:68", #[⟨1, .data⟩, ⟨2, .data⟩], none⟩,
   ⟨some 17, .load 32 (.tmp 16), 32, "l11_trust.go:68", #[⟨3, .data⟩], none⟩,
   ⟨some 18, .load 32 (.tmp 3), 32, "l11_trust.go:68", #[], none⟩,
   ⟨some 19, .call ⟨.value (.func 56), #[.tmp 17, .tmp 18], #[32, 32]⟩, 4, "l11_trust.go:68", #[⟨4, .data⟩, ⟨5, .data⟩], none⟩] true).wp Tryz.prog Q ⟨#[v0, v1, .pointer (some ⟨r, 0, none⟩), .pointer (some ⟨g, 0, none⟩), v4, .int .i64 k, v6, v7, v8, v9, v10, v11, v12, v13, v14, v15, v16, v17, v18, v19], []⟩ w := by
 have HQ := Lib.hid hQ; clear hQ
 have hdr : Below w.heap.size w w.drew := (Below.refl _ _).drew
 have BB := Lib.hid hdr
 refine wp_region_noPanic ?_
 refine wp_region_held_drew (S := (fun w' => w'.cell? ⟨r, 2, none⟩ = some (.slice (some ⟨b, off, none⟩) n c) ∧ w'.cell? ⟨b, off + k, none⟩ = some (.slice x0 n0 c0) ∧ w'.cell? ⟨g, 0, none⟩ = some (.slice xn nn cn))) (by kernel_rfl) ?_ (fun hHeld => ?_)
 ·
  exact ⟨kc K0.out BB.out, kc K1.out BB.out, kc K2.out BB.out⟩
 clear hdr
 generalize w.drew = wd at *
 refine wpAnyH_take (i := 0) (oi := ⟨some 13, .fieldAddr 29 (.tmp 2) 2, 0, "l11_trust.go:68", #[], none⟩) (v := ?_) rfl (by kernel_rfl) (by kernel_rfl) (by kernel_rfl) (fun _ _ _ h => h) (Or.inl ⟨by rfl, ?_⟩) (by assumption) ?_
 rotate_left
 ·
  intro w' hSw; (try dsimp only at hSw); first | (go_simp; done) | (go_simp; with_reducible rfl)
 (try simp only [Act.put, Row.pB0, Row.pB1, Row.pB2])
 refine wpAnyH_take (i := 1) (oi := ⟨some 14, .load 26 (.tmp 13), 26, "l11_trust.go:68", #[⟨0, .data⟩], none⟩) (v := ?_) rfl (by kernel_rfl) (by kernel_rfl) (by kernel_rfl) (fun _ _ _ h => h) (Or.inl ⟨by rfl, ?_⟩) (by assumption) ?_
 rotate_left
 ·
  intro w' hSw; (try dsimp only at hSw); first | (go_simp; done) | (go_simp; with_reducible rfl)
 (try simp only [Act.put, Row.pB0, Row.pB1, Row.pB2])
 refine wpAnyH_take (i := 2) (oi := ⟨some 15, .move (.tmp 5), 3, "l11_trust.go:68", #[], none⟩) (v := ?_) rfl (by kernel_rfl) (by kernel_rfl) (by kernel_rfl) (fun _ _ _ h => h) (Or.inl ⟨by rfl, ?_⟩) (by assumption) ?_
 rotate_left
 ·
  intro w' hSw; (try dsimp only at hSw); first | (go_simp; done) | (go_simp; with_reducible rfl)
 (try simp only [Act.put, Row.pB0, Row.pB1, Row.pB2])
 refine wpAnyH_take (i := 3) (oi := ⟨some 16, .indexAddr 26 (.tmp 14) (.tmp 15), 0, "l11_trust.go:68", #[⟨1, .data⟩, ⟨2, .data⟩], none⟩) (v := ?_) rfl (by kernel_rfl) (by kernel_rfl) (by kernel_rfl) (fun _ _ _ h => h) (Or.inl ⟨by rfl, ?_⟩) (by assumption) ?_
 rotate_left
 ·
  intro w' hSw; (try dsimp only at hSw); first | (go_simp; done) | (go_simp; with_reducible rfl)
 (try simp only [Act.put, Row.pB0, Row.pB1, Row.pB2])
 refine wpAnyH_take (i := 4) (oi := ⟨some 17, .load 32 (.tmp 16), 32, "l11_trust.go:68", #[⟨3, .data⟩], none⟩) (v := ?_) rfl (by kernel_rfl) (by kernel_rfl) (by kernel_rfl) (fun _ _ _ h => h) (Or.inl ⟨by rfl, ?_⟩) (by assumption) ?_
 rotate_left
 ·
  intro w' hSw; (try dsimp only at hSw); first | (go_simp; done) | (go_simp; with_reducible rfl)
 (try simp only [Act.put, Row.pB0, Row.pB1, Row.pB2])
 refine wpAnyH_take (i := 5) (oi := ⟨some 18, .load 32 (.tmp 3), 32, "l11_trust.go:68", #[], none⟩) (v := ?_) rfl (by kernel_rfl) (by kernel_rfl) (by kernel_rfl) (fun _ _ _ h => h) (Or.inl ⟨by rfl, ?_⟩) (by assumption) ?_
 rotate_left
 ·
  intro w' hSw; (try dsimp only at hSw); first | (go_simp; done) | (go_simp; with_reducible rfl)
 (try simp only [Act.put, Row.pB0, Row.pB1, Row.pB2])
 refine wpAnyH_ready (rs := [6]) (by kernel_rfl) (by simp) ?_
 refine AllReadyH.cons (o := ⟨some 19, .call ⟨.value (.func 56), #[.tmp 17, .tmp 18], #[32, 32]⟩, 4, "l11_trust.go:68", #[⟨4, .data⟩, ⟨5, .data⟩], none⟩) rfl (fun K hK => ?_) AllReadyH.nil
 go_simp
 refine (eqNV10 z HZ.out (H_a.out.on BB.out) (H_m.out.on BB.out) HP.out HM.out).mono ?_
 rintro e wn1 ⟨rfl, hb⟩
 replace BB := Lib.hid (BB.out.trans (hb.mono BB.out.size))
 clear hb
 (try go_wp2_with fail)
 clear hHeld
 refine hK.out _ _ ?_ (fun hHeld => ?_)
 ·
  (try dsimp only); exact ⟨kc K0.out BB.out, kc K1.out BB.out, kc K2.out BB.out⟩
 clear hK K
 (try simp only [Act.put, Row.pB0, Row.pB1, Row.pB2])
 refine wpAnyH_done (by kernel_rfl) ?_ _
 exact NoPanic.normal (HQ.out _ _ _ _ _ _  _  BB.out)
set_option maxHeartbeats 4000000 in
theorem specIsAnchor (V U : Value) (x : Tpt) (m : List ByteArray) (w : World) (z : Bool) (hz : anchorT x.2.2.1 m = z) (h : kTp.At w V x) (g : kN.At w U m) (hl : x.2.2.1.length ≤ 9000000) (hp : ∀ a ∈ x.2.2.1, bulk a ≤ 9000000) (hm : bulk m ≤ 9000000) :
    Calls Tryz.prog 23 #[V, U] w fun e w' => e = .returned (.bool z) ∧ Below w.heap.size w w' := by
  obtain ⟨x0, n0, c0, x1, n1, c1, x2, n2, c2, x3, n3, c3, rfl, -, -, h, -⟩ := kTp_at h
  obtain ⟨t0, t1, l, t3⟩ := x
  dsimp only at hz h hl hp
  obtain ⟨ad, n, cap, L, e9, hn, ht, hh, hel⟩ := kLNn_at h
  cases e9
  obtain ⟨xn, nn, cn, rfl, g⟩ := kN_shapeA g
  have hlen : l.length = n2 := by rw [← ht, List.length_map]; exact hn.symm
  rw [hlen] at hl
  have hcap : n2 ≤ c2 := by obtain ⟨x', n', cap', hv, hn', hc', -⟩ := hh.shapeN; cases hv; exact hc'
  have HB0 := Lib.hid (((Below.refl w.heap.size w).alloc (Nat.le_refl _) (.cells #[.slice x0 n0 c0, .slice x1 n1 c1, .slice x2 n2 c2, .slice x3 n3 c3] 29)).alloc (by simp) (.cells #[.slice xn nn cn] 32))
  have HX0 := Lib.hid ((Ret.Blk.new w #[.slice x0 n0 c0, .slice x1 n1 c1, .slice x2 n2 c2, .slice x3 n3 c3] 29).on ((Below.refl _ _).alloc (Nat.le_refl _) (.cells #[.slice xn nn cn] 32)))
  have HY0 := Lib.hid (Ret.Blk.new' (w := w.alloc (.cells #[.slice x0 n0 c0, .slice x1 n1 c1, .slice x2 n2 c2, .slice x3 n3 c3] 29)) (n := w.heap.size + 1) #[.slice xn nn cn] 32 (by simp))
  have HN := Lib.hid hn; have HT := Lib.hid ht; have HH := Lib.hid hh; have HEL := Lib.hid hel; have HP := Lib.hid hp; have HLEN := Lib.hid hlen; have HZ := Lib.hid hz; have GN := Lib.hid g; have HPN := Lib.hid hm
  clear hn h hh hp ht hel hlen hz g hm
  go_enter Tryz.func23, Tryz.ntmps23
  go_wp2_with fail
  go_loopw [5] (fun i wr => ∃ k : Nat, k ≤ n2 ∧ i = .int .i64 k ∧ Hid (∀ j, j < k → ¬ nth l j = m) ∧ Hid (Ret.Blk wr w.heap.size #[.slice x0 n0 c0, .slice x1 n1 c1, .slice x2 n2 c2, .slice x3 n3 c3] 29) ∧ Hid (Ret.Blk wr (w.heap.size + 1) #[.slice xn nn cn] 32) ∧ Hid (Below w.heap.size w wr)) (fun i _ => n2 - (intOf i).toNat)
  case atStart => exact ⟨0, Nat.zero_le _, rfl, Lib.hid (fun j hj => absurd hj (by omega)), HX0, HY0, HB0⟩
  case round =>
    obtain ⟨k, hk, rfl, ha, hx, hy, hb⟩ := hrel
    have q2 : wr.cell? ⟨w.heap.size, 2, none⟩ = some (.slice x2 n2 c2) := hx.out.cell 2
    by_cases hlt : k < n2
    · have hlen := HN.out
      obtain ⟨b, off, y0, m0, d0, rfl, -, hc0, hA⟩ := kLNn_elem (HH.out.on hb.out) (fun y hy => kNn.holds_on (HEL.out y hy) hb.out) (j := k) (by omega)
      have hpt : nth l k = kNn.strip (nth L k) := by rw [← HT.out, nth_map _ (by omega)]
      have hps := HP.out (nth l k) (nth_mem (by have := HLEN.out; omega))
      rw [← hpt] at hA
      have HA := Lib.hid hA; have HPS := Lib.hid hps; have HC0 := Lib.hid hc0
      clear hlen hpt hps hA hc0
      obtain ⟨a, ha2⟩ : ∃ a, decide (nth l k = m) = a := ⟨_, rfl⟩
      have HV := Lib.hid ha2; clear ha2
      go_wp2_with fail
      clear q2
      refine ria hlt (by omega) hl HV HA (Lib.hid (GN.out.on hb.out)) HPS HPN (Lib.hid (hx.out.cell 2)) HC0 (Lib.hid (hy.out.cell 0)) ?_
      intro u13 u14 u15 u16 u17 u18 wx hb1
      replace hx := Lib.hid (hx.out.on hb1); replace hy := Lib.hid (hy.out.on hb1); replace hb := Lib.hid (hb.out.trans (hb1.mono hb.out.size)); clear hb1
      cases a with
      | true =>
        have HF : Hid (z = true) := Lib.hid (by rw [← HZ.out]; exact anchorT_yes (by have := HLEN.out; omega) (of_decide_eq_true HV.out))
        go_wp2_with fail
        go_ret
        exact ⟨ret_bool HF.out.symm, hb.out⟩
      | false =>
        have HM := Lib.hid (show ∀ j, j < k + 1 → ¬ nth l j = m from fun j hj => by rcases Nat.lt_succ_iff_lt_or_eq.1 hj with h5 | h5; exact ha.out j h5; exact h5 ▸ of_decide_eq_false HV.out)
        go_wp2_with fail
        go_roundw
        case rel => exact ⟨k + 1, by omega, by go_num, HM, hx, hy, hb⟩
        case measure => simp [intOf]; omega
    · obtain rfl : k = n2 := by omega
      have HF : Hid (z = false) := Lib.hid (by rw [← HZ.out]; exact anchorT_no (fun j hj => ha.out j (by have := HLEN.out; omega)))
      clear hlt
      go_wp2_with fail
      go_ret
      exact ⟨ret_bool HF.out.symm, hb.out⟩
end Go.Proofs.YtlhchmjnaanjpaaGreatDoor.Row
/- What the exact laws on tables use besides the contracts: a table that came in as an argument; equal ones compared; marks in a range of blocks. No conditions. -/
namespace Go.Proofs.YtlhchmjnaanjpaaGreatDoor.Row.Ring
open Go.ChangeShapes Go.WideShapes Go.ChangeAt Go.RowKit Go.Instr
set_option linter.unusedVariables false
set_option maxRecDepth 100000
end Go.Proofs.YtlhchmjnaanjpaaGreatDoor.Row.Ring
/- Contracts of SignWithKey, the model's and the program's. No conditions but that lengths fit. -/
namespace Go.Proofs.YtlhchmjnaanjpaaGreatDoor.Row.Ring
open Go.ChangeShapes Go.WideShapes Go.ChangeAt Go.RowKit Go.Instr
set_option linter.unusedVariables false
set_option maxRecDepth 100000
theorem sgOk_zero {T : List (List ByteArray × Int)} {key n : List ByteArray} {b : List Int} {u r : Int} (hr : lkN T key = r) (h : (r == 0) = true) : sgOk T key n b u = false := by unfold sgOk; rw [hr, h]; rfl
theorem sgOk_val {T : List (List ByteArray × Int)} {key n : List ByteArray} {b : List Int} {u r M : Int} {z : Bool} (hr : lkN T key = r) (h : (r == 0) = false) (hM : Seal.mac r (portD (n, b, key, u, 0)) = M) (hz : validD (n, b, key, u, M) = z) : sgOk T key n b u = z ∧ sgX T key n b u = (n, b, key, u, M) := by
  have e : sgX T key n b u = (n, b, key, u, M) := by unfold sgX sgD; rw [hr, hM]
  refine ⟨?_, e⟩
  unfold sgOk
  rw [hr, h, e, hz]; rfl
theorem sgK_no {T : List (List ByteArray × Int)} {key n : List ByteArray} {b : List Int} {u : Int} (h : sgOk T key n b u = false) : sgK T key n b u = zD := by unfold sgK; rw [h]; rfl
theorem sgK_yes {T : List (List ByteArray × Int)} {key n : List ByteArray} {b : List Int} {u : Int} (h : sgOk T key n b u = true) : sgK T key n b u = sgX T key n b u := by unfold sgK; rw [h]; rfl
set_option maxHeartbeats 8000000 in
theorem specSignWithKey (v uk un vb : Value) (T : List (List ByteArray × Int)) (lk ln : List ByteArray) (lb : List Int) (u : Int) (w : World) (h : TabHolds w v T) (gk : Holds Value.string w uk lk) (gn : Holds Value.string w un ln) (gb : Sl.Holds .u8 w vb lb) (hB : Sl.Byt lb) (hl : T.length ≤ 4000000) (hT : smT T) (hk : bulk lk ≤ 1200000) (hn : bulk ln ≤ 1200000) (hlb : lb.length ≤ 1200000) :
    Calls Tryz.prog 47 #[v, .agg #[uk], .agg #[un], vb, .int .i64 u] w (GivesDB w (sgK T lk ln lb u) (sgOk T lk ln lb u)) := by
  obtain ⟨L, rfl, h⟩ := h
  obtain ⟨xl, nl, cl, rfl, -, -, hh⟩ := h.shapeN
  obtain ⟨xk, nk, ck, rfl, -, -, hk1⟩ := gk.shapeN
  obtain ⟨xn, nn, cn, rfl, -, -, hn1⟩ := gn.shapeN
  obtain ⟨xb, nb, cb, rfl, -, -, hb1⟩ := Holds.shapeN (enc := Value.int .u8) gb
  replace hb1 : Sl.Holds .u8 w (.slice xb nb cb) lb := hb1
  have ha := (Below.refl w.heap.size w).alloc (Nat.le_refl _) (.cells #[.slice xk nk ck] 32)
  have hb := ha.alloc (by simp) (.cells #[.slice xn nn cn] 32)
  have hc := hb.alloc (by simp <;> omega) (.cells (dc (.slice none 0 0) (.slice none 0 0) (.slice none 0 0) 0 0) 34)
  have HB := Lib.hid hc
  have HXK := Lib.hid (((Ret.Box.new w (.slice xk nk ck) 32).on ((Below.refl _ _).alloc (Nat.le_refl _) (.cells #[.slice xn nn cn] 32))).on ((Below.refl _ _).alloc (Nat.le_refl _) (.cells (dc (.slice none 0 0) (.slice none 0 0) (.slice none 0 0) 0 0) 34)))
  have HXN := Lib.hid ((Ret.Box.new' (w := w.alloc (.cells #[.slice xk nk ck] 32)) (.slice xn nn cn) 32 (n := w.heap.size + 1) (by simp)).on ((Below.refl _ _).alloc (Nat.le_refl _) (.cells (dc (.slice none 0 0) (.slice none 0 0) (.slice none 0 0) 0 0) 34)))
  have HR := Lib.hid (Ret.Blk.new' (w := (w.alloc (.cells #[.slice xk nk ck] 32)).alloc (.cells #[.slice xn nn cn] 32)) (n := w.heap.size + 2) (dc (.slice none 0 0) (.slice none 0 0) (.slice none 0 0) 0 0) 34 (by simp))
  have HS := Lib.hid (show (((w.alloc (.cells #[.slice xk nk ck] 32)).alloc (.cells #[.slice xn nn cn] 32)).alloc (.cells (dc (.slice none 0 0) (.slice none 0 0) (.slice none 0 0) 0 0) 34)).heap.size = w.heap.size + 3 by simp)
  have HH := Lib.hid (hh.on hc); have HK := Lib.hid (hk1.on hc); have HN := Lib.hid (hn1.on hc); have HBB := Lib.hid (hb1.on hc)
  have HL := Lib.hid (show (strip L).length ≤ 4000000 from hl); have HT := Lib.hid hT; have HKB := Lib.hid (show bulk lk ≤ 9000000 by omega); have HBY := Lib.hid hB
  have HSM := Lib.hid (show smD (ln, lb, lk, u, 0) from ⟨hn, hlb, hk⟩)
  have HK1 := Lib.hid hk; have HN1 := Lib.hid hn
  obtain ⟨r, hr⟩ : ∃ r, lkN (strip L) lk = r := ⟨_, rfl⟩
  obtain ⟨M, hM⟩ : ∃ M, Seal.mac r (portD (ln, lb, lk, u, 0)) = M := ⟨_, rfl⟩
  obtain ⟨z, hz⟩ : ∃ z, validD (ln, lb, lk, u, M) = z := ⟨_, rfl⟩
  have HRR := Lib.hid hr; have HM := Lib.hid hM; have HZ := Lib.hid hz
  clear ha hb hc hh hk1 hn1 hb1 h gk gn gb hB hl hT hk hn hlb hr hM hz
  go_enter Tryz.func47, Tryz.ntmps47
  go_wp2_with fail
  refine signR1 HH HK HN HBB HL HT HKB HBY HSM HRR HM (Lib.hid HXK.out.cell) (Lib.hid HXN.out.cell) ?_
  intro u13 u14 u15 u16 u17 u18 u19 u20 u21 gD ma da mb db mc dc_ ya yb yc w2 hgd hxd hd hb2
  have hs0 : (((w.alloc (.cells #[.slice xk nk ck] 32)).alloc (.cells #[.slice xn nn cn] 32)).alloc (.cells (#[.slice none 0 0, .slice none 0 0, .slice none 0 0, .int .i64 0, .int .i64 0]) 34)).heap.size = w.heap.size + 3 := by simp
  have hs2 := hb2.size
  have hg3 : w.heap.size + 3 ≤ gD := by omega
  have HX := Lib.hid (show Ret.Blk ((((((w2).setCell ⟨gD, 0, none⟩ (.slice ya ma da)).setCell ⟨gD, 1, none⟩ (.slice yb mb db)).setCell ⟨gD, 2, none⟩ (.slice yc mc dc_)).setCell ⟨gD, 3, none⟩ (.int .i64 u)).setCell ⟨gD, 4, none⟩ (.int .i64 M)) gD (dc (.slice ya ma da) (.slice yb mb db) (.slice yc mc dc_) u M) 34 from blk_five hxd)
  have HD := Lib.hid (show DOwn w.heap.size ((((((w2).setCell ⟨gD, 0, none⟩ (.slice ya ma da)).setCell ⟨gD, 1, none⟩ (.slice yb mb db)).setCell ⟨gD, 2, none⟩ (.slice yc mc dc_)).setCell ⟨gD, 3, none⟩ (.int .i64 u)).setCell ⟨gD, 4, none⟩ (.int .i64 M)) (.slice ya ma da) (.slice yb mb db) (.slice yc mc dc_) (ln, lb, lk, u, M) from (hd.mono (by omega)).five hxd)
  replace HXK := Lib.hid (show Ret.Box ((((((w2).setCell ⟨gD, 0, none⟩ (.slice ya ma da)).setCell ⟨gD, 1, none⟩ (.slice yb mb db)).setCell ⟨gD, 2, none⟩ (.slice yc mc dc_)).setCell ⟨gD, 3, none⟩ (.int .i64 u)).setCell ⟨gD, 4, none⟩ (.int .i64 M)) w.heap.size (.slice xk nk ck) 32 from box_five (HXK.out.on hb2) (by omega))
  replace HR := Lib.hid (show Ret.Blk ((((((w2).setCell ⟨gD, 0, none⟩ (.slice ya ma da)).setCell ⟨gD, 1, none⟩ (.slice yb mb db)).setCell ⟨gD, 2, none⟩ (.slice yc mc dc_)).setCell ⟨gD, 3, none⟩ (.int .i64 u)).setCell ⟨gD, 4, none⟩ (.int .i64 M)) (w.heap.size + 2) (dc (.slice none 0 0) (.slice none 0 0) (.slice none 0 0) 0 0) 34 from blk_five_other (HR.out.on hb2) (by omega))
  have HBW := Lib.hid (show Below (((w.alloc (.cells #[.slice xk nk ck] 32)).alloc (.cells #[.slice xn nn cn] 32)).alloc (.cells (#[.slice none 0 0, .slice none 0 0, .slice none 0 0, .int .i64 0, .int .i64 0]) 34)).heap.size (((w.alloc (.cells #[.slice xk nk ck] 32)).alloc (.cells #[.slice xn nn cn] 32)).alloc (.cells (#[.slice none 0 0, .slice none 0 0, .slice none 0 0, .int .i64 0, .int .i64 0]) 34)) ((((((w2).setCell ⟨gD, 0, none⟩ (.slice ya ma da)).setCell ⟨gD, 1, none⟩ (.slice yb mb db)).setCell ⟨gD, 2, none⟩ (.slice yc mc dc_)).setCell ⟨gD, 3, none⟩ (.int .i64 u)).setCell ⟨gD, 4, none⟩ (.int .i64 M)) from below_five hb2 hgd)
  have HSZ := Lib.hid (show w.heap.size + 3 ≤ ((((((w2).setCell ⟨gD, 0, none⟩ (.slice ya ma da)).setCell ⟨gD, 1, none⟩ (.slice yb mb db)).setCell ⟨gD, 2, none⟩ (.slice yc mc dc_)).setCell ⟨gD, 3, none⟩ (.int .i64 u)).setCell ⟨gD, 4, none⟩ (.int .i64 M)).heap.size from by have h1 := HBW.out.size; omega)
  replace HB := Lib.hid (HB.out.trans (HBW.out.mono (by omega)))
  replace HH := Lib.hid (HH.out.on HBW.out); replace HK := Lib.hid (HK.out.on HBW.out)
  clear hgd hxd hd hb2 hs0 hs2 hg3 HBW HS HN HBB HXN
  generalize ((((((w2).setCell ⟨gD, 0, none⟩ (.slice ya ma da)).setCell ⟨gD, 1, none⟩ (.slice yb mb db)).setCell ⟨gD, 2, none⟩ (.slice yc mc dc_)).setCell ⟨gD, 3, none⟩ (.int .i64 u)).setCell ⟨gD, 4, none⟩ (.int .i64 M)) = w3 at *
  have hxk := HXK.out.cell
  go_wp2_with fail
  refine (secV r HRR.out ⟨L, rfl, HH.out⟩ HK.out HL.out HT.out HKB.out).mono ?_
  rintro e w4 ⟨rfl, hb4⟩
  have HSZ4 := Lib.hid (show w.heap.size + 3 ≤ w4.heap.size from by have h1 := HSZ.out; have h2 := hb4.size; omega)
  replace HX := Lib.hid (HX.out.on hb4); replace HD := Lib.hid (HD.out.on hb4); replace HR := Lib.hid (HR.out.on hb4)
  replace HB := Lib.hid (HB.out.trans (hb4.mono HB.out.size))
  clear hb4 hxk HSZ HXK HH HK
  by_cases hr0 : r = 0
  · have ht : (r == 0) = true := by simpa using hr0
    have HOK := Lib.hid (sgOk_zero (n := ln) (b := lb) (u := u) HRR.out ht)
    clear hr0
    obtain ⟨r0, r1, r2, r3, r4⟩ := cells5 HR.out
    obtain ⟨t0, t1, t2, t3, t4⟩ := froz5 HR.out
    have Z1 := Lib.hid (show Ret.Blk ((((((w4).setCell ⟨w.heap.size + 2, 0, none⟩ (.slice none 0 0)).setCell ⟨w.heap.size + 2, 1, none⟩ (.slice none 0 0)).setCell ⟨w.heap.size + 2, 2, none⟩ (.slice none 0 0)).setCell ⟨w.heap.size + 2, 3, none⟩ (.int .i64 0)).setCell ⟨w.heap.size + 2, 4, none⟩ (.int .i64 0)) (w.heap.size + 2) (dc (.slice none 0 0) (.slice none 0 0) (.slice none 0 0) 0 0) 34 from blk_five HR.out)
    have Z2 := Lib.hid (show Below w.heap.size w ((((((w4).setCell ⟨w.heap.size + 2, 0, none⟩ (.slice none 0 0)).setCell ⟨w.heap.size + 2, 1, none⟩ (.slice none 0 0)).setCell ⟨w.heap.size + 2, 2, none⟩ (.slice none 0 0)).setCell ⟨w.heap.size + 2, 3, none⟩ (.int .i64 0)).setCell ⟨w.heap.size + 2, 4, none⟩ (.int .i64 0)) from below_five HB.out (by omega))
    clear HR
    go_wp2_with fail
    refine bodyPost_ret (Ret.results_ct rfl _ _ (w.heap.size + 2) (dc (.slice none 0 0) (.slice none 0 0) (.slice none 0 0) 0 0).toList rfl aggD Z1.out.cells) rfl ?_
    rw [HOK.out, sgK_no HOK.out]
    exact ⟨nil, nil, nil, rfl, dOwn_zero _ _, Z2.out⟩
  · have ht : (r == 0) = false := by simpa using hr0
    have HOKX := Lib.hid (sgOk_val HRR.out ht HM.out HZ.out)
    obtain ⟨s0, s1, s2, s3, s4⟩ := cells5 HX.out
    clear hr0
    go_wp2_with fail
    refine (specValidData _ _ _ (ln, lb, lk, u, M) _ HD.out.hold (Nat.le_trans HN1.out (by decide)) (Nat.le_trans HK1.out (by decide))).mono ?_
    rintro e w5 ⟨rfl, hb5⟩
    rw [HZ.out]
    replace HX := Lib.hid (HX.out.on hb5); replace HD := Lib.hid (HD.out.on hb5); replace HR := Lib.hid (HR.out.on hb5)
    replace HB := Lib.hid (HB.out.trans (hb5.mono HB.out.size))
    clear hb5 s0 s1 s2 s3 s4
    cases z with
    | false =>
      have HOK := Lib.hid HOKX.out.1
      obtain ⟨r0, r1, r2, r3, r4⟩ := cells5 HR.out
      obtain ⟨t0, t1, t2, t3, t4⟩ := froz5 HR.out
      have Z1 := Lib.hid (show Ret.Blk ((((((w5).setCell ⟨w.heap.size + 2, 0, none⟩ (.slice none 0 0)).setCell ⟨w.heap.size + 2, 1, none⟩ (.slice none 0 0)).setCell ⟨w.heap.size + 2, 2, none⟩ (.slice none 0 0)).setCell ⟨w.heap.size + 2, 3, none⟩ (.int .i64 0)).setCell ⟨w.heap.size + 2, 4, none⟩ (.int .i64 0)) (w.heap.size + 2) (dc (.slice none 0 0) (.slice none 0 0) (.slice none 0 0) 0 0) 34 from blk_five HR.out)
      have Z2 := Lib.hid (show Below w.heap.size w ((((((w5).setCell ⟨w.heap.size + 2, 0, none⟩ (.slice none 0 0)).setCell ⟨w.heap.size + 2, 1, none⟩ (.slice none 0 0)).setCell ⟨w.heap.size + 2, 2, none⟩ (.slice none 0 0)).setCell ⟨w.heap.size + 2, 3, none⟩ (.int .i64 0)).setCell ⟨w.heap.size + 2, 4, none⟩ (.int .i64 0)) from below_five HB.out (by omega))
      clear HR
      go_wp2_with fail
      refine bodyPost_ret (Ret.results_ct rfl _ _ (w.heap.size + 2) (dc (.slice none 0 0) (.slice none 0 0) (.slice none 0 0) 0 0).toList rfl aggD Z1.out.cells) rfl ?_
      rw [HOK.out, sgK_no HOK.out]
      exact ⟨nil, nil, nil, rfl, dOwn_zero _ _, Z2.out⟩
    | true =>
      have HOK := Lib.hid HOKX.out.1; have HSX := Lib.hid HOKX.out.2
      obtain ⟨r0, r1, r2, r3, r4⟩ := cells5 HR.out
      obtain ⟨t0, t1, t2, t3, t4⟩ := froz5 HR.out
      have Z1 := Lib.hid (show Ret.Blk ((((((w5).setCell ⟨w.heap.size + 2, 0, none⟩ (.slice ya ma da)).setCell ⟨w.heap.size + 2, 1, none⟩ (.slice yb mb db)).setCell ⟨w.heap.size + 2, 2, none⟩ (.slice yc mc dc_)).setCell ⟨w.heap.size + 2, 3, none⟩ (.int .i64 u)).setCell ⟨w.heap.size + 2, 4, none⟩ (.int .i64 M)) (w.heap.size + 2) (dc (.slice ya ma da) (.slice yb mb db) (.slice yc mc dc_) u M) 34 from blk_five HR.out)
      have Z2 := Lib.hid (show Below w.heap.size w ((((((w5).setCell ⟨w.heap.size + 2, 0, none⟩ (.slice ya ma da)).setCell ⟨w.heap.size + 2, 1, none⟩ (.slice yb mb db)).setCell ⟨w.heap.size + 2, 2, none⟩ (.slice yc mc dc_)).setCell ⟨w.heap.size + 2, 3, none⟩ (.int .i64 u)).setCell ⟨w.heap.size + 2, 4, none⟩ (.int .i64 M)) from below_five HB.out (by omega))
      have Z3 := Lib.hid (show DOwn w.heap.size ((((((w5).setCell ⟨w.heap.size + 2, 0, none⟩ (.slice ya ma da)).setCell ⟨w.heap.size + 2, 1, none⟩ (.slice yb mb db)).setCell ⟨w.heap.size + 2, 2, none⟩ (.slice yc mc dc_)).setCell ⟨w.heap.size + 2, 3, none⟩ (.int .i64 u)).setCell ⟨w.heap.size + 2, 4, none⟩ (.int .i64 M)) (.slice ya ma da) (.slice yb mb db) (.slice yc mc dc_) (ln, lb, lk, u, M) from HD.out.five HR.out)
      obtain ⟨s0, s1, s2, s3, s4⟩ := cells5 HX.out
      clear HR
      clear HX
      go_wp2_with fail
      refine bodyPost_ret (Ret.results_ct rfl _ _ (w.heap.size + 2) (dc (.slice ya ma da) (.slice yb mb db) (.slice yc mc dc_) u M).toList rfl aggD Z1.out.cells) rfl ?_
      rw [HOK.out, sgK_yes HOK.out, HSX.out]
      exact ⟨_, _, _, rfl, Z3.out, Z2.out⟩
set_option maxHeartbeats 8000000 in
theorem implSignWithKey (v uk un vb : Value) (T : List (List ByteArray × Int)) (lk ln : List ByteArray) (lb : List Int) (u : Int) (w : World) (h : TabHolds w v T) (gk : Holds Value.string w uk lk) (gn : Holds Value.string w un ln) (gb : Sl.Holds .u8 w vb lb) (hB : Sl.Byt lb) (hl : T.length ≤ 4000000) (hT : smT T) (hk : bulk lk ≤ 1200000) (hn : bulk ln ≤ 1200000) (hlb : lb.length ≤ 1200000) :
    Calls Tryz.prog 33 #[v, .agg #[uk], .agg #[un], vb, .int .i64 u] w (GivesDB w (sgK T lk ln lb u) (sgOk T lk ln lb u)) := by
  obtain ⟨L, rfl, h⟩ := h
  obtain ⟨xl, nl, cl, rfl, -, -, hh⟩ := h.shapeN
  obtain ⟨xk, nk, ck, rfl, -, -, hk1⟩ := gk.shapeN
  obtain ⟨xn, nn, cn, rfl, -, -, hn1⟩ := gn.shapeN
  obtain ⟨xb, nb, cb, rfl, -, -, hb1⟩ := Holds.shapeN (enc := Value.int .u8) gb
  replace hb1 : Sl.Holds .u8 w (.slice xb nb cb) lb := hb1
  have ha := (Below.refl w.heap.size w).alloc (Nat.le_refl _) (.cells #[.slice xk nk ck] 32)
  have hb := ha.alloc (by simp) (.cells #[.slice xn nn cn] 32)
  have hc := hb.alloc (by simp <;> omega) (.cells (dc (.slice none 0 0) (.slice none 0 0) (.slice none 0 0) 0 0) 34)
  have HB := Lib.hid hc
  have HXK := Lib.hid (((Ret.Box.new w (.slice xk nk ck) 32).on ((Below.refl _ _).alloc (Nat.le_refl _) (.cells #[.slice xn nn cn] 32))).on ((Below.refl _ _).alloc (Nat.le_refl _) (.cells (dc (.slice none 0 0) (.slice none 0 0) (.slice none 0 0) 0 0) 34)))
  have HXN := Lib.hid ((Ret.Box.new' (w := w.alloc (.cells #[.slice xk nk ck] 32)) (.slice xn nn cn) 32 (n := w.heap.size + 1) (by simp)).on ((Below.refl _ _).alloc (Nat.le_refl _) (.cells (dc (.slice none 0 0) (.slice none 0 0) (.slice none 0 0) 0 0) 34)))
  have HR := Lib.hid (Ret.Blk.new' (w := (w.alloc (.cells #[.slice xk nk ck] 32)).alloc (.cells #[.slice xn nn cn] 32)) (n := w.heap.size + 2) (dc (.slice none 0 0) (.slice none 0 0) (.slice none 0 0) 0 0) 34 (by simp))
  have HS := Lib.hid (show (((w.alloc (.cells #[.slice xk nk ck] 32)).alloc (.cells #[.slice xn nn cn] 32)).alloc (.cells (dc (.slice none 0 0) (.slice none 0 0) (.slice none 0 0) 0 0) 34)).heap.size = w.heap.size + 3 by simp)
  have HH := Lib.hid (hh.on hc); have HK := Lib.hid (hk1.on hc); have HN := Lib.hid (hn1.on hc); have HBB := Lib.hid (hb1.on hc)
  have HL := Lib.hid (show (strip L).length ≤ 4000000 from hl); have HT := Lib.hid hT; have HKB := Lib.hid (show bulk lk ≤ 9000000 by omega); have HBY := Lib.hid hB
  have HSM := Lib.hid (show smD (ln, lb, lk, u, 0) from ⟨hn, hlb, hk⟩)
  have HK1 := Lib.hid hk; have HN1 := Lib.hid hn
  obtain ⟨r, hr⟩ : ∃ r, lkN (strip L) lk = r := ⟨_, rfl⟩
  obtain ⟨M, hM⟩ : ∃ M, Seal.mac r (portD (ln, lb, lk, u, 0)) = M := ⟨_, rfl⟩
  obtain ⟨z, hz⟩ : ∃ z, validD (ln, lb, lk, u, M) = z := ⟨_, rfl⟩
  have HRR := Lib.hid hr; have HM := Lib.hid hM; have HZ := Lib.hid hz
  clear ha hb hc hh hk1 hn1 hb1 h gk gn gb hB hl hT hk hn hlb hr hM hz
  go_enter Tryz.func33, Tryz.ntmps33
  have hxk := HXK.out.cell
  go_wp2_with fail
  refine (isecV r HRR.out ⟨L, rfl, HH.out⟩ HK.out HL.out HT.out HKB.out).mono ?_
  rintro e w1 ⟨rfl, hb1⟩
  have HSZ1 := Lib.hid (show w.heap.size + 3 ≤ w1.heap.size from by have h1 := HS.out; have h2 := hb1.size; omega)
  replace HXK := Lib.hid (HXK.out.on hb1); replace HXN := Lib.hid (HXN.out.on hb1); replace HR := Lib.hid (HR.out.on hb1)
  have HD0 := Lib.hid (show DHold w1 (.slice xn nn cn) (.slice xb nb cb) (.slice xk nk ck) (ln, lb, lk, u, 0) from ⟨HN.out.on hb1, HBB.out.on hb1, HK.out.on hb1⟩)
  replace HB := Lib.hid (HB.out.trans (hb1.mono HB.out.size))
  clear hb1 hxk HS HH HK HN HBB
  by_cases hr0 : r = 0
  · have ht : (r == 0) = true := by simpa using hr0
    have HOK := Lib.hid (sgOk_zero (n := ln) (b := lb) (u := u) HRR.out ht)
    clear hr0
    obtain ⟨r0, r1, r2, r3, r4⟩ := cells5 HR.out
    obtain ⟨t0, t1, t2, t3, t4⟩ := froz5 HR.out
    have Z1 := Lib.hid (show Ret.Blk ((((((w1).setCell ⟨w.heap.size + 2, 0, none⟩ (.slice none 0 0)).setCell ⟨w.heap.size + 2, 1, none⟩ (.slice none 0 0)).setCell ⟨w.heap.size + 2, 2, none⟩ (.slice none 0 0)).setCell ⟨w.heap.size + 2, 3, none⟩ (.int .i64 0)).setCell ⟨w.heap.size + 2, 4, none⟩ (.int .i64 0)) (w.heap.size + 2) (dc (.slice none 0 0) (.slice none 0 0) (.slice none 0 0) 0 0) 34 from blk_five HR.out)
    have Z2 := Lib.hid (show Below w.heap.size w ((((((w1).setCell ⟨w.heap.size + 2, 0, none⟩ (.slice none 0 0)).setCell ⟨w.heap.size + 2, 1, none⟩ (.slice none 0 0)).setCell ⟨w.heap.size + 2, 2, none⟩ (.slice none 0 0)).setCell ⟨w.heap.size + 2, 3, none⟩ (.int .i64 0)).setCell ⟨w.heap.size + 2, 4, none⟩ (.int .i64 0)) from below_five HB.out (by omega))
    clear HR
    go_wp2_with fail
    refine bodyPost_ret (Ret.results_ct rfl _ _ (w.heap.size + 2) (dc (.slice none 0 0) (.slice none 0 0) (.slice none 0 0) 0 0).toList rfl aggD Z1.out.cells) rfl ?_
    rw [HOK.out, sgK_no HOK.out]
    exact ⟨nil, nil, nil, rfl, dOwn_zero _ _, Z2.out⟩
  · have ht : (r == 0) = false := by simpa using hr0
    have HOKX := Lib.hid (sgOk_val HRR.out ht HM.out HZ.out)
    have hxk := HXK.out.cell; have hxn := HXN.out.cell
    clear hr0
    go_wp2_with fail
    refine (implSignV M HM.out HD0.out HBY.out HSM.out).mono ?_
    rintro e w2 ⟨ya, ma, da, yb, mb, db, yc, mc, dc_, rfl, hd, hb2⟩
    have hal := (Below.refl w2.heap.size w2).alloc (Nat.le_refl _) (.cells (dc (.slice ya ma da) (.slice yb mb db) (.slice yc mc dc_) u M) 34)
    have HSZ2 := Lib.hid (show w.heap.size + 3 ≤ w2.heap.size from by have h1 := HSZ1.out; have h2 := hb2.size; omega)
    have HX := Lib.hid (Ret.Blk.new w2 (dc (.slice ya ma da) (.slice yb mb db) (.slice yc mc dc_) u M) 34)
    have HD := Lib.hid (show DOwn w.heap.size (w2.alloc (.cells (dc (.slice ya ma da) (.slice yb mb db) (.slice yc mc dc_) u M) 34)) (.slice ya ma da) (.slice yb mb db) (.slice yc mc dc_) (ln, lb, lk, u, M) from (hd.mono (by have h1 := HSZ1.out; omega)).on hal)
    replace HR := Lib.hid ((HR.out.on hb2).on hal)
    replace HB := Lib.hid ((HB.out.trans (hb2.mono HB.out.size)).trans (hal.mono (by have h1 := HSZ2.out; omega)))
    have HSZ3 := Lib.hid (show w.heap.size + 3 ≤ (w2.alloc (.cells (dc (.slice ya ma da) (.slice yb mb db) (.slice yc mc dc_) u M) 34)).heap.size from by rw [World.size_alloc]; have h1 := HSZ2.out; omega)
    obtain ⟨s0, s1, s2, s3, s4⟩ := cells5 HX.out
    clear hd hb2 hal hxk hxn HD0 HXK HXN HSZ1
    go_wp2_with fail
    refine (implValidData _ _ _ (ln, lb, lk, u, M) _ HD.out.hold (Nat.le_trans HN1.out (by decide)) (Nat.le_trans HK1.out (by decide))).mono ?_
    rintro e w5 ⟨rfl, hb5⟩
    rw [HZ.out]
    replace HX := Lib.hid (HX.out.on hb5); replace HD := Lib.hid (HD.out.on hb5); replace HR := Lib.hid (HR.out.on hb5)
    replace HB := Lib.hid (HB.out.trans (hb5.mono HB.out.size))
    clear hb5 s0 s1 s2 s3 s4
    cases z with
    | false =>
      have HOK := Lib.hid HOKX.out.1
      obtain ⟨r0, r1, r2, r3, r4⟩ := cells5 HR.out
      obtain ⟨t0, t1, t2, t3, t4⟩ := froz5 HR.out
      have Z1 := Lib.hid (show Ret.Blk ((((((w5).setCell ⟨w.heap.size + 2, 0, none⟩ (.slice none 0 0)).setCell ⟨w.heap.size + 2, 1, none⟩ (.slice none 0 0)).setCell ⟨w.heap.size + 2, 2, none⟩ (.slice none 0 0)).setCell ⟨w.heap.size + 2, 3, none⟩ (.int .i64 0)).setCell ⟨w.heap.size + 2, 4, none⟩ (.int .i64 0)) (w.heap.size + 2) (dc (.slice none 0 0) (.slice none 0 0) (.slice none 0 0) 0 0) 34 from blk_five HR.out)
      have Z2 := Lib.hid (show Below w.heap.size w ((((((w5).setCell ⟨w.heap.size + 2, 0, none⟩ (.slice none 0 0)).setCell ⟨w.heap.size + 2, 1, none⟩ (.slice none 0 0)).setCell ⟨w.heap.size + 2, 2, none⟩ (.slice none 0 0)).setCell ⟨w.heap.size + 2, 3, none⟩ (.int .i64 0)).setCell ⟨w.heap.size + 2, 4, none⟩ (.int .i64 0)) from below_five HB.out (by omega))
      clear HR
      go_wp2_with fail
      refine bodyPost_ret (Ret.results_ct rfl _ _ (w.heap.size + 2) (dc (.slice none 0 0) (.slice none 0 0) (.slice none 0 0) 0 0).toList rfl aggD Z1.out.cells) rfl ?_
      rw [HOK.out, sgK_no HOK.out]
      exact ⟨nil, nil, nil, rfl, dOwn_zero _ _, Z2.out⟩
    | true =>
      have HOK := Lib.hid HOKX.out.1; have HSX := Lib.hid HOKX.out.2
      obtain ⟨r0, r1, r2, r3, r4⟩ := cells5 HR.out
      obtain ⟨t0, t1, t2, t3, t4⟩ := froz5 HR.out
      have Z1 := Lib.hid (show Ret.Blk ((((((w5).setCell ⟨w.heap.size + 2, 0, none⟩ (.slice ya ma da)).setCell ⟨w.heap.size + 2, 1, none⟩ (.slice yb mb db)).setCell ⟨w.heap.size + 2, 2, none⟩ (.slice yc mc dc_)).setCell ⟨w.heap.size + 2, 3, none⟩ (.int .i64 u)).setCell ⟨w.heap.size + 2, 4, none⟩ (.int .i64 M)) (w.heap.size + 2) (dc (.slice ya ma da) (.slice yb mb db) (.slice yc mc dc_) u M) 34 from blk_five HR.out)
      have Z2 := Lib.hid (show Below w.heap.size w ((((((w5).setCell ⟨w.heap.size + 2, 0, none⟩ (.slice ya ma da)).setCell ⟨w.heap.size + 2, 1, none⟩ (.slice yb mb db)).setCell ⟨w.heap.size + 2, 2, none⟩ (.slice yc mc dc_)).setCell ⟨w.heap.size + 2, 3, none⟩ (.int .i64 u)).setCell ⟨w.heap.size + 2, 4, none⟩ (.int .i64 M)) from below_five HB.out (by omega))
      have Z3 := Lib.hid (show DOwn w.heap.size ((((((w5).setCell ⟨w.heap.size + 2, 0, none⟩ (.slice ya ma da)).setCell ⟨w.heap.size + 2, 1, none⟩ (.slice yb mb db)).setCell ⟨w.heap.size + 2, 2, none⟩ (.slice yc mc dc_)).setCell ⟨w.heap.size + 2, 3, none⟩ (.int .i64 u)).setCell ⟨w.heap.size + 2, 4, none⟩ (.int .i64 M)) (.slice ya ma da) (.slice yb mb db) (.slice yc mc dc_) (ln, lb, lk, u, M) from HD.out.five HR.out)
      obtain ⟨s0, s1, s2, s3, s4⟩ := cells5 HX.out
      clear HR
      clear HX
      go_wp2_with fail
      refine bodyPost_ret (Ret.results_ct rfl _ _ (w.heap.size + 2) (dc (.slice ya ma da) (.slice yb mb db) (.slice yc mc dc_) u M).toList rfl aggD Z1.out.cells) rfl ?_
      rw [HOK.out, sgK_yes HOK.out, HSX.out]
      exact ⟨_, _, _, rfl, Z3.out, Z2.out⟩
end Go.Proofs.YtlhchmjnaanjpaaGreatDoor.Row.Ring
/- Lists of keys, and a key, in the words of the exact laws; chapter 9's functions, the model's and the program's, in these words. No conditions but that lengths fit. -/
namespace Go.Proofs.YtlhchmjnaanjpaaGreatDoor.Row.Ring
open Go.ChangeShapes Go.WideShapes Go.ChangeAt Go.RowKit Go.Instr
set_option linter.unusedVariables false
set_option maxRecDepth 100000
abbrev Kt := List (List ByteArray × Int)
def kK.At (w : World) (V : Value) (T : Kt) : Prop := TabHolds w V T
def kK.In (B E : Nat) (w : World) (V : Value) (T : Kt) : Prop := TabIn B E w V T
section
variable {B E B' E' : Nat} {w w' : World} {V : Value} {T : Kt}
theorem kK.At.on (h : kK.At w V T) (hb : Below w.heap.size w w') : kK.At w' V T := TabHolds.on h hb
theorem kK.In.on (h : kK.In B E w V T) (hb : Below w.heap.size w w') : kK.In B E w' V T := TabIn.on h hb
theorem kK.In.at (h : kK.In B E w V T) : kK.At w V T := TabIn.holds h
theorem kK_shapeA (h : kK.At w V T) : ∃ x n c, V = .slice x n c ∧ kK.At w (.slice x n c) T := by
  obtain ⟨x, n, c, rfl, -, -, h⟩ := TabHolds.shapeN h
  exact ⟨x, n, c, rfl, h⟩
end
abbrev K1 := List ByteArray × Int
def k1.At (w : World) (V : Value) (x : K1) : Prop := ∃ v, V = .agg #[v, .int .i64 x.2] ∧ Holds Value.string w v x.1
def k1.In (B E : Nat) (w : World) (V : Value) (x : K1) : Prop := ∃ v, V = .agg #[v, .int .i64 x.2] ∧ Own 9 Value.string B w v x.1 ∧ ∀ g, v.ownBlock = some g → g < E
section
variable {B E B' E' : Nat} {w w' : World} {V : Value} {x : K1}
theorem k1.At.on (h : k1.At w V x) (hb : Below w.heap.size w w') : k1.At w' V x := by
  obtain ⟨v, rfl, h⟩ := h
  exact ⟨v, rfl, h.on hb⟩
theorem k1.In.on (h : k1.In B E w V x) (hb : Below w.heap.size w w') : k1.In B E w' V x := by
  obtain ⟨v, rfl, h, h1⟩ := h
  exact ⟨v, rfl, h.on hb, h1⟩
theorem k1.In.at (h : k1.In B E w V x) : k1.At w V x := by
  obtain ⟨v, rfl, h, h1⟩ := h
  exact ⟨v, rfl, h.holds⟩
end
def WfK1 (x : K1) : Prop := (∀ y ∈ x.1, y.size ≤ maxLen) ∧ (Lit.int .i64 x.2).wf = true
def mk1 (k : Int) (x : K1) : K1 := (marks markT k x.1.length, x.2)
theorem len_bulkT {T : Kt} (h : bulkT T ≤ 1200000) : T.length ≤ 3000000 := by have := bulkT_len T; omega
theorem sm_bulkT {T : Kt} (h : bulkT T ≤ 1200000) : smT T := smT_of (by omega)
theorem specSecretOfK (V U : Value) (T : Kt) (m : List ByteArray) (w : World) (h : kK.At w V T) (g : kN.At w U m) (hl : bulkT T ≤ 1200000) (hm : bulk m ≤ 1200000) :
    Calls Tryz.prog 55 #[V, U] w fun e w' => e = .returned (.int .i64 (lkN T m)) ∧ Below w.heap.size w w' := by
  obtain ⟨v, rfl, g9⟩ := kN_at g
  exact specSecretOf V v T m w h g9 (Nat.le_trans (len_bulkT hl) (by decide)) (sm_bulkT hl) (by omega)
theorem specSignWithKeyK (V U1 U2 U3 : Value) (T : Kt) (lk ln : List ByteArray) (lb : List Int) (u : Int) (w : World) (h : kK.At w V T) (g1 : kN.At w U1 lk) (g2 : kN.At w U2 ln) (g3 : kB.At w U3 lb) (hB : Sl.Byt lb) (hl : bulkT T ≤ 1200000) (h1 : bulk lk ≤ 1200000) (h2 : bulk ln ≤ 1200000) (h3 : lb.length ≤ 1200000) :
    Calls Tryz.prog 47 #[V, U1, U2, U3, .int .i64 u] w fun e w' => ∃ X, e = .returned (.tuple #[X, .bool (sgOk T lk ln lb u)]) ∧ kD.In w.heap.size w'.heap.size w' X (sgK T lk ln lb u) ∧ Below w.heap.size w w' := by
  obtain ⟨v1, rfl, g8⟩ := kN_at g1
  obtain ⟨v2, rfl, g9⟩ := kN_at g2
  exact giveDB (specSignWithKey V v1 v2 U3 T lk ln lb u w h g8 g9 (kS_at g3) hB (Nat.le_trans (len_bulkT hl) (by decide)) (sm_bulkT hl) h1 h2 h3)
theorem specVerifySignatureK (V U : Value) (T : Kt) (x : Dt) (w : World) (h : kK.At w V T) (g : kD.At w U x) (gn : WfD x) (hl : bulkT T ≤ 1200000) (hx : bulkD x ≤ 1200000) :
    Calls Tryz.prog 37 #[V, U] w fun e w' => e = .returned (.bool (verD (lkN T x.2.2.1) x)) ∧ Below w.heap.size w w' := specVerifySignature V U T x w h g gn (Nat.le_trans (len_bulkT hl) (by decide)) (sm_bulkT hl) hx
theorem implSecretOfK (V U : Value) (T : Kt) (m : List ByteArray) (w : World) (h : kK.At w V T) (g : kN.At w U m) (hl : bulkT T ≤ 1200000) (hm : bulk m ≤ 1200000) :
    Calls Tryz.prog 68 #[V, U] w fun e w' => e = .returned (.int .i64 (lkN T m)) ∧ Below w.heap.size w w' := by
  obtain ⟨v, rfl, g9⟩ := kN_at g
  exact implSecretOf V v T m w h g9 (Nat.le_trans (len_bulkT hl) (by decide)) (sm_bulkT hl) (by omega)
theorem implSignWithKeyK (V U1 U2 U3 : Value) (T : Kt) (lk ln : List ByteArray) (lb : List Int) (u : Int) (w : World) (h : kK.At w V T) (g1 : kN.At w U1 lk) (g2 : kN.At w U2 ln) (g3 : kB.At w U3 lb) (hB : Sl.Byt lb) (hl : bulkT T ≤ 1200000) (h1 : bulk lk ≤ 1200000) (h2 : bulk ln ≤ 1200000) (h3 : lb.length ≤ 1200000) :
    Calls Tryz.prog 33 #[V, U1, U2, U3, .int .i64 u] w fun e w' => ∃ X, e = .returned (.tuple #[X, .bool (sgOk T lk ln lb u)]) ∧ kD.In w.heap.size w'.heap.size w' X (sgK T lk ln lb u) ∧ Below w.heap.size w w' := by
  obtain ⟨v1, rfl, g8⟩ := kN_at g1
  obtain ⟨v2, rfl, g9⟩ := kN_at g2
  exact giveDB (implSignWithKey V v1 v2 U3 T lk ln lb u w h g8 g9 (kS_at g3) hB (Nat.le_trans (len_bulkT hl) (by decide)) (sm_bulkT hl) h1 h2 h3)
theorem implVerifySignatureK (V U : Value) (T : Kt) (x : Dt) (w : World) (h : kK.At w V T) (g : kD.At w U x) (gn : WfD x) (hl : bulkT T ≤ 1200000) (hx : bulkD x ≤ 1200000) :
    Calls Tryz.prog 30 #[V, U] w fun e w' => e = .returned (.bool (verD (lkN T x.2.2.1) x)) ∧ Below w.heap.size w w' := implVerifySignature V U T x w h g gn (Nat.le_trans (len_bulkT hl) (by decide)) (sm_bulkT hl) hx
end Go.Proofs.YtlhchmjnaanjpaaGreatDoor.Row.Ring
/- Lists of keys and data packets of kstruct.py's kinds, as chapters 8 and 9 read them. No conditions. -/
namespace Go.Proofs.YtlhchmjnaanjpaaGreatDoor.Row
open Go.ChangeShapes Go.WideShapes Go.ChangeAt Go.RowKit Go.Instr
set_option linter.unusedVariables false
set_option maxRecDepth 100000
theorem kD_ofK {w : World} {V : Value} {x : Dzt} (h : kDz.At w V x) : kD.At w V x := by
  obtain ⟨x0, n0, c0, x1, n1, c1, x2, n2, c2, rfl, g0, g1, g2⟩ := kDz_at h
  obtain ⟨v, e, h0⟩ := kN_at g0
  cases e
  obtain ⟨v, e, h1⟩ := kB_at g1
  cases e
  obtain ⟨v, e, h2⟩ := kN_at g2
  cases e
  exact kD_of (x := x) ⟨h0, h1, h2⟩
def entOf (m : Kym) : Ring.Ent := ⟨m.1.ad, m.1.n, m.1.cap, m.1.els, m.2⟩
theorem kK_ofK {w : World} {V : Value} {l : List Kyt} (h : kLKy.At w V l) : Ring.kK.At w V l := by
  obtain ⟨ad, n, cap, L, rfl, hn, rfl, hh, hel⟩ := kLKy_at h
  have hc : ∀ m : Kym, Ring.encE (entOf m) = kKy.cells m := fun m => rfl
  have hf : ∀ L : List Kym, flat Ring.encE (L.map entOf) = flat kKy.cells L := fun L => by
    unfold flat
    rw [List.flatMap_map]
    rfl
  refine ⟨L.map entOf, ?_, ?_, fun x hx => ?_⟩
  · unfold Ring.strip
    rw [List.map_map]
    refine List.map_congr_left fun m hm => ?_
    show (m.1.els, m.2) = (kN.strip m.1, m.2)
    rw [kN_strip]
  · obtain ⟨a, b, hv, hb, h9⟩ := hh
    refine ⟨a, b, by rw [List.length_map]; exact hv, by rw [List.length_map]; exact hb, ?_⟩
    rcases h9 with h9 | ⟨g, off, e, h9⟩
    · exact Or.inl (by rw [h9]; rfl)
    · exact Or.inr ⟨g, off, e, by rw [hf, List.length_map]; exact h9⟩
  · obtain ⟨m, hm, rfl⟩ := List.mem_map.1 hx
    have h1 := (hel m hm).1
    obtain ⟨v, e, h2⟩ := kN_at (Kd.at_of (k := kN) h1)
    rw [kN_strip] at h2
    have e2 : v = m.1.v := by
      have e3 : (Value.agg #[m.1.v]) = .agg #[v] := e
      injection e3 with e3
      exact (List.cons.inj (congrArg Array.toList e3)).1.symm
    rw [e2] at h2
    exact h2
end Go.Proofs.YtlhchmjnaanjpaaGreatDoor.Row
/- The model's KeyDigest. No conditions but that lengths fit. -/
namespace Go.Proofs.YtlhchmjnaanjpaaGreatDoor.Row
open Go.ChangeShapes Go.WideShapes Go.ChangeAt Go.RowKit Go.Instr
set_option linter.unusedVariables false
set_option maxRecDepth 100000
def digK (T : Ring.Kt) (m : List ByteArray) : List Int := if Ring.lkN T m = 0 then [] else Var.var (Seal.digest [Ring.lkN T m])
theorem digK_len (T : Ring.Kt) (m : List ByteArray) : (digK T m).length ≤ 6 := by
  unfold digK
  split
  · simp
  · exact Var.var_len _
set_option maxHeartbeats 4000000 in
theorem specKeyDigest (V U : Value) (T : Ring.Kt) (m : List ByteArray) (w : World) (z : List Int) (hz : digK T m = z) (h : Ring.kK.At w V T) (g : kN.At w U m) (hl : Ring.bulkT T ≤ 1200000) (hm : bulk m ≤ 1200000) :
    Calls Tryz.prog 27 #[V, U] w (Sl.GivesB w z) := by
  obtain ⟨x, n, c, rfl, h⟩ := Ring.kK_shapeA h
  obtain ⟨xn, nn, cn, rfl, g⟩ := kN_shapeA g
  have hal := (Below.refl w.heap.size w).alloc (Nat.le_refl _) (.cells #[.slice xn nn cn] 32)
  have HB := Lib.hid hal
  have HC := Lib.hid (Ret.Box.new w (.slice xn nn cn) 32)
  have HS := Lib.hid (Ring.specSecretOfK _ _ T m _ (h.on hal) (g.on hal) hl hm)
  have HZ := Lib.hid hz
  clear h g hal hz hl hm
  go_enter Tryz.func27, Tryz.ntmps27
  have c0 := HC.out.cell
  go_wp2_with fail
  refine HS.out.mono ?_
  rintro e w1 ⟨rfl, hb⟩
  replace HB := Lib.hid (HB.out.trans (hb.mono HB.out.size))
  clear hb c0 HS HC
  obtain ⟨s, hs⟩ : ∃ s, Ring.lkN T m = s := ⟨_, rfl⟩
  rw [hs]
  have HK := Lib.hid hs
  clear hs
  by_cases h0 : s = 0
  · subst h0
    have HE := Lib.hid (show z = [] by rw [← HZ.out]; unfold digK; rw [if_pos HK.out])
    have HO := Lib.hid (Sl.own_empty .u8 5 w1)
    go_wp2_with fail
    go_ret
    exact ⟨_, rfl, by rw [HE.out]; exact Sl.Own.mono HO.out HB.out.size, HB.out.alloc HB.out.size _⟩
  · have HE := Lib.hid (show z = [] ++ Var.var (Seal.digest [s]) by rw [← HZ.out]; unfold digK; rw [HK.out, if_neg h0]; rfl)
    have hb1 := (Below.refl w1.heap.size w1).alloc (Nat.le_refl _) (.cells #[] 5)
    have hb2 := (Below.refl (w1.alloc (.cells #[] 5)).heap.size (w1.alloc (.cells #[] 5))).alloc (Nat.le_refl _) (.cells #[.int .i64 s] 3)
    have HO := Lib.hid ((Sl.own_empty .u8 5 w1).holds.on hb2)
    have hi := Sl.holds_one .i64 3 (w1.alloc (.cells #[] 5)) s
    rw [World.size_alloc] at hi
    have HI := Lib.hid hi
    clear hi
    have HBB := Lib.hid ((HB.out.trans (hb1.mono HB.out.size)).trans (hb2.mono (Nat.le_trans HB.out.size hb1.size)))
    clear hb1 hb2
    go_wp2_with fail
    refine (Sl.specDigest _ [s] _ HI.out (by simp)).mono ?_
    rintro e w2 ⟨rfl, rfl⟩
    go_wp2_with fail
    refine (Sl.specAppendVarint _ [] _ _ HO.out (by decide)).mono ?_
    rintro e w3 ⟨v, rfl, ho, hb⟩
    have HV := Lib.hid (Sl.Own.mono ho HBB.out.size); have HB3 := Lib.hid (HBB.out.trans (hb.mono HBB.out.size))
    clear ho hb
    go_wp2_with fail
    go_ret
    exact ⟨_, rfl, by rw [HE.out]; exact HV.out, HB3.out⟩
end Go.Proofs.YtlhchmjnaanjpaaGreatDoor.Row
/- Searching a list for the first element of which something holds; what is asked of a closure that is handed to the library. For any kind. No conditions. -/
namespace Go.Proofs.YtlhchmjnaanjpaaGreatDoor.Row
open Go.ChangeShapes Go.WideShapes Go.ChangeAt Go.RowKit Go.Instr
set_option linter.unusedVariables false
set_option maxRecDepth 100000
section
variable {α : Type} [Inhabited α] {p : α → Bool} {l : List α} {k : Nat}
def ixL (p : α → Bool) (l : List α) : Int := if l.findIdx p < l.length then (l.findIdx p : Int) else -1
def noL (p : α → Bool) (l : List α) (k : Nat) : Prop := ∀ j, j < k → p (nth l j) = false
theorem noL_zero (p : α → Bool) (l : List α) : noL p l 0 := fun j h => absurd h (by omega)
theorem noL_succ (h : noL p l k) (hc : p (nth l k) = false) : noL p l (k + 1) := fun j h1 => by
  by_cases e : j = k
  · subst e; exact hc
  · exact h j (by omega)
theorem ixL_at (hk : k < l.length) (h : noL p l k) (hc : p (nth l k) = true) : ixL p l = k := by
  have e : l.findIdx p = k := by
    rw [List.findIdx_eq hk]
    exact ⟨by rw [← nth_eq hk]; exact hc, fun j hj => by rw [← nth_eq (Nat.lt_trans hj hk)]; exact h j hj⟩
  unfold ixL; rw [e, if_pos hk]
theorem ixL_none (h : noL p l l.length) : ixL p l = -1 := by
  have e : l.findIdx p = l.length := by
    rw [List.findIdx_eq_length]
    intro x hx
    obtain ⟨j, hj, rfl⟩ := List.getElem_of_mem hx
    rw [← nth_eq hj]; exact h j hj
  unfold ixL; rw [e, if_neg (by omega)]
theorem ixL_cases (p : α → Bool) (l : List α) : (ixL p l = -1 ∧ noL p l l.length) ∨ ∃ k, k < l.length ∧ ixL p l = (k : Int) ∧ p (nth l k) = true ∧ noL p l k := by
  by_cases h : l.findIdx p < l.length
  · refine Or.inr ⟨l.findIdx p, h, by unfold ixL; rw [if_pos h], ?_, ?_⟩
    · rw [nth_eq h]; exact List.findIdx_getElem
    · intro j hj
      rw [nth_eq (Nat.lt_trans hj h)]
      have := List.not_of_lt_findIdx hj
      simpa using this
  · have e : l.findIdx p = l.length := Nat.le_antisymm List.findIdx_le_length (by omega)
    refine Or.inl ⟨by unfold ixL; rw [if_neg h], fun j hj => ?_⟩
    rw [nth_eq hj]
    have := List.not_of_lt_findIdx (p := p) (xs := l) (i := j) (by omega)
    simpa using this
theorem any_of_noL (h : noL p l l.length) : l.any p = false := by
  rw [List.any_eq_false]
  intro x hx
  obtain ⟨j, hj, rfl⟩ := List.getElem_of_mem hx
  rw [← nth_eq hj, h j hj]
  simp
theorem any_of_at (hk : k < l.length) (hc : p (nth l k) = true) : l.any p = true := List.any_eq_true.2 ⟨_, nth_mem hk, hc⟩
theorem any_ixL (p : α → Bool) (l : List α) : l.any p = decide (0 ≤ ixL p l) := by
  rcases ixL_cases p l with ⟨e, h⟩ | ⟨k, hk, e, hc, -⟩
  · rw [e, any_of_noL h]; rfl
  · rw [e, any_of_at hk hc]; simp
theorem ixL_lt (p : α → Bool) (l : List α) : -1 ≤ ixL p l ∧ ixL p l < l.length ∨ ixL p l = -1 := by
  rcases ixL_cases p l with ⟨e, h⟩ | ⟨k, hk, e, hc, -⟩
  · exact Or.inr e
  · exact Or.inl ⟨by omega, by omega⟩
end
def ClosK {α M : Type} (P : Program) (k : Kd α M) (fid : FuncId) (cap : Array Value) (p : α → Bool) (ok : α → Prop) (w : World) : Prop :=
  ∀ (x : α) (V : Value) (W : World), Below w.heap.size w W → k.At W V x → ok x → Calls P fid (#[V] ++ cap) W fun e w' => e = .returned (.bool (p x)) ∧ Below W.heap.size W w'
theorem ClosK.on {α M : Type} {P : Program} {k : Kd α M} {fid : FuncId} {cap : Array Value} {p : α → Bool} {ok : α → Prop} {w w' : World} (h : ClosK P k fid cap p ok w) (hb : Below w.heap.size w w') : ClosK P k fid cap p ok w' := fun x V W hW => h x V W (hb.trans (hW.mono hb.size))
end Go.Proofs.YtlhchmjnaanjpaaGreatDoor.Row
/- Chapter 11's answers as functions of lists, in the words of kinds; what fits. No conditions. -/
namespace Go.Proofs.YtlhchmjnaanjpaaGreatDoor.Row
open Go.ChangeShapes Go.WideShapes Go.ChangeAt Go.RowKit Go.Instr
set_option linter.unusedVariables false
set_option maxRecDepth 100000
theorem bulkT_K (T : List Kyt) : Ring.bulkT T = bulkK wtKy T := rfl
structure FitT (t : Tpt) : Prop where
  wt : wtTp t ≤ 1200000
  ok : inTp t
structure FitD (x : Dzt) : Prop where
  wt : wtDz x ≤ 1200000
  ok : inDz x
section
variable {t : Tpt} {x : Dzt}
theorem FitT.sum (h : FitT t) : bulkK wtKy t.1 + bulkK wtRl t.2.1 + bulkK wtNn t.2.2.1 + bulkK wtDz t.2.2.2 ≤ 1200000 := h.wt
theorem FitT.keys (h : FitT t) : Ring.bulkT t.1 ≤ 1200000 := by have := h.sum; rw [bulkT_K]; omega
theorem FitT.ruleLen (h : FitT t) : t.2.1.length ≤ 9000000 := by have := h.sum; have := bulkK_len wtRl t.2.1; omega
theorem FitT.ruleWt (h : FitT t) : ∀ y ∈ t.2.1, wtRl y ≤ 9000000 := fun y hy => by have := h.sum; have := bulkK_mem (f := wtRl) hy; omega
theorem FitT.nameLen (h : FitT t) : t.2.2.1.length ≤ 9000000 := by have := h.sum; have := bulkK_len wtNn t.2.2.1; omega
theorem FitT.nameWt (h : FitT t) : ∀ y ∈ t.2.2.1, bulk y ≤ 1200000 := fun y hy => by have := h.sum; have := bulkK_mem (f := wtNn) hy; have : wtNn y = bulk y := rfl; omega
theorem FitT.nameWt9 (h : FitT t) : ∀ y ∈ t.2.2.1, bulk y ≤ 9000000 := fun y hy => Nat.le_trans (h.nameWt y hy) (by decide)
theorem FitT.certLen (h : FitT t) : t.2.2.2.length ≤ 9000000 := by have := h.sum; have := bulkK_len wtDz t.2.2.2; omega
theorem FitT.certs (h : FitT t) : ∀ y ∈ t.2.2.2, FitD y := fun y hy => ⟨by have := h.sum; have := bulkK_mem (f := wtDz) hy; omega, h.ok.2.2.2.2 y hy⟩
theorem FitD.bulk (h : FitD x) : bulkD x ≤ 1200000 := h.wt
theorem FitD.bulk9 (h : FitD x) : bulkD x ≤ 9000000 := Nat.le_trans h.wt (by decide)
theorem FitD.wf (h : FitD x) : WfD x := ⟨h.ok.1.2, h.ok.2.1.2, h.ok.2.2.1.2, h.ok.2.2.2.1, h.ok.2.2.2.2⟩
theorem FitD.name (h : FitD x) : Row.bulk x.1 ≤ 1200000 := by have : Row.bulk x.1 + x.2.1.length + Row.bulk x.2.2.1 ≤ 1200000 := h.wt; omega
theorem FitD.bytes (h : FitD x) : x.2.1.length ≤ 1200000 := by have : Row.bulk x.1 + x.2.1.length + Row.bulk x.2.2.1 ≤ 1200000 := h.wt; omega
theorem FitD.key (h : FitD x) : Row.bulk x.2.2.1 ≤ 1200000 := by have : Row.bulk x.1 + x.2.1.length + Row.bulk x.2.2.1 ≤ 1200000 := h.wt; omega
end
def hasK (T : List Kyt) (m : List ByteArray) : Bool := decide (0 ≤ Ring.ixT (Ring.isN m) T)
def validT (t : Tpt) : Bool := Ring.validK t.1 && validRs t.2.1 && decide (t.2.2.1.length ≤ 8) && decide (t.2.2.2.length ≤ 8) && t.2.2.1.all (hasK t.1) && t.2.2.2.all validD
def certP (T : List Kyt) (n : List ByteArray) (now : Int) (x : Dzt) : Bool := decide (x.1 = n) && decide (now ≤ x.2.2.2.1) && decide (x.2.1 = digK T n) && verD (Ring.lkN T x.2.2.1) x
def findC (t : Tpt) (n : List ByteArray) (now : Int) : Int := if Ring.lkN t.1 n = 0 then -1 else ixL (certP t.1 n now) t.2.2.2
def sigT (t : Tpt) (x : Dzt) : Bool := verD (Ring.lkN t.1 x.2.2.1) x && decide (0 ≤ firstR t.2.1 x.1 x.2.2.1)
def chainT (t : Tpt) (now : Int) : Nat → Dzt → Option (List Nnt)
  | 0, _ => none
  | k + 1, x => if sigT t x = true then (if anchorT t.2.2.1 x.2.2.1 = true then some [x.2.2.1] else if findC t x.2.2.1 now < 0 then none else (chainT t now k (nth t.2.2.2 (findC t x.2.2.1 now).toNat)).map (x.2.2.1 :: ·)) else none
def chT (t : Tpt) (x : Dzt) (now : Int) : List Nnt := (chainT t now 4 x).getD []
def chOk (t : Tpt) (x : Dzt) (now : Int) : Bool := (chainT t now 4 x).isSome
def trusted (t : Tpt) (x : Dzt) (now : Int) : Bool := chOk t x now && validD x
theorem findC_lt (t : Tpt) (n : List ByteArray) (now : Int) : findC t n now < 0 ∨ (findC t n now).toNat < t.2.2.2.length := by
  unfold findC
  split
  · left; decide
  · rcases ixL_lt (certP t.1 n now) t.2.2.2 with h | h <;> omega
end Go.Proofs.YtlhchmjnaanjpaaGreatDoor.Row
