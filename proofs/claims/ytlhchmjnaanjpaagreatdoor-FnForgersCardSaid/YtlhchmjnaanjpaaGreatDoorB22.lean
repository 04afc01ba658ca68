/- Contracts and mathematics, joined: DrawV2. No conditions but those that each states. -/
import Derived.WalkKit
import Derived.Deep.RegionHeld3
import Derived.Test.YtlhchmjnaanjpaaGreatDoorB21
import Derived.Test.YtlhchmjnaanjpaaGreatDoorB4
/- A packet as it is made: its regions (l11Made). What was in memory stays as it was, but for the cursor. -/
namespace Go.Proofs.YtlhchmjnaanjpaaGreatDoor.Draw
open Go.ChangeShapes Go.WideShapes Go.ChangeAt Go.RowKit Go.Instr
open Go.Proofs.YtlhchmjnaanjpaaGreatDoor.Row
open Go.Proofs.YtlhchmjnaanjpaaGreatDoor.Ret (NC Blk Box)
set_option linter.unusedVariables false
set_option maxRecDepth 100000
theorem sN_at2 {B : Nat} {w : World} {x : Option Addr} {n c : Nat} {l : List ByteArray} (h : sN.own B w ⟨x, n, c, l⟩) : kN.At w (.agg #[.slice x n c]) l := by
  have h2 := sN_at h
  rw [kN_strip] at h2
  exact h2
theorem made_parts11 {B B' E : Nat} {w : World} {ya yb yc : Option Addr} {ma da mb db mc dc_ : Nat} {X : Dt} (hB : B ≤ B') (h : kD.In B' E w (.agg #[.slice ya ma da, .slice yb mb db, .slice yc mc dc_, .int .i64 X.2.2.2.1, .int .i64 X.2.2.2.2]) X) :
    sDz.own B w ((⟨ya, ma, da, X.1⟩, ⟨yb, mb, db, X.2.1⟩, ⟨yc, mc, dc_, X.2.2.1⟩, X.2.2.2.1, X.2.2.2.2) : Dzm) ∧ Sl.Own 5 .u8 B w (.slice yb mb db) X.2.1 := by
  refine ⟨sDz.own_mono (sDz_of_kD h) hB, ?_⟩
  obtain ⟨a, b, c, e, ho, -⟩ := kD_in h
  have e2 := congrArg (fun v => match v with | Value.agg cs => cs.toList | _ => []) e
  simp only [List.cons.injEq, and_true] at e2
  obtain ⟨rfl, rfl, rfl⟩ := e2
  exact Sl.Own.mono ho.2.1 hB
theorem sgK_name11 (T : Ring.Kt) (lk ln : List ByteArray) (b : List Int) (u : Int) : (Ring.sgK T lk ln b u).1 = [] ∨ (Ring.sgK T lk ln b u).1 = ln := by
  cases h : Ring.sgOk T lk ln b u with
  | false => rw [Ring.sgK_no h]; exact Or.inl rfl
  | true => rw [Ring.sgK_yes h]; exact Or.inr rfl
theorem sgK_len11 (T : Ring.Kt) (lk ln : List ByteArray) (b : List Int) (u : Int) : (Ring.sgK T lk ln b u).2.1.length ≤ b.length := by
  cases h : Ring.sgOk T lk ln b u with
  | false => rw [Ring.sgK_no h]; exact Nat.zero_le _
  | true => rw [Ring.sgK_yes h]; exact Nat.le_refl _
theorem smD_app11 {X : Dt} (h : smD11 X) (h4 : X.2.1.length ≤ 4) : smD11 (X.1, X.2.1 ++ [1], X.2.2.1, X.2.2.2.1, X.2.2.2.2) := by
  obtain ⟨h1, h2, h3, ⟨k1, ⟨k2, k3⟩, k4, k5, k6⟩⟩ := h
  refine ⟨h1, (show (X.2.1 ++ [1]).length ≤ 100 by simp; omega), h3, k1, ⟨(show (X.2.1 ++ [1]).length ≤ 9223372036854775807 by simp; omega), fun y hy => ?_⟩, k4, k5, k6⟩
  rcases List.mem_append.1 hy with hy | hy
  · exact k3 y hy
  · rw [List.mem_singleton.1 hy]; decide
theorem own_five11 {α M : Type} {k : Kd α M} {B g : Nat} {ty : TypeId} {w : World} {m : M} {cs : Array Value} {a b c d e : Value} (hN : k.NoRow ty) (h : k.own B w m) (hb : Blk w g cs ty) : k.own B ((((((w).setCell ⟨g, 0, none⟩ (a)).setCell ⟨g, 1, none⟩ (b)).setCell ⟨g, 2, none⟩ (c)).setCell ⟨g, 3, none⟩ (d)).setCell ⟨g, 4, none⟩ (e)) m :=
  Kd.own_setT hN (own_four11 hN h hb) ((((hb.set 0 a).set 1 b).set 2 c).set 3 d)
theorem slOwn_other11 {B g i : Nat} {w : World} {u : Value} {y : Option Addr} {m d : Nat} {l : List Int} (h : Sl.Own 5 .u8 B w (.slice y m d) l) {cs : Array Value} {ty : TypeId} (hb : Blk w g cs ty) (hne : 5 ≠ ty) : Sl.Own 5 .u8 B (w.setCell ⟨g, i, none⟩ u) (.slice y m d) l :=
  ownK_single.1 (Kd.own_setT (k := kB) (m := ⟨y, m, d, l⟩) (Kd.noRow_scalar.slice hne) ⟨ownK_single.2 h, fun _ _ => trivial⟩ hb).1
theorem DS.five11 {w0 w W : World} {p g : Nat} {v : Value} {l : List UInt8} {a b c d e : Value} (h : DS w0 p v l w W) (hg : w.heap.size ≤ g) : DS w0 p v l w ((((((W).setCell ⟨g, 0, none⟩ (a)).setCell ⟨g, 1, none⟩ (b)).setCell ⟨g, 2, none⟩ (c)).setCell ⟨g, 3, none⟩ (d)).setCell ⟨g, 4, none⟩ (e)) := (h.four11 hg).set hg
theorem twice11 {G P : Prop} (h : Hid G → P) (g : G) : P := h (Lib.hid g)
set_option maxRecDepth 100000 in
set_option maxHeartbeats 4000000 in
theorem mad6c {Q : Exit → Act → World → Prop} {v1 v2 v4 v5 v7 v9 v10 v11 v12 v13 v14 v15 v16 v17 v18 v19 v20 v21 v22 v23 v24 v25 v26 v27 v28 v29 v30 v31 v32 v33 v34 v35 v36 v37 v38 v39 v40 v41 v42 v43 v44 v45 v46 v47 v48 v49 v50 v51 v52 v53 : Value} {w : World} {w0 : World} {p : Nat} {v : Value} {l : List UInt8} (C0 : Hid (Cur w0 p v l w)) {gt gn gb B nk ck nn cn nb cb : Nat} {V1 V2 V3 : Value} {xk xn xb : Option Addr} {L0 : List Kym} {ln lk : List ByteArray} (XT : Hid (Blk w gt #[.slice xk nk ck, V1, V2, V3] 29)) (XN : Hid (Box w gn (.slice xn nn cn) 32)) (XB : Hid (Box w gb (.slice xb nb cb) 32)) (ON : Hid (sN.own B w ⟨xn, nn, cn, ln⟩)) (OB : Hid (sN.own B w ⟨xb, nb, cb, lk⟩)) (OK : Hid (sLKy.own B w ⟨xk, nk, ck, L0⟩)) (HTP : Hid (gt ≠ p)) (HNP : Hid (gn ≠ p)) (HBP : Hid (gb ≠ p)) (HPB : Hid (p < B)) (HBT : Hid (Ring.bulkT (L0.map kKy.strip) ≤ 1200000)) (HLN : Hid (bulk ln ≤ 1000)) (HLK : Hid (bulk lk ≤ 1000))
  (hQ : ∀ (u34 u35 u36 u37 u38 u39 u40 u41 u42 u43 u44 u45 : Value) (gD ma da mb db mc dc_ : Nat) (ya yb yc : Option Addr) (X : Dt) (ok : Bool) (wx : World), w.heap.size ≤ gD → gD ≠ p → Blk wx gD (dc (.slice none 0 0) (.slice none 0 0) (.slice none 0 0) 0 0) 34 → sDz.own w.heap.size wx (⟨ya, ma, da, X.1⟩, ⟨yb, mb, db, X.2.1⟩, ⟨yc, mc, dc_, X.2.2.1⟩, X.2.2.2.1, X.2.2.2.2) → Sl.Own 5 .u8 w.heap.size wx (.slice yb mb db) X.2.1 → smD11 X → (X.1 = [] ∨ X.1 = ln) → X.2.1.length ≤ 4 → Cur w0 p v l wx → Keep p w wx → Q .normal ⟨#[.pointer (some ⟨p, 0, none⟩), v1, v2, .pointer (some ⟨gt, 0, none⟩), v4, v5, .pointer (some ⟨gn, 0, none⟩), v7, .pointer (some ⟨gb, 0, none⟩), .pointer (some ⟨gD, 0, none⟩), .bool ok, v11, v12, v13, v14, v15, v16, v17, v18, v19, v20, v21, v22, v23, v24, v25, v26, v27, v28, v29, v30, v31, v32, v33, u34, u35, u36, u37, u38, u39, u40, u41, u42, u43, u44, u45, v46, v47, v48, v49, v50, v51, v52, v53], []⟩ ((((((wx).setCell ⟨gD, 0, none⟩ (.slice ya ma da)).setCell ⟨gD, 1, none⟩ (.slice yb mb db)).setCell ⟨gD, 2, none⟩ (.slice yc mc dc_)).setCell ⟨gD, 3, none⟩ (.int .i64 X.2.2.2.1)).setCell ⟨gD, 4, none⟩ (.int .i64 X.2.2.2.2))) :
  (Code.region 6 #[⟨some 35, .fieldAddr 29 (.tmp 3) 0, 0, "l11_trust.go:128", #[], none⟩,
   ⟨some 36, .load 24 (.tmp 35), 24, "l11_trust.go:128", #[⟨0, .data⟩], none⟩,
   ⟨some 37, .load 32 (.tmp 8), 32, "l11_trust.go:128", #[], none⟩,
   ⟨some 38, .load 32 (.tmp 6), 32, "l11_trust.go:128", #[], none⟩,
   ⟨some 39, .move (.tmp 0), 72, "l11_trust.go:128", #[], none⟩,
   ⟨some 40, .move (.tmp 0), 72, "l11_trust.go:128", #[], none⟩,
   ⟨some 41, .call ⟨.value (.func 87), #[.tmp 40, .const (Value.int IntKind.i64 4)], #[72, 3]⟩, 3, "l11_trust.go:128", #[⟨5, .data⟩], none⟩,
   ⟨some 42, .call ⟨.value (.func 122), #[.tmp 39, .tmp 41], #[72, 3]⟩, 22, "l11_trust.go:128", #[⟨4, .data⟩, ⟨6, .data⟩, ⟨6, .chain⟩], none⟩,
   ⟨some 43, .call ⟨.value (.func 47), #[.tmp 36, .tmp 37, .tmp 38, .tmp 42, .const (Value.int IntKind.i64 4000)], #[24, 32, 32, 22, 3]⟩, 46, "l11_trust.go:128", #[⟨1, .data⟩, ⟨2, .data⟩, ⟨3, .data⟩, ⟨7, .data⟩, ⟨7, .chain⟩], none⟩,
   ⟨some 34, .move (.tmp 43), 46, "l11_trust.go:128", #[⟨8, .data⟩], none⟩,
   ⟨some 44, .extract (.tmp 34) 0, 34, "l11_trust.go:128", #[⟨9, .data⟩], none⟩,
   ⟨some 45, .extract (.tmp 34) 1, 4, "l11_trust.go:128", #[⟨9, .data⟩, { on := 13, ground := Ground.gcOnly Departure.lateStores }], none⟩,
   ⟨some 9, .alloc 34, 0, "l11_trust.go:128", #[], none⟩,
   ⟨none, .store 34 (.tmp 9) (.tmp 44), 0, "l11_trust.go:128", #[⟨12, .data⟩, ⟨10, .data⟩, ⟨8, .chain⟩, ⟨0, .phase⟩, ⟨1, .phase⟩, ⟨2, .phase⟩, ⟨3, .phase⟩, ⟨4, .phase⟩, ⟨5, .phase⟩, ⟨6, .phase⟩, ⟨7, .phase⟩, ⟨8, .phase⟩, ⟨9, .phase⟩, ⟨10, .phase⟩, { on := 11, ground := Ground.textOnly Departure.lateStores }, ⟨12, .phase⟩], none⟩,
   ⟨some 10, .assign (.tmp 45), 4, "l11_trust.go:128", #[⟨11, .data⟩, ⟨13, .chain⟩, ⟨0, .phase⟩, ⟨1, .phase⟩, ⟨2, .phase⟩, ⟨3, .phase⟩, ⟨4, .phase⟩, ⟨5, .phase⟩, ⟨6, .phase⟩, ⟨7, .phase⟩, ⟨8, .phase⟩, ⟨9, .phase⟩, ⟨10, .phase⟩, ⟨11, .phase⟩, ⟨12, .phase⟩, ⟨13, .phase⟩], none⟩] true).wp Tryz.prog Q ⟨#[.pointer (some ⟨p, 0, none⟩), v1, v2, .pointer (some ⟨gt, 0, none⟩), v4, v5, .pointer (some ⟨gn, 0, none⟩), v7, .pointer (some ⟨gb, 0, none⟩), v9, v10, v11, v12, v13, v14, v15, v16, v17, v18, v19, v20, v21, v22, v23, v24, v25, v26, v27, v28, v29, v30, v31, v32, v33, v34, v35, v36, v37, v38, v39, v40, v41, v42, v43, v44, v45, v46, v47, v48, v49, v50, v51, v52, v53], []⟩ w := by
 have HQ := Lib.hid hQ; clear hQ
 have CP := Lib.hid C0.out.lt
 have HTL := Lib.hid XT.out.lt; have HBL := Lib.hid XB.out.lt; have HNL := Lib.hid XN.out.lt
 apply twice11; intro T1
 apply twice11; intro T2
 apply twice11; intro T3
 ·
  have hb : Below w.heap.size w w.drew := (Below.refl _ _).drew
  replace XT := Lib.hid (XT.out.on hb)
  replace XN := Lib.hid (XN.out.on hb)
  replace XB := Lib.hid (XB.out.on hb)
  replace ON := Lib.hid (Kd.own_on ON.out hb)
  replace OB := Lib.hid (Kd.own_on OB.out hb)
  replace OK := Lib.hid (Kd.own_on OK.out hb)
  have C := Lib.hid (C0.out.on hb)
  have BK := Lib.hid (Keep.of_below (p := p) hb)
  have BS := Lib.hid (show w.heap.size ≤ w.drew.heap.size from hb.size)
  clear hb
  refine wp_region_noPanic ?_
  refine wp_region_held_drew (S := (fun w' => w'.cell? ⟨gt, 0, none⟩ = some (.slice xk nk ck) ∧ w'.cell? ⟨gb, 0, none⟩ = some (.slice xb nb cb) ∧ w'.cell? ⟨gn, 0, none⟩ = some (.slice xn nn cn))) (by kernel_rfl) ?_ (fun hHeld => ?_)
  ·
   exact ⟨XT.out.cell 0, XB.out.cell, XN.out.cell⟩
  generalize w.drew = wd at *
  refine wpAnyH_take (i := 0) (oi := ⟨some 35, .fieldAddr 29 (.tmp 3) 0, 0, "l11_trust.go:128", #[], none⟩) (v := ?_) rfl (by kernel_rfl) (by kernel_rfl) (by kernel_rfl) (fun _ _ _ h => h) (Or.inl ⟨by rfl, ?_⟩) (by assumption) ?_
  rotate_left
  ·
   intro w' hSw; (try dsimp only at hSw); first | (go_simp; done) | (go_simp; with_reducible rfl)
  (try simp only [Act.put, Row.pB0, Row.pB1, Row.pB2])
  refine wpAnyH_take (i := 1) (oi := ⟨some 36, .load 24 (.tmp 35), 24, "l11_trust.go:128", #[⟨0, .data⟩], none⟩) (v := ?_) rfl (by kernel_rfl) (by kernel_rfl) (by kernel_rfl) (fun _ _ _ h => h) (Or.inl ⟨by rfl, ?_⟩) (by assumption) ?_
  rotate_left
  ·
   intro w' hSw; (try dsimp only at hSw); first | (go_simp; done) | (go_simp; with_reducible rfl)
  (try simp only [Act.put, Row.pB0, Row.pB1, Row.pB2])
  refine wpAnyH_take (i := 2) (oi := ⟨some 37, .load 32 (.tmp 8), 32, "l11_trust.go:128", #[], none⟩) (v := ?_) rfl (by kernel_rfl) (by kernel_rfl) (by kernel_rfl) (fun _ _ _ h => h) (Or.inl ⟨by rfl, ?_⟩) (by assumption) ?_
  rotate_left
  ·
   intro w' hSw; (try dsimp only at hSw); first | (go_simp; done) | (go_simp; with_reducible rfl)
  (try simp only [Act.put, Row.pB0, Row.pB1, Row.pB2])
  refine wpAnyH_take (i := 3) (oi := ⟨some 38, .load 32 (.tmp 6), 32, "l11_trust.go:128", #[], none⟩) (v := ?_) rfl (by kernel_rfl) (by kernel_rfl) (by kernel_rfl) (fun _ _ _ h => h) (Or.inl ⟨by rfl, ?_⟩) (by assumption) ?_
  rotate_left
  ·
   intro w' hSw; (try dsimp only at hSw); first | (go_simp; done) | (go_simp; with_reducible rfl)
  (try simp only [Act.put, Row.pB0, Row.pB1, Row.pB2])
  refine wpAnyH_take (i := 4) (oi := ⟨some 39, .move (.tmp 0), 72, "l11_trust.go:128", #[], none⟩) (v := ?_) rfl (by kernel_rfl) (by kernel_rfl) (by kernel_rfl) (fun _ _ _ h => h) (Or.inl ⟨by rfl, ?_⟩) (by assumption) ?_
  rotate_left
  ·
   intro w' hSw; (try dsimp only at hSw); first | (go_simp; done) | (go_simp; with_reducible rfl)
  (try simp only [Act.put, Row.pB0, Row.pB1, Row.pB2])
  refine wpAnyH_take (i := 5) (oi := ⟨some 40, .move (.tmp 0), 72, "l11_trust.go:128", #[], none⟩) (v := ?_) rfl (by kernel_rfl) (by kernel_rfl) (by kernel_rfl) (fun _ _ _ h => h) (Or.inl ⟨by rfl, ?_⟩) (by assumption) ?_
  rotate_left
  ·
   intro w' hSw; (try dsimp only at hSw); first | (go_simp; done) | (go_simp; with_reducible rfl)
  (try simp only [Act.put, Row.pB0, Row.pB1, Row.pB2])
  refine wpAnyH_ready (rs := [6, 12]) (by kernel_rfl) (by simp) ?_
  refine AllReadyH.cons (o := ⟨some 41, .call ⟨.value (.func 87), #[.tmp 40, .const (Value.int IntKind.i64 4)], #[72, 3]⟩, 3, "l11_trust.go:128", #[⟨5, .data⟩], none⟩) rfl (fun K hK => ?_) ?_
  ·
   go_simp
   refine (below w0 p v l _ 4 C.out).mono ?_
   rintro e wn1 ⟨y, rfl, ⟨r4, rfl, hr, -⟩, hc, hk⟩
   replace hr := hr (by omega)
   obtain ⟨k4, rfl⟩ := Int.eq_ofNat_of_zero_le hr.1
   have HK4 := Lib.hid (show k4 ≤ 3 by omega)
   clear hr
   replace XT := Lib.hid (blk_keep XT.out hk HTP.out)
   replace XN := Lib.hid (box_keep XN.out hk HNP.out)
   replace XB := Lib.hid (box_keep XB.out hk HBP.out)
   replace ON := Lib.hid (Kd.own_cur ON.out hk HPB.out)
   replace OB := Lib.hid (Kd.own_cur OB.out hk HPB.out)
   replace OK := Lib.hid (Kd.own_cur OK.out hk HPB.out)
   replace C := Lib.hid hc; replace BK := Lib.hid (BK.out.trans hk); replace BS := Lib.hid (Nat.le_trans BS.out hk.size); clear hc hk
   (try go_wp2_with fail)
   clear hHeld
   refine hK.out _ _ ?_ (fun hHeld => ?_)
   ·
    (try dsimp only); exact ⟨XT.out.cell 0, XB.out.cell, XN.out.cell⟩
   clear hK K
   (try simp only [Act.put, Row.pB0, Row.pB1, Row.pB2])
   refine wpAnyH_ready (rs := [7, 12]) (by kernel_rfl) (by simp) ?_
   refine AllReadyH.cons (o := ⟨some 42, .call ⟨.value (.func 122), #[.tmp 39, .tmp 41], #[72, 3]⟩, 22, "l11_trust.go:128", #[⟨4, .data⟩, ⟨6, .data⟩, ⟨6, .chain⟩], none⟩) rfl (fun K hK => ?_) ?_
   ·
    go_simp
    refine (bytes w0 p v l _ k4 (by have := HK4.out; omega) C.out).mono ?_
    rintro e wn2 ⟨y, rfl, ⟨lb, ho, hy, -, hm⟩, hc, hk⟩
    replace ho := Row.Own.shapeN (enc := Value.int .u8) ho
    obtain ⟨xD, nD, cD, rfl, -, -, ho⟩ := ho
    have OD := Lib.hid (show Sl.Own 5 .u8 w.heap.size wn2 (.slice xD nD cD) lb from Sl.Own.mono ho BS.out)
    have HYB := Lib.hid hy; have HMB := Lib.hid (show lb.length ≤ 4 by have := HK4.out; omega); clear ho hy hm
    replace XT := Lib.hid (blk_keep XT.out hk HTP.out)
    replace XN := Lib.hid (box_keep XN.out hk HNP.out)
    replace XB := Lib.hid (box_keep XB.out hk HBP.out)
    replace ON := Lib.hid (Kd.own_cur ON.out hk HPB.out)
    replace OB := Lib.hid (Kd.own_cur OB.out hk HPB.out)
    replace OK := Lib.hid (Kd.own_cur OK.out hk HPB.out)
    replace C := Lib.hid hc; replace BK := Lib.hid (BK.out.trans hk); replace BS := Lib.hid (Nat.le_trans BS.out hk.size); clear hc hk
    (try go_wp2_with fail)
    clear hHeld
    refine hK.out _ _ ?_ (fun hHeld => ?_)
    ·
     (try dsimp only); exact ⟨XT.out.cell 0, XB.out.cell, XN.out.cell⟩
    clear hK K
    (try simp only [Act.put, Row.pB0, Row.pB1, Row.pB2])
    refine wpAnyH_ready (rs := [8, 12]) (by kernel_rfl) (by simp) ?_
    refine AllReadyH.cons (o := ⟨some 43, .call ⟨.value (.func 47), #[.tmp 36, .tmp 37, .tmp 38, .tmp 42, .const (Value.int IntKind.i64 4000)], #[24, 32, 32, 22, 3]⟩, 46, "l11_trust.go:128", #[⟨1, .data⟩, ⟨2, .data⟩, ⟨3, .data⟩, ⟨7, .data⟩, ⟨7, .chain⟩], none⟩) rfl (fun K hK => ?_) ?_
    ·
     go_simp
     refine (Ring.specSignWithKeyK _ _ _ _ (L0.map kKy.strip) lk ln lb 4000 _ (kK_ofK (sLKy_at OK.out)) (sN_at2 OB.out) (sN_at2 ON.out) (kB_of (Sl.Own.holds OD.out)) HYB.out HBT.out (Nat.le_trans HLK.out (by decide)) (Nat.le_trans HLN.out (by decide)) (Nat.le_trans HMB.out (by decide))).mono ?_
     rintro e wn3 ⟨vx, rfl, ho, hb⟩
     obtain ⟨ya, ma, da, yb, mb, db, yc, mc, dc_, rfl, ho2⟩ := kD_shape ho
     clear ho
     obtain ⟨hX, hXC⟩ := made_parts11 BS.out ho2
     have HSMx := sgK_small (T := L0.map kKy.strip) (lk := lk) (ln := ln) (b := lb) (u := 4000) HLK.out HLN.out (Nat.le_trans HMB.out (by decide)) (wfB HYB.out) (by decide)
     have HXx := sgK_name11 (L0.map kKy.strip) lk ln lb 4000
     have HXy := Nat.le_trans (sgK_len11 (L0.map kKy.strip) lk ln lb 4000) HMB.out
     clear ho2
     obtain ⟨ok, hok⟩ : ∃ ok, (Ring.sgOk (L0.map kKy.strip) lk ln lb 4000) = ok := ⟨_, rfl⟩
     rw [hok]
     obtain ⟨X, hXX⟩ : ∃ X, (Ring.sgK (L0.map kKy.strip) lk ln lb 4000) = X := ⟨_, rfl⟩
     rw [hXX] at hX hXC HSMx HXx HXy ⊢
     have HX := Lib.hid hX; have HXC := Lib.hid hXC; have HSM := Lib.hid HSMx; have HX1 := Lib.hid HXx; have HX4 := Lib.hid HXy
     clear hok hXX hX hXC HSMx HXx HXy
     replace XT := Lib.hid (XT.out.on hb)
     replace XN := Lib.hid (XN.out.on hb)
     replace XB := Lib.hid (XB.out.on hb)
     replace ON := Lib.hid (Kd.own_on ON.out hb)
     replace OB := Lib.hid (Kd.own_on OB.out hb)
     replace OK := Lib.hid (Kd.own_on OK.out hb)
     replace OD := Lib.hid (OD.out.on hb)
     replace C := Lib.hid (C.out.on hb); replace BK := Lib.hid (BK.out.trans (Keep.of_below hb)); replace BS := Lib.hid (Nat.le_trans BS.out hb.size); clear hb
     (try go_wp2_with fail)
     clear hHeld
     refine hK.out _ _ ?_ (fun hHeld => ?_)
     ·
      (try dsimp only); exact ⟨XT.out.cell 0, XB.out.cell, XN.out.cell⟩
     clear hK K
     (try simp only [Act.put, Row.pB0, Row.pB1, Row.pB2])
     refine wpAnyH_take (i := 9) (oi := ⟨some 34, .move (.tmp 43), 46, "l11_trust.go:128", #[⟨8, .data⟩], none⟩) (v := ?_) rfl (by kernel_rfl) (by kernel_rfl) (by kernel_rfl) (fun _ _ _ h => h) (Or.inl ⟨by rfl, ?_⟩) (by assumption) ?_
     rotate_left
     ·
      intro w' hSw; (try dsimp only at hSw); first | (go_simp; done) | (go_simp; with_reducible rfl)
     (try simp only [Act.put, Row.pB0, Row.pB1, Row.pB2])
     refine wpAnyH_take (i := 10) (oi := ⟨some 44, .extract (.tmp 34) 0, 34, "l11_trust.go:128", #[⟨9, .data⟩], none⟩) (v := ?_) rfl (by kernel_rfl) (by kernel_rfl) (by kernel_rfl) (fun _ _ _ h => h) (Or.inl ⟨by rfl, ?_⟩) (by assumption) ?_
     rotate_left
     ·
      intro w' hSw; (try dsimp only at hSw); first | (go_simp; done) | (go_simp; with_reducible rfl)
     (try simp only [Act.put, Row.pB0, Row.pB1, Row.pB2])
     refine wpAnyH_take (i := 11) (oi := ⟨some 45, .extract (.tmp 34) 1, 4, "l11_trust.go:128", #[⟨9, .data⟩, { on := 13, ground := Ground.gcOnly Departure.lateStores }], none⟩) (v := ?_) rfl (by kernel_rfl) (by kernel_rfl) (by kernel_rfl) (fun _ _ _ h => h) (Or.inl ⟨by rfl, ?_⟩) (by assumption) ?_
     rotate_left
     ·
      intro w' hSw; (try dsimp only at hSw); first | (go_simp; done) | (go_simp; with_reducible rfl)
     (try simp only [Act.put, Row.pB0, Row.pB1, Row.pB2])
     refine wpAnyH_ready (rs := [12]) (by kernel_rfl) (by simp) ?_
     refine AllReadyH.cons (o := ⟨some 9, .alloc 34, 0, "l11_trust.go:128", #[], none⟩) rfl (fun K hK => ?_) AllReadyH.nil
     go_simp
     have hb : Below wn3.heap.size wn3 (wn3.alloc (.cells #[.slice none 0 0, .slice none 0 0, .slice none 0 0, .int .i64 0, .int .i64 0] 34)) := (Below.refl _ _).alloc (Nat.le_refl _) _
     obtain ⟨gD, hgD⟩ : ∃ b, b = wn3.heap.size := ⟨_, rfl⟩
     have HDP := Lib.hid (show gD ≠ p from by rw [hgD]; have h1 := CP.out; have h2 := BS.out; omega)
     have HDW := Lib.hid (show w.heap.size ≤ gD from by rw [hgD]; exact BS.out)
     have XD := Lib.hid (show Blk _ gD (dc (.slice none 0 0) (.slice none 0 0) (.slice none 0 0) 0 0) 34 from by rw [hgD]; exact Blk.new wn3 _ _)
     rw [← hgD]
     clear hgD
     replace XT := Lib.hid (XT.out.on hb)
     replace XN := Lib.hid (XN.out.on hb)
     replace XB := Lib.hid (XB.out.on hb)
     replace ON := Lib.hid (Kd.own_on ON.out hb)
     replace OB := Lib.hid (Kd.own_on OB.out hb)
     replace OK := Lib.hid (Kd.own_on OK.out hb)
     replace OD := Lib.hid (OD.out.on hb)
     replace HX := Lib.hid (Kd.own_on HX.out hb)
     replace HXC := Lib.hid (HXC.out.on hb)
     replace C := Lib.hid (C.out.on hb); replace BK := Lib.hid (BK.out.trans (Keep.of_below hb)); replace BS := Lib.hid (Nat.le_trans BS.out hb.size); clear hb
     generalize wn3.alloc (.cells #[.slice none 0 0, .slice none 0 0, .slice none 0 0, .int .i64 0, .int .i64 0] 34) = wn4 at *
     clear hHeld
     refine hK.out _ _ ?_ (fun hHeld => ?_)
     ·
      (try dsimp only); exact ⟨XT.out.cell 0, XB.out.cell, XN.out.cell⟩
     clear hK K
     (try simp only [Act.put, Row.pB0, Row.pB1, Row.pB2])
     revert C; revert BK; revert BS; revert hHeld; revert XT; revert XN; revert XB; revert ON; revert OB; revert OK; revert OD; revert HX; revert HXC; revert XD; revert HK4; revert HYB; revert HMB; revert HSM; revert HX1; revert HX4; revert HDP; revert HDW; revert k4; revert xD; revert nD; revert cD; revert lb; revert ya; revert ma; revert da; revert yb; revert mb; revert db; revert yc; revert mc; revert dc_; revert X; revert ok; revert gD; revert wn4
     exact T1.out
    refine AllReadyH.cons (o := ⟨some 9, .alloc 34, 0, "l11_trust.go:128", #[], none⟩) rfl (fun K hK => ?_) AllReadyH.nil
    go_simp
    have hb : Below wn2.heap.size wn2 (wn2.alloc (.cells #[.slice none 0 0, .slice none 0 0, .slice none 0 0, .int .i64 0, .int .i64 0] 34)) := (Below.refl _ _).alloc (Nat.le_refl _) _
    obtain ⟨gD, hgD⟩ : ∃ b, b = wn2.heap.size := ⟨_, rfl⟩
    have HDP := Lib.hid (show gD ≠ p from by rw [hgD]; have h1 := CP.out; have h2 := BS.out; omega)
    have HDW := Lib.hid (show w.heap.size ≤ gD from by rw [hgD]; exact BS.out)
    have XD := Lib.hid (show Blk _ gD (dc (.slice none 0 0) (.slice none 0 0) (.slice none 0 0) 0 0) 34 from by rw [hgD]; exact Blk.new wn2 _ _)
    rw [← hgD]
    clear hgD
    replace XT := Lib.hid (XT.out.on hb)
    replace XN := Lib.hid (XN.out.on hb)
    replace XB := Lib.hid (XB.out.on hb)
    replace ON := Lib.hid (Kd.own_on ON.out hb)
    replace OB := Lib.hid (Kd.own_on OB.out hb)
    replace OK := Lib.hid (Kd.own_on OK.out hb)
    replace OD := Lib.hid (OD.out.on hb)
    replace C := Lib.hid (C.out.on hb); replace BK := Lib.hid (BK.out.trans (Keep.of_below hb)); replace BS := Lib.hid (Nat.le_trans BS.out hb.size); clear hb
    generalize wn2.alloc (.cells #[.slice none 0 0, .slice none 0 0, .slice none 0 0, .int .i64 0, .int .i64 0] 34) = wn5 at *
    clear hHeld
    refine hK.out _ _ ?_ (fun hHeld => ?_)
    ·
     (try dsimp only); exact ⟨XT.out.cell 0, XB.out.cell, XN.out.cell⟩
    clear hK K
    (try simp only [Act.put, Row.pB0, Row.pB1, Row.pB2])
    revert C; revert BK; revert BS; revert hHeld; revert XT; revert XN; revert XB; revert ON; revert OB; revert OK; revert OD; revert XD; revert HK4; revert HYB; revert HMB; revert HDP; revert HDW; revert k4; revert xD; revert nD; revert cD; revert lb; revert gD; revert wn5
    exact T2.out
   refine AllReadyH.cons (o := ⟨some 9, .alloc 34, 0, "l11_trust.go:128", #[], none⟩) rfl (fun K hK => ?_) AllReadyH.nil
   go_simp
   have hb : Below wn1.heap.size wn1 (wn1.alloc (.cells #[.slice none 0 0, .slice none 0 0, .slice none 0 0, .int .i64 0, .int .i64 0] 34)) := (Below.refl _ _).alloc (Nat.le_refl _) _
   obtain ⟨gD, hgD⟩ : ∃ b, b = wn1.heap.size := ⟨_, rfl⟩
   have HDP := Lib.hid (show gD ≠ p from by rw [hgD]; have h1 := CP.out; have h2 := BS.out; omega)
   have HDW := Lib.hid (show w.heap.size ≤ gD from by rw [hgD]; exact BS.out)
   have XD := Lib.hid (show Blk _ gD (dc (.slice none 0 0) (.slice none 0 0) (.slice none 0 0) 0 0) 34 from by rw [hgD]; exact Blk.new wn1 _ _)
   rw [← hgD]
   clear hgD
   replace XT := Lib.hid (XT.out.on hb)
   replace XN := Lib.hid (XN.out.on hb)
   replace XB := Lib.hid (XB.out.on hb)
   replace ON := Lib.hid (Kd.own_on ON.out hb)
   replace OB := Lib.hid (Kd.own_on OB.out hb)
   replace OK := Lib.hid (Kd.own_on OK.out hb)
   replace C := Lib.hid (C.out.on hb); replace BK := Lib.hid (BK.out.trans (Keep.of_below hb)); replace BS := Lib.hid (Nat.le_trans BS.out hb.size); clear hb
   generalize wn1.alloc (.cells #[.slice none 0 0, .slice none 0 0, .slice none 0 0, .int .i64 0, .int .i64 0] 34) = wn6 at *
   clear hHeld
   refine hK.out _ _ ?_ (fun hHeld => ?_)
   ·
    (try dsimp only); exact ⟨XT.out.cell 0, XB.out.cell, XN.out.cell⟩
   clear hK K
   (try simp only [Act.put, Row.pB0, Row.pB1, Row.pB2])
   revert C; revert BK; revert BS; revert hHeld; revert XT; revert XN; revert XB; revert ON; revert OB; revert OK; revert XD; revert HK4; revert HDP; revert HDW; revert k4; revert gD; revert wn6
   exact T3.out
  refine AllReadyH.cons (o := ⟨some 9, .alloc 34, 0, "l11_trust.go:128", #[], none⟩) rfl (fun K hK => ?_) AllReadyH.nil
  go_simp
  have hb : Below wd.heap.size wd (wd.alloc (.cells #[.slice none 0 0, .slice none 0 0, .slice none 0 0, .int .i64 0, .int .i64 0] 34)) := (Below.refl _ _).alloc (Nat.le_refl _) _
  obtain ⟨gD, hgD⟩ : ∃ b, b = wd.heap.size := ⟨_, rfl⟩
  have HDP := Lib.hid (show gD ≠ p from by rw [hgD]; have h1 := CP.out; have h2 := BS.out; omega)
  have HDW := Lib.hid (show w.heap.size ≤ gD from by rw [hgD]; exact BS.out)
  have XD := Lib.hid (show Blk _ gD (dc (.slice none 0 0) (.slice none 0 0) (.slice none 0 0) 0 0) 34 from by rw [hgD]; exact Blk.new wd _ _)
  rw [← hgD]
  clear hgD
  replace XT := Lib.hid (XT.out.on hb)
  replace XN := Lib.hid (XN.out.on hb)
  replace XB := Lib.hid (XB.out.on hb)
  replace ON := Lib.hid (Kd.own_on ON.out hb)
  replace OB := Lib.hid (Kd.own_on OB.out hb)
  replace OK := Lib.hid (Kd.own_on OK.out hb)
  replace C := Lib.hid (C.out.on hb); replace BK := Lib.hid (BK.out.trans (Keep.of_below hb)); replace BS := Lib.hid (Nat.le_trans BS.out hb.size); clear hb
  generalize wd.alloc (.cells #[.slice none 0 0, .slice none 0 0, .slice none 0 0, .int .i64 0, .int .i64 0] 34) = wn7 at *
  clear hHeld
  refine hK.out _ _ ?_ (fun hHeld => ?_)
  ·
   (try dsimp only); exact ⟨XT.out.cell 0, XB.out.cell, XN.out.cell⟩
  clear hK K
  (try simp only [Act.put, Row.pB0, Row.pB1, Row.pB2])
  refine wpAnyH_ready (rs := [6]) (by kernel_rfl) (by simp) ?_
  refine AllReadyH.cons (o := ⟨some 41, .call ⟨.value (.func 87), #[.tmp 40, .const (Value.int IntKind.i64 4)], #[72, 3]⟩, 3, "l11_trust.go:128", #[⟨5, .data⟩], none⟩) rfl (fun K hK => ?_) AllReadyH.nil
  go_simp
  refine (below w0 p v l _ 4 C.out).mono ?_
  rintro e wn8 ⟨y, rfl, ⟨r4, rfl, hr, -⟩, hc, hk⟩
  replace hr := hr (by omega)
  obtain ⟨k4, rfl⟩ := Int.eq_ofNat_of_zero_le hr.1
  have HK4 := Lib.hid (show k4 ≤ 3 by omega)
  clear hr
  replace XT := Lib.hid (blk_keep XT.out hk HTP.out)
  replace XN := Lib.hid (box_keep XN.out hk HNP.out)
  replace XB := Lib.hid (box_keep XB.out hk HBP.out)
  replace ON := Lib.hid (Kd.own_cur ON.out hk HPB.out)
  replace OB := Lib.hid (Kd.own_cur OB.out hk HPB.out)
  replace OK := Lib.hid (Kd.own_cur OK.out hk HPB.out)
  replace XD := Lib.hid (blk_keep XD.out hk HDP.out)
  replace C := Lib.hid hc; replace BK := Lib.hid (BK.out.trans hk); replace BS := Lib.hid (Nat.le_trans BS.out hk.size); clear hc hk
  (try go_wp2_with fail)
  clear hHeld
  refine hK.out _ _ ?_ (fun hHeld => ?_)
  ·
   (try dsimp only); exact ⟨XT.out.cell 0, XB.out.cell, XN.out.cell⟩
  clear hK K
  (try simp only [Act.put, Row.pB0, Row.pB1, Row.pB2])
  revert C; revert BK; revert BS; revert hHeld; revert XT; revert XN; revert XB; revert ON; revert OB; revert OK; revert XD; revert HK4; revert HDP; revert HDW; revert k4; revert gD; revert wn8
  exact T3.out
 ·
  intro wn9 gD k4 HDW HDP HK4 XD OK OB ON XB XN XT hHeld BS BK C
  refine wpAnyH_ready (rs := [7]) (by kernel_rfl) (by simp) ?_
  refine AllReadyH.cons (o := ⟨some 42, .call ⟨.value (.func 122), #[.tmp 39, .tmp 41], #[72, 3]⟩, 22, "l11_trust.go:128", #[⟨4, .data⟩, ⟨6, .data⟩, ⟨6, .chain⟩], none⟩) rfl (fun K hK => ?_) AllReadyH.nil
  go_simp
  refine (bytes w0 p v l _ k4 (by have := HK4.out; omega) C.out).mono ?_
  rintro e wn10 ⟨y, rfl, ⟨lb, ho, hy, -, hm⟩, hc, hk⟩
  replace ho := Row.Own.shapeN (enc := Value.int .u8) ho
  obtain ⟨xD, nD, cD, rfl, -, -, ho⟩ := ho
  have OD := Lib.hid (show Sl.Own 5 .u8 w.heap.size wn10 (.slice xD nD cD) lb from Sl.Own.mono ho BS.out)
  have HYB := Lib.hid hy; have HMB := Lib.hid (show lb.length ≤ 4 by have := HK4.out; omega); clear ho hy hm
  replace XT := Lib.hid (blk_keep XT.out hk HTP.out)
  replace XN := Lib.hid (box_keep XN.out hk HNP.out)
  replace XB := Lib.hid (box_keep XB.out hk HBP.out)
  replace ON := Lib.hid (Kd.own_cur ON.out hk HPB.out)
  replace OB := Lib.hid (Kd.own_cur OB.out hk HPB.out)
  replace OK := Lib.hid (Kd.own_cur OK.out hk HPB.out)
  replace XD := Lib.hid (blk_keep XD.out hk HDP.out)
  replace C := Lib.hid hc; replace BK := Lib.hid (BK.out.trans hk); replace BS := Lib.hid (Nat.le_trans BS.out hk.size); clear hc hk
  (try go_wp2_with fail)
  clear hHeld
  refine hK.out _ _ ?_ (fun hHeld => ?_)
  ·
   (try dsimp only); exact ⟨XT.out.cell 0, XB.out.cell, XN.out.cell⟩
  clear hK K
  (try simp only [Act.put, Row.pB0, Row.pB1, Row.pB2])
  revert C; revert BK; revert BS; revert hHeld; revert XT; revert XN; revert XB; revert ON; revert OB; revert OK; revert OD; revert XD; revert HK4; revert HYB; revert HMB; revert HDP; revert HDW; revert k4; revert xD; revert nD; revert cD; revert lb; revert gD; revert wn10
  exact T2.out
 ·
  intro wn11 gD lb cD nD xD k4 HDW HDP HMB HYB HK4 XD OD OK OB ON XB XN XT hHeld BS BK C
  refine wpAnyH_ready (rs := [8]) (by kernel_rfl) (by simp) ?_
  refine AllReadyH.cons (o := ⟨some 43, .call ⟨.value (.func 47), #[.tmp 36, .tmp 37, .tmp 38, .tmp 42, .const (Value.int IntKind.i64 4000)], #[24, 32, 32, 22, 3]⟩, 46, "l11_trust.go:128", #[⟨1, .data⟩, ⟨2, .data⟩, ⟨3, .data⟩, ⟨7, .data⟩, ⟨7, .chain⟩], none⟩) rfl (fun K hK => ?_) AllReadyH.nil
  go_simp
  refine (Ring.specSignWithKeyK _ _ _ _ (L0.map kKy.strip) lk ln lb 4000 _ (kK_ofK (sLKy_at OK.out)) (sN_at2 OB.out) (sN_at2 ON.out) (kB_of (Sl.Own.holds OD.out)) HYB.out HBT.out (Nat.le_trans HLK.out (by decide)) (Nat.le_trans HLN.out (by decide)) (Nat.le_trans HMB.out (by decide))).mono ?_
  rintro e wn12 ⟨vx, rfl, ho, hb⟩
  obtain ⟨ya, ma, da, yb, mb, db, yc, mc, dc_, rfl, ho2⟩ := kD_shape ho
  clear ho
  obtain ⟨hX, hXC⟩ := made_parts11 BS.out ho2
  have HSMx := sgK_small (T := L0.map kKy.strip) (lk := lk) (ln := ln) (b := lb) (u := 4000) HLK.out HLN.out (Nat.le_trans HMB.out (by decide)) (wfB HYB.out) (by decide)
  have HXx := sgK_name11 (L0.map kKy.strip) lk ln lb 4000
  have HXy := Nat.le_trans (sgK_len11 (L0.map kKy.strip) lk ln lb 4000) HMB.out
  clear ho2
  obtain ⟨ok, hok⟩ : ∃ ok, (Ring.sgOk (L0.map kKy.strip) lk ln lb 4000) = ok := ⟨_, rfl⟩
  rw [hok]
  obtain ⟨X, hXX⟩ : ∃ X, (Ring.sgK (L0.map kKy.strip) lk ln lb 4000) = X := ⟨_, rfl⟩
  rw [hXX] at hX hXC HSMx HXx HXy ⊢
  have HX := Lib.hid hX; have HXC := Lib.hid hXC; have HSM := Lib.hid HSMx; have HX1 := Lib.hid HXx; have HX4 := Lib.hid HXy
  clear hok hXX hX hXC HSMx HXx HXy
  replace XT := Lib.hid (XT.out.on hb)
  replace XN := Lib.hid (XN.out.on hb)
  replace XB := Lib.hid (XB.out.on hb)
  replace ON := Lib.hid (Kd.own_on ON.out hb)
  replace OB := Lib.hid (Kd.own_on OB.out hb)
  replace OK := Lib.hid (Kd.own_on OK.out hb)
  replace OD := Lib.hid (OD.out.on hb)
  replace XD := Lib.hid (XD.out.on hb)
  replace C := Lib.hid (C.out.on hb); replace BK := Lib.hid (BK.out.trans (Keep.of_below hb)); replace BS := Lib.hid (Nat.le_trans BS.out hb.size); clear hb
  (try go_wp2_with fail)
  clear hHeld
  refine hK.out _ _ ?_ (fun hHeld => ?_)
  ·
   (try dsimp only); exact ⟨XT.out.cell 0, XB.out.cell, XN.out.cell⟩
  clear hK K
  (try simp only [Act.put, Row.pB0, Row.pB1, Row.pB2])
  refine wpAnyH_take (i := 9) (oi := ⟨some 34, .move (.tmp 43), 46, "l11_trust.go:128", #[⟨8, .data⟩], none⟩) (v := ?_) rfl (by kernel_rfl) (by kernel_rfl) (by kernel_rfl) (fun _ _ _ h => h) (Or.inl ⟨by rfl, ?_⟩) (by assumption) ?_
  rotate_left
  ·
   intro w' hSw; (try dsimp only at hSw); first | (go_simp; done) | (go_simp; with_reducible rfl)
  (try simp only [Act.put, Row.pB0, Row.pB1, Row.pB2])
  refine wpAnyH_take (i := 10) (oi := ⟨some 44, .extract (.tmp 34) 0, 34, "l11_trust.go:128", #[⟨9, .data⟩], none⟩) (v := ?_) rfl (by kernel_rfl) (by kernel_rfl) (by kernel_rfl) (fun _ _ _ h => h) (Or.inl ⟨by rfl, ?_⟩) (by assumption) ?_
  rotate_left
  ·
   intro w' hSw; (try dsimp only at hSw); first | (go_simp; done) | (go_simp; with_reducible rfl)
  (try simp only [Act.put, Row.pB0, Row.pB1, Row.pB2])
  refine wpAnyH_take (i := 11) (oi := ⟨some 45, .extract (.tmp 34) 1, 4, "l11_trust.go:128", #[⟨9, .data⟩, { on := 13, ground := Ground.gcOnly Departure.lateStores }], none⟩) (v := ?_) rfl (by kernel_rfl) (by kernel_rfl) (by kernel_rfl) (fun _ _ _ h => h) (Or.inl ⟨by rfl, ?_⟩) (by assumption) ?_
  rotate_left
  ·
   intro w' hSw; (try dsimp only at hSw); first | (go_simp; done) | (go_simp; with_reducible rfl)
  (try simp only [Act.put, Row.pB0, Row.pB1, Row.pB2])
  revert C; revert BK; revert BS; revert hHeld; revert XT; revert XN; revert XB; revert ON; revert OB; revert OK; revert OD; revert HX; revert HXC; revert XD; revert HK4; revert HYB; revert HMB; revert HSM; revert HX1; revert HX4; revert HDP; revert HDW; revert k4; revert xD; revert nD; revert cD; revert lb; revert ya; revert ma; revert da; revert yb; revert mb; revert db; revert yc; revert mc; revert dc_; revert X; revert ok; revert gD; revert wn12
  exact T1.out
 ·
  intro wn13 gD ok X dc_ mc yc db mb yb da ma ya lb cD nD xD k4 HDW HDP HX4 HX1 HSM HMB HYB HK4 XD HXC HX OD OK OB ON XB XN XT hHeld BS BK C
  refine wpAnyH_ready (rs := [13]) (by kernel_rfl) (by simp) ?_
  refine AllReadyH.cons (o := ⟨none, .store 34 (.tmp 9) (.tmp 44), 0, "l11_trust.go:128", #[⟨12, .data⟩, ⟨10, .data⟩, ⟨8, .chain⟩, ⟨0, .phase⟩, ⟨1, .phase⟩, ⟨2, .phase⟩, ⟨3, .phase⟩, ⟨4, .phase⟩, ⟨5, .phase⟩, ⟨6, .phase⟩, ⟨7, .phase⟩, ⟨8, .phase⟩, ⟨9, .phase⟩, ⟨10, .phase⟩, { on := 11, ground := Ground.textOnly Departure.lateStores }, ⟨12, .phase⟩], none⟩) rfl (fun K hK => ?_) AllReadyH.nil
  obtain ⟨r0, r1, r2, r3, r4⟩ := cells5_11 XD.out
  obtain ⟨t0, t1, t2, t3, t4⟩ := froz5_11 XD.out
  go_simp
  clear hHeld
  refine hK.out _ _ ?_ (fun hHeld => ?_)
  ·
   (try dsimp only); exact ⟨cell_five11 (XT.out.cell 0) (by have h1 := HTL.out; have h2 := HDW.out; omega), cell_five11 XB.out.cell (by have h1 := HBL.out; have h2 := HDW.out; omega), cell_five11 XN.out.cell (by have h1 := HNL.out; have h2 := HDW.out; omega)⟩
  clear hK K
  (try simp only [Act.put, Row.pB0, Row.pB1, Row.pB2])
  refine wpAnyH_take (i := 14) (oi := ⟨some 10, .assign (.tmp 45), 4, "l11_trust.go:128", #[⟨11, .data⟩, ⟨13, .chain⟩, ⟨0, .phase⟩, ⟨1, .phase⟩, ⟨2, .phase⟩, ⟨3, .phase⟩, ⟨4, .phase⟩, ⟨5, .phase⟩, ⟨6, .phase⟩, ⟨7, .phase⟩, ⟨8, .phase⟩, ⟨9, .phase⟩, ⟨10, .phase⟩, ⟨11, .phase⟩, ⟨12, .phase⟩, ⟨13, .phase⟩], none⟩) (v := ?_) rfl (by kernel_rfl) (by kernel_rfl) (by kernel_rfl) (fun _ _ _ h => h) (Or.inl ⟨by rfl, ?_⟩) (by assumption) ?_
  rotate_left
  ·
   intro w' hSw; (try dsimp only at hSw); first | (go_simp; done) | (go_simp; with_reducible rfl)
  (try simp only [Act.put, Row.pB0, Row.pB1, Row.pB2])
  refine wpAnyH_done (by kernel_rfl) ?_ _
  exact NoPanic.normal (HQ.out _ _ _ _ _ _ _ _ _ _ _ _ _ _ _ _ _ _ _ _ _ _ X ok _ HDW.out HDP.out XD.out HX.out HXC.out HSM.out HX1.out HX4.out C.out BK.out)
end Go.Proofs.YtlhchmjnaanjpaaGreatDoor.Draw
