/- Contracts and mathematics, joined: Port, PortI, SealC, PortF. No conditions but those that each states. -/
import Derived.Test.YtfglcmanmfenpaaGreatB5
import Derived.WalkKit
import Derived.Deep.RegionHeld3
import Derived.Test.YtfglcmanmfenpaaGreatB4
/- Mathematics of the signed portion; the regions of SignedPortion of the model. No conditions but that lengths fit. -/
namespace Go.Proofs.YtfglcmanmfenpaaGreat.Row
open Go.ChangeShapes Go.WideShapes Go.ChangeAt Go.RowKit Go.Instr
set_option linter.unusedVariables false
set_option maxRecDepth 100000
theorem pbyt_var (n : Int) : Sl.Byt (Var.var n) := by
  unfold Var.var
  split
  · exact Var.enc_byte _
  · intro x hx; cases hx
theorem pbyt_two {a b : List Int} (h : Sl.Byt a) (k : Sl.Byt b) : Sl.Byt (a ++ b) := fun x hx => by
  rcases List.mem_append.1 hx with h1 | h1
  · exact h x h1
  · exact k x h1
theorem pbyt_ps (l : List ByteArray) : Sl.Byt (encPs l) := fun x hx => by
  unfold encPs at hx
  obtain ⟨y, _, hx⟩ := List.mem_flatMap.1 hx
  exact pbyt_two (pbyt_var _) (Sl.bytesOf_byt y) x hx
theorem pbyt_nil : Sl.Byt [] := fun x hx => by cases hx
theorem pbyt_app {b : List Int} (l : List ByteArray) (h : Sl.Byt b) : Sl.Byt (appName b l) := by
  unfold appName encN
  split
  · exact pbyt_two h (pbyt_two (pbyt_var _) (pbyt_ps l))
  · exact h
theorem pname_len (b : List Int) (l : List ByteArray) : (appName b l).length ≤ b.length + (6 + 6 * bulk l) := by
  have h1 := encPs_len l
  have h2 := Var.var_len l.length
  unfold appName encN
  split
  · simp only [List.length_append]; omega
  · omega
def portD (x : Dt) : List Int := Seal.b2i (appName [] x.1) ++ Seal.b2i x.2.1 ++ Seal.b2i (appName [] x.2.2.1) ++ [x.2.2.2.1]
theorem bulk_small : ∀ l : List ByteArray, (∀ p ∈ l, p.size ≤ 8) → bulk l ≤ 9 * l.length
  | [], _ => by simp [bulk, bulkTo]
  | s :: r, h => by
    have h1 := bulk_small r (fun p hp => h p (by simp [hp]))
    have h2 := h s (by simp)
    have h3 : bulk (s :: r) = 1 + s.size + bulk r := by simp [bulk_cons]
    rw [h3, List.length_cons]; omega
theorem appName_small (l : List ByteArray) : (appName [] l).length ≤ 400 := by
  unfold appName
  split
  · rename_i h
    obtain ⟨h6, hp⟩ := validN_iff.1 h
    have h1 := bulk_small l (fun s hs => (validP_iff.1 (hp s hs)).2.1)
    have h2 := encPs_len l
    have h3 := Var.var_len l.length
    unfold encN
    simp only [List.nil_append, List.length_append]
    omega
  · simp
theorem portD_small (x : Dt) : (portD x).length ≤ 1000 + x.2.1.length := by
  have h1 := appName_small x.1
  have h2 := appName_small x.2.2.1
  unfold portD
  simp only [List.length_append, Seal.b2i_length, List.length_cons, List.length_nil]
  omega
theorem own_some {k : IntKind} {e : TypeId} {B : Nat} {w : World} {v : Value} {l : List Int} (h : Sl.Own e k B w v l) (hl : 0 < l.length) : ∃ g n c, v = .slice (some ⟨g, 0, none⟩) n c ∧ Sl.Own e k B w (.slice (some ⟨g, 0, none⟩) n c) l := by
  rcases h.form with ⟨_, h0⟩ | ⟨g, c, e, h1, _⟩
  · rw [h0] at hl; simp at hl
  · exact ⟨g, _, c, e, by rw [← e]; exact h⟩
theorem b2i_pos (l : List Int) : 0 < (Seal.b2i l).length := by rw [Seal.b2i_length]; omega
theorem hold_one (w : World) (f : Int) (b : Nat) (hb : b = w.heap.size) : Sl.Holds .i64 (w.alloc (.cells #[.int .i64 f] 3)) (.slice (some ⟨b, 0, none⟩) 1 1) [f] := by
  subst hb
  exact Sl.holds_one .i64 _ w f
set_option maxRecDepth 100000 in
set_option maxHeartbeats 4000000 in
theorem portS1 {Q : Exit → Act → World → Prop} {v0 v2 v3 v4 v5 v6 v7 v8 v9 v10 v11 v12 v13 v14 v15 v16 v17 v18 v19 v20 v21 v22 v23 : Value} {w : World} {p na ca nb cb nc cc : Nat} {xa xb xc : Option Addr} {f s : Int} {la : List ByteArray} {lb : List Int} (H_a : Hid (Holds Value.string w (.slice xa na ca) la)) (H_b : Hid (Sl.Holds .u8 w (.slice xb nb cb) lb)) (HBY : Hid (Sl.Byt lb)) (HLA : Hid (bulk la ≤ 1200000)) (HLB : Hid (lb.length ≤ 1200000)) (K0 : Hid (w.cell? ⟨p, 0, none⟩ = some (.slice xa na ca))) (K1 : Hid (w.cell? ⟨p, 1, none⟩ = some (.slice xb nb cb))) (K2 : Hid (w.cell? ⟨p, 2, none⟩ = some (.slice xc nc cc))) (K3 : Hid (w.cell? ⟨p, 3, none⟩ = some (.int .i64 f))) (K4 : Hid (w.cell? ⟨p, 4, none⟩ = some (.int .i64 s)))
  (hQ : ∀ (u4 u5 u6 u7 u8 u9 u10 u11 u12 : Value) (v12 : Value) (wx : World), Sl.Own 3 .i64 w.heap.size wx v12 (Seal.b2i (appName [] la) ++ Seal.b2i lb) → Below w.heap.size w wx → Q .normal ⟨#[v0, .pointer (some ⟨p, 0, none⟩), v2, v12, u4, u5, u6, u7, u8, u9, u10, u11, u12, v13, v14, v15, v16, v17, v18, v19, v20, v21, v22, v23], []⟩ wx) :
  (Code.region 1 #[⟨some 4, .buildSlice 22 0 #[], 22, "l08_thing.go:10", #[], none⟩,
   ⟨some 5, .fieldAddr 31 (.tmp 1) 0, 0, "l08_thing.go:10", #[], none⟩,
   ⟨some 6, .load 29 (.tmp 5), 29, "l08_thing.go:10", #[⟨1, .data⟩], none⟩,
   ⟨some 7, .call ⟨.value (.func 106), #[.tmp 4, .tmp 6], #[22, 29]⟩, 22, "l08_thing.go:10", #[⟨0, .data⟩, ⟨2, .data⟩], none⟩,
   ⟨some 8, .call ⟨.value (.func 105), #[.tmp 7], #[22]⟩, 76, "l08_thing.go:10", #[⟨3, .data⟩, ⟨3, .chain⟩], none⟩,
   ⟨some 9, .fieldAddr 31 (.tmp 1) 1, 0, "l08_thing.go:10", #[], none⟩,
   ⟨some 10, .load 22 (.tmp 9), 22, "l08_thing.go:10", #[⟨5, .data⟩], none⟩,
   ⟨some 11, .call ⟨.value (.func 105), #[.tmp 10], #[22]⟩, 76, "l08_thing.go:10", #[⟨6, .data⟩, ⟨4, .chain⟩], none⟩,
   ⟨some 12, .call ⟨.builtin .append, #[.tmp 8, .tmp 11], #[76, 76]⟩, 76, "l08_thing.go:10", #[⟨4, .data⟩, ⟨7, .data⟩, ⟨7, .chain⟩], none⟩,
   ⟨some 3, .assign (.tmp 12), 76, "l08_thing.go:10", #[⟨8, .data⟩, ⟨8, .chain⟩, ⟨0, .phase⟩, ⟨1, .phase⟩, ⟨2, .phase⟩, ⟨3, .phase⟩, ⟨4, .phase⟩, ⟨5, .phase⟩, ⟨6, .phase⟩, ⟨7, .phase⟩, ⟨8, .phase⟩], none⟩] true).wp Tryz.prog Q ⟨#[v0, .pointer (some ⟨p, 0, none⟩), v2, v3, v4, v5, v6, v7, v8, v9, v10, v11, v12, v13, v14, v15, v16, v17, v18, v19, v20, v21, v22, v23], []⟩ w := by
 have HQ := Lib.hid hQ; clear hQ
 have hdr : Below w.heap.size w w.drew := (Below.refl _ _).drew
 have BB := Lib.hid hdr
 refine wp_region_noPanic ?_
 refine wp_region_held_drew (S := (fun w' => w'.cell? ⟨p, 0, none⟩ = some (.slice xa na ca) ∧ w'.cell? ⟨p, 1, none⟩ = some (.slice xb nb cb) ∧ w'.cell? ⟨p, 2, none⟩ = some (.slice xc nc cc) ∧ w'.cell? ⟨p, 3, none⟩ = some (.int .i64 f) ∧ w'.cell? ⟨p, 4, none⟩ = some (.int .i64 s))) (by kernel_rfl) ?_ (fun hHeld => ?_)
 ·
  exact ⟨kc K0.out BB.out, kc K1.out BB.out, kc K2.out BB.out, kc K3.out BB.out, kc K4.out BB.out⟩
 clear hdr
 generalize w.drew = wd at *
 refine wpAnyH_take (i := 1) (oi := ⟨some 5, .fieldAddr 31 (.tmp 1) 0, 0, "l08_thing.go:10", #[], none⟩) (v := ?_) rfl (by kernel_rfl) (by kernel_rfl) (by kernel_rfl) (fun _ _ _ h => h) (Or.inl ⟨by rfl, ?_⟩) (by assumption) ?_
 rotate_left
 ·
  intro w' hSw; (try dsimp only at hSw); first | (go_simp; done) | (go_simp; with_reducible rfl)
 (try simp only [Act.put, Row.pB0, Row.pB1, Row.pB2])
 refine wpAnyH_take (i := 2) (oi := ⟨some 6, .load 29 (.tmp 5), 29, "l08_thing.go:10", #[⟨1, .data⟩], none⟩) (v := ?_) rfl (by kernel_rfl) (by kernel_rfl) (by kernel_rfl) (fun _ _ _ h => h) (Or.inl ⟨by rfl, ?_⟩) (by assumption) ?_
 rotate_left
 ·
  intro w' hSw; (try dsimp only at hSw); first | (go_simp; done) | (go_simp; with_reducible rfl)
 (try simp only [Act.put, Row.pB0, Row.pB1, Row.pB2])
 refine wpAnyH_take (i := 5) (oi := ⟨some 9, .fieldAddr 31 (.tmp 1) 1, 0, "l08_thing.go:10", #[], none⟩) (v := ?_) rfl (by kernel_rfl) (by kernel_rfl) (by kernel_rfl) (fun _ _ _ h => h) (Or.inl ⟨by rfl, ?_⟩) (by assumption) ?_
 rotate_left
 ·
  intro w' hSw; (try dsimp only at hSw); first | (go_simp; done) | (go_simp; with_reducible rfl)
 (try simp only [Act.put, Row.pB0, Row.pB1, Row.pB2])
 refine wpAnyH_take (i := 6) (oi := ⟨some 10, .load 22 (.tmp 9), 22, "l08_thing.go:10", #[⟨5, .data⟩], none⟩) (v := ?_) rfl (by kernel_rfl) (by kernel_rfl) (by kernel_rfl) (fun _ _ _ h => h) (Or.inl ⟨by rfl, ?_⟩) (by assumption) ?_
 rotate_left
 ·
  intro w' hSw; (try dsimp only at hSw); first | (go_simp; done) | (go_simp; with_reducible rfl)
 (try simp only [Act.put, Row.pB0, Row.pB1, Row.pB2])
 refine wpAnyH_ready (rs := [0]) (by kernel_rfl) (by simp) ?_
 refine AllReadyH.cons (o := ⟨some 4, .buildSlice 22 0 #[], 22, "l08_thing.go:10", #[], none⟩) rfl (fun K hK => ?_) AllReadyH.nil
 go_simp
 have hb : Below wd.heap.size wd (wd.alloc (.cells #[] 5)) := (Below.refl _ _).alloc (Nat.le_refl _) _
 replace BB := Lib.hid (BB.out.trans (hb.mono BB.out.size))
 clear hb
 generalize wd.alloc (.cells #[] 5) = wn1 at *
 clear hHeld
 refine hK.out _ _ ?_ (fun hHeld => ?_)
 ·
  (try dsimp only); exact ⟨kc K0.out BB.out, kc K1.out BB.out, kc K2.out BB.out, kc K3.out BB.out, kc K4.out BB.out⟩
 clear hK K
 (try simp only [Act.put, Row.pB0, Row.pB1, Row.pB2])
 refine wpAnyH_ready (rs := [3]) (by kernel_rfl) (by simp) ?_
 refine AllReadyH.cons (o := ⟨some 7, .call ⟨.value (.func 106), #[.tmp 4, .tmp 6], #[22, 29]⟩, 22, "l08_thing.go:10", #[⟨0, .data⟩, ⟨2, .data⟩], none⟩) rfl (fun K hK => ?_) AllReadyH.nil
 go_simp
 refine (specAppendName (.slice _ 0 0) _ [] la _ (Sl.holds_empty _ _ _ _) (H_a.out.on BB.out) (by simp) HLA.out).mono ?_
 rintro e wn2 ⟨v7, rfl, ho, hb⟩
 have H_v7 := Lib.hid ho.holds; clear ho
 replace BB := Lib.hid (BB.out.trans (hb.mono BB.out.size))
 clear hb
 (try go_wp2_with fail)
 clear hHeld
 refine hK.out _ _ ?_ (fun hHeld => ?_)
 ·
  (try dsimp only); exact ⟨kc K0.out BB.out, kc K1.out BB.out, kc K2.out BB.out, kc K3.out BB.out, kc K4.out BB.out⟩
 clear hK K
 (try simp only [Act.put, Row.pB0, Row.pB1, Row.pB2])
 refine wpAnyH_ready (rs := [4]) (by kernel_rfl) (by simp) ?_
 refine AllReadyH.cons (o := ⟨some 8, .call ⟨.value (.func 105), #[.tmp 7], #[22]⟩, 76, "l08_thing.go:10", #[⟨3, .data⟩, ⟨3, .chain⟩], none⟩) rfl (fun K hK => ?_) AllReadyH.nil
 go_simp
 refine (Sl.specBytesToInts _ (appName [] la) _ (H_v7.out) (pbyt_app la pbyt_nil) (by have h1 := pname_len [] la; have h2 := HLA.out; simp only [List.length_nil] at h1; omega)).mono ?_
 rintro e wn3 ⟨v8, rfl, ho, hb⟩
 have O_v8 := Lib.hid (Sl.Own.mono ho BB.out.size)
 clear ho
 replace H_v7 := Lib.hid (H_v7.out.on hb)
 replace BB := Lib.hid (BB.out.trans (hb.mono BB.out.size))
 clear hb
 (try go_wp2_with fail)
 clear hHeld
 refine hK.out _ _ ?_ (fun hHeld => ?_)
 ·
  (try dsimp only); exact ⟨kc K0.out BB.out, kc K1.out BB.out, kc K2.out BB.out, kc K3.out BB.out, kc K4.out BB.out⟩
 clear hK K
 (try simp only [Act.put, Row.pB0, Row.pB1, Row.pB2])
 refine wpAnyH_ready (rs := [7]) (by kernel_rfl) (by simp) ?_
 refine AllReadyH.cons (o := ⟨some 11, .call ⟨.value (.func 105), #[.tmp 10], #[22]⟩, 76, "l08_thing.go:10", #[⟨6, .data⟩, ⟨4, .chain⟩], none⟩) rfl (fun K hK => ?_) AllReadyH.nil
 go_simp
 refine (Sl.specBytesToInts _ (lb) _ (H_b.out.on BB.out) HBY.out (by have h2 := HLB.out; omega)).mono ?_
 rintro e wn4 ⟨v11, rfl, ho, hb⟩
 obtain ⟨g_v11, n_v11, c_v11, rfl, ho⟩ := own_some ho (b2i_pos _)
 have O_v11 := Lib.hid (ho.holds)
 clear ho
 replace H_v7 := Lib.hid (H_v7.out.on hb)
 replace O_v8 := Lib.hid (O_v8.out.on hb)
 replace BB := Lib.hid (BB.out.trans (hb.mono BB.out.size))
 clear hb
 (try go_wp2_with fail)
 clear hHeld
 refine hK.out _ _ ?_ (fun hHeld => ?_)
 ·
  (try dsimp only); exact ⟨kc K0.out BB.out, kc K1.out BB.out, kc K2.out BB.out, kc K3.out BB.out, kc K4.out BB.out⟩
 clear hK K
 (try simp only [Act.put, Row.pB0, Row.pB1, Row.pB2])
 refine wpAnyH_ready (rs := [8]) (by kernel_rfl) (by simp) ?_
 refine AllReadyH.cons (o := ⟨some 12, .call ⟨.builtin .append, #[.tmp 8, .tmp 11], #[76, 76]⟩, 76, "l08_thing.go:10", #[⟨4, .data⟩, ⟨7, .data⟩, ⟨7, .chain⟩], none⟩) rfl (fun K hK => ?_) AllReadyH.nil
 refine Sl.step_app2 (k := .i64) (B := w.heap.size) (v := v8) (l := Seal.b2i (appName [] la)) (m := Seal.b2i lb) rfl _ _ (by rfl) Tryz.underlying76 Sl.elemINT rfl (by rfl) (by rfl) ?_ ?_ ?_ (by decide) ?_ ?_
 ·
  with_reducible exact O_v8.out
 ·
  with_reducible exact O_v11.out
 ·
  exact (by have h1 := pname_len [] la; have h2 := HLA.out; have h3 := HLB.out; simp only [List.length_nil] at h1; rw [Seal.b2i_length, Seal.b2i_length]; omega)
 ·
  exact BB.out.size
 intro v12 wn5 ho hg
 replace BB := Lib.hid (BB.out.grown hg BB.out.size (fun g e => (O_v8.out.lt g e).1))
 have O_v12 := Lib.hid ho; clear ho
 clear hg
 clear hHeld
 refine hK.out _ _ ?_ (fun hHeld => ?_)
 ·
  (try dsimp only); exact ⟨kc K0.out BB.out, kc K1.out BB.out, kc K2.out BB.out, kc K3.out BB.out, kc K4.out BB.out⟩
 clear hK K
 (try simp only [Act.put, Row.pB0, Row.pB1, Row.pB2])
 refine wpAnyH_take (i := 9) (oi := ⟨some 3, .assign (.tmp 12), 76, "l08_thing.go:10", #[⟨8, .data⟩, ⟨8, .chain⟩, ⟨0, .phase⟩, ⟨1, .phase⟩, ⟨2, .phase⟩, ⟨3, .phase⟩, ⟨4, .phase⟩, ⟨5, .phase⟩, ⟨6, .phase⟩, ⟨7, .phase⟩, ⟨8, .phase⟩], none⟩) (v := ?_) rfl (by kernel_rfl) (by kernel_rfl) (by kernel_rfl) (fun _ _ _ h => h) (Or.inl ⟨by rfl, ?_⟩) (by assumption) ?_
 rotate_left
 ·
  intro w' hSw; (try dsimp only at hSw); first | (go_simp; done) | (go_simp; with_reducible rfl)
 (try simp only [Act.put, Row.pB0, Row.pB1, Row.pB2])
 refine wpAnyH_done (by kernel_rfl) ?_ _
 exact NoPanic.normal (HQ.out _ _ _ _ _ _ _ _ _ _ _ O_v12.out BB.out)
set_option maxRecDepth 100000 in
set_option maxHeartbeats 4000000 in
theorem portS2 {Q : Exit → Act → World → Prop} {v0 v2 v4 v5 v6 v7 v8 v9 v10 v11 v12 v13 v14 v15 v16 v17 v18 v19 v20 v21 v22 v23 : Value} {w : World} {p na ca nb cb nc cc : Nat} {xa xb xc : Option Addr} {f s : Int} {lc : List ByteArray} {B : Nat} {y3 : Value} {l3 : List Int} (H_c : Hid (Holds Value.string w (.slice xc nc cc) lc)) (HLC : Hid (bulk lc ≤ 1200000)) (HL3 : Hid (l3.length ≤ 12000000)) (O3 : Hid (Sl.Own 3 .i64 B w y3 l3)) (HBW : Hid (B ≤ w.heap.size)) (PB : Hid (p < B)) (K0 : Hid (w.cell? ⟨p, 0, none⟩ = some (.slice xa na ca))) (K1 : Hid (w.cell? ⟨p, 1, none⟩ = some (.slice xb nb cb))) (K2 : Hid (w.cell? ⟨p, 2, none⟩ = some (.slice xc nc cc))) (K3 : Hid (w.cell? ⟨p, 3, none⟩ = some (.int .i64 f))) (K4 : Hid (w.cell? ⟨p, 4, none⟩ = some (.int .i64 s)))
  (hQ : ∀ (u13 u14 u15 u16 u17 u18 u19 u20 u21 u22 u23 : Value) (v23 : Value) (wx : World), Sl.Own 3 .i64 B wx v23 (l3 ++ Seal.b2i (appName [] lc) ++ [f]) → Below B w wx → Q .normal ⟨#[v0, .pointer (some ⟨p, 0, none⟩), v23, y3, v4, v5, v6, v7, v8, v9, v10, v11, v12, u13, u14, u15, u16, u17, u18, u19, u20, u21, u22, u23], []⟩ wx) :
  (Code.region 2 #[⟨some 13, .move (.tmp 3), 76, "l08_thing.go:11", #[], none⟩,
   ⟨some 14, .buildSlice 22 0 #[], 22, "l08_thing.go:11", #[], none⟩,
   ⟨some 15, .fieldAddr 31 (.tmp 1) 2, 0, "l08_thing.go:11", #[], none⟩,
   ⟨some 16, .load 29 (.tmp 15), 29, "l08_thing.go:11", #[⟨2, .data⟩], none⟩,
   ⟨some 17, .call ⟨.value (.func 106), #[.tmp 14, .tmp 16], #[22, 29]⟩, 22, "l08_thing.go:11", #[⟨1, .data⟩, ⟨3, .data⟩], none⟩,
   ⟨some 18, .call ⟨.value (.func 105), #[.tmp 17], #[22]⟩, 76, "l08_thing.go:11", #[⟨4, .data⟩, ⟨4, .chain⟩], none⟩,
   ⟨some 19, .call ⟨.builtin .append, #[.tmp 13, .tmp 18], #[76, 76]⟩, 76, "l08_thing.go:11", #[⟨0, .data⟩, ⟨5, .data⟩, ⟨5, .chain⟩], none⟩,
   ⟨some 20, .fieldAddr 31 (.tmp 1) 3, 0, "l08_thing.go:11", #[], none⟩,
   ⟨some 21, .load 3 (.tmp 20), 3, "l08_thing.go:11", #[⟨7, .data⟩], none⟩,
   ⟨some 22, .buildSlice 76 1 #[(0, .tmp 21)], 76, "l08_thing.go:11", #[⟨8, .data⟩], none⟩,
   ⟨some 23, .call ⟨.builtin .append, #[.tmp 19, .tmp 22], #[76, 76]⟩, 76, "l08_thing.go:11", #[⟨6, .data⟩, ⟨9, .data⟩, ⟨6, .chain⟩], none⟩,
   ⟨some 2, .assign (.tmp 23), 76, "l08_thing.go:11", #[⟨10, .data⟩, ⟨10, .chain⟩, ⟨0, .phase⟩, ⟨1, .phase⟩, ⟨2, .phase⟩, ⟨3, .phase⟩, ⟨4, .phase⟩, ⟨5, .phase⟩, ⟨6, .phase⟩, ⟨7, .phase⟩, ⟨8, .phase⟩, ⟨9, .phase⟩, ⟨10, .phase⟩], none⟩] true).wp Tryz.prog Q ⟨#[v0, .pointer (some ⟨p, 0, none⟩), v2, y3, v4, v5, v6, v7, v8, v9, v10, v11, v12, v13, v14, v15, v16, v17, v18, v19, v20, v21, v22, v23], []⟩ w := by
 have HQ := Lib.hid hQ; clear hQ
 have hdr : Below w.heap.size w w.drew := (Below.refl _ _).drew
 have BB := Lib.hid hdr
 have BX := Lib.hid (BB.out.mono HBW.out)
 refine wp_region_noPanic ?_
 refine wp_region_held_drew (S := (fun w' => w'.cell? ⟨p, 0, none⟩ = some (.slice xa na ca) ∧ w'.cell? ⟨p, 1, none⟩ = some (.slice xb nb cb) ∧ w'.cell? ⟨p, 2, none⟩ = some (.slice xc nc cc) ∧ w'.cell? ⟨p, 3, none⟩ = some (.int .i64 f) ∧ w'.cell? ⟨p, 4, none⟩ = some (.int .i64 s))) (by kernel_rfl) ?_ (fun hHeld => ?_)
 ·
  exact ⟨kc K0.out BB.out, kc K1.out BB.out, kc K2.out BB.out, kc K3.out BB.out, kc K4.out BB.out⟩
 clear hdr
 generalize w.drew = wd at *
 refine wpAnyH_take (i := 0) (oi := ⟨some 13, .move (.tmp 3), 76, "l08_thing.go:11", #[], none⟩) (v := ?_) rfl (by kernel_rfl) (by kernel_rfl) (by kernel_rfl) (fun _ _ _ h => h) (Or.inl ⟨by rfl, ?_⟩) (by assumption) ?_
 rotate_left
 ·
  intro w' hSw; (try dsimp only at hSw); first | (go_simp; done) | (go_simp; with_reducible rfl)
 (try simp only [Act.put, Row.pB0, Row.pB1, Row.pB2])
 refine wpAnyH_take (i := 2) (oi := ⟨some 15, .fieldAddr 31 (.tmp 1) 2, 0, "l08_thing.go:11", #[], none⟩) (v := ?_) rfl (by kernel_rfl) (by kernel_rfl) (by kernel_rfl) (fun _ _ _ h => h) (Or.inl ⟨by rfl, ?_⟩) (by assumption) ?_
 rotate_left
 ·
  intro w' hSw; (try dsimp only at hSw); first | (go_simp; done) | (go_simp; with_reducible rfl)
 (try simp only [Act.put, Row.pB0, Row.pB1, Row.pB2])
 refine wpAnyH_take (i := 3) (oi := ⟨some 16, .load 29 (.tmp 15), 29, "l08_thing.go:11", #[⟨2, .data⟩], none⟩) (v := ?_) rfl (by kernel_rfl) (by kernel_rfl) (by kernel_rfl) (fun _ _ _ h => h) (Or.inl ⟨by rfl, ?_⟩) (by assumption) ?_
 rotate_left
 ·
  intro w' hSw; (try dsimp only at hSw); first | (go_simp; done) | (go_simp; with_reducible rfl)
 (try simp only [Act.put, Row.pB0, Row.pB1, Row.pB2])
 refine wpAnyH_take (i := 7) (oi := ⟨some 20, .fieldAddr 31 (.tmp 1) 3, 0, "l08_thing.go:11", #[], none⟩) (v := ?_) rfl (by kernel_rfl) (by kernel_rfl) (by kernel_rfl) (fun _ _ _ h => h) (Or.inl ⟨by rfl, ?_⟩) (by assumption) ?_
 rotate_left
 ·
  intro w' hSw; (try dsimp only at hSw); first | (go_simp; done) | (go_simp; with_reducible rfl)
 (try simp only [Act.put, Row.pB0, Row.pB1, Row.pB2])
 refine wpAnyH_take (i := 8) (oi := ⟨some 21, .load 3 (.tmp 20), 3, "l08_thing.go:11", #[⟨7, .data⟩], none⟩) (v := ?_) rfl (by kernel_rfl) (by kernel_rfl) (by kernel_rfl) (fun _ _ _ h => h) (Or.inl ⟨by rfl, ?_⟩) (by assumption) ?_
 rotate_left
 ·
  intro w' hSw; (try dsimp only at hSw); first | (go_simp; done) | (go_simp; with_reducible rfl)
 (try simp only [Act.put, Row.pB0, Row.pB1, Row.pB2])
 refine wpAnyH_ready (rs := [1, 9]) (by kernel_rfl) (by simp) ?_
 refine AllReadyH.cons (o := ⟨some 14, .buildSlice 22 0 #[], 22, "l08_thing.go:11", #[], none⟩) rfl (fun K hK => ?_) ?_
 ·
  go_simp
  have hb : Below wd.heap.size wd (wd.alloc (.cells #[] 5)) := (Below.refl _ _).alloc (Nat.le_refl _) _
  replace BB := Lib.hid (BB.out.trans (hb.mono BB.out.size))
  replace BX := Lib.hid (BX.out.trans (hb.mono (Nat.le_trans HBW.out BX.out.size)))
  clear hb
  generalize wd.alloc (.cells #[] 5) = wn1 at *
  clear hHeld
  refine hK.out _ _ ?_ (fun hHeld => ?_)
  ·
   (try dsimp only); exact ⟨kc K0.out BB.out, kc K1.out BB.out, kc K2.out BB.out, kc K3.out BB.out, kc K4.out BB.out⟩
  clear hK K
  (try simp only [Act.put, Row.pB0, Row.pB1, Row.pB2])
  refine wpAnyH_ready (rs := [4, 9]) (by kernel_rfl) (by simp) ?_
  refine AllReadyH.cons (o := ⟨some 17, .call ⟨.value (.func 106), #[.tmp 14, .tmp 16], #[22, 29]⟩, 22, "l08_thing.go:11", #[⟨1, .data⟩, ⟨3, .data⟩], none⟩) rfl (fun K hK => ?_) ?_
  ·
   go_simp
   refine (specAppendName (.slice _ 0 0) _ [] lc _ (Sl.holds_empty _ _ _ _) (H_c.out.on BB.out) (by simp) HLC.out).mono ?_
   rintro e wn2 ⟨v17, rfl, ho, hb⟩
   have H_v17 := Lib.hid ho.holds; clear ho
   replace BB := Lib.hid (BB.out.trans (hb.mono BB.out.size))
   replace BX := Lib.hid (BX.out.trans (hb.mono (Nat.le_trans HBW.out BX.out.size)))
   clear hb
   (try go_wp2_with fail)
   clear hHeld
   refine hK.out _ _ ?_ (fun hHeld => ?_)
   ·
    (try dsimp only); exact ⟨kc K0.out BB.out, kc K1.out BB.out, kc K2.out BB.out, kc K3.out BB.out, kc K4.out BB.out⟩
   clear hK K
   (try simp only [Act.put, Row.pB0, Row.pB1, Row.pB2])
   refine wpAnyH_ready (rs := [5, 9]) (by kernel_rfl) (by simp) ?_
   refine AllReadyH.cons (o := ⟨some 18, .call ⟨.value (.func 105), #[.tmp 17], #[22]⟩, 76, "l08_thing.go:11", #[⟨4, .data⟩, ⟨4, .chain⟩], none⟩) rfl (fun K hK => ?_) ?_
   ·
    go_simp
    refine (Sl.specBytesToInts _ (appName [] lc) _ (H_v17.out) (pbyt_app lc pbyt_nil) (by have h1 := pname_len [] lc; have h2 := HLC.out; simp only [List.length_nil] at h1; omega)).mono ?_
    rintro e wn3 ⟨v18, rfl, ho, hb⟩
    obtain ⟨g_v18, n_v18, c_v18, rfl, ho⟩ := own_some ho (b2i_pos _)
    have O_v18 := Lib.hid (ho.holds)
    clear ho
    replace H_v17 := Lib.hid (H_v17.out.on hb)
    replace BB := Lib.hid (BB.out.trans (hb.mono BB.out.size))
    replace BX := Lib.hid (BX.out.trans (hb.mono (Nat.le_trans HBW.out BX.out.size)))
    clear hb
    (try go_wp2_with fail)
    clear hHeld
    refine hK.out _ _ ?_ (fun hHeld => ?_)
    ·
     (try dsimp only); exact ⟨kc K0.out BB.out, kc K1.out BB.out, kc K2.out BB.out, kc K3.out BB.out, kc K4.out BB.out⟩
    clear hK K
    (try simp only [Act.put, Row.pB0, Row.pB1, Row.pB2])
    refine wpAnyH_ready (rs := [6, 9]) (by kernel_rfl) (by simp) ?_
    refine AllReadyH.cons (o := ⟨some 19, .call ⟨.builtin .append, #[.tmp 13, .tmp 18], #[76, 76]⟩, 76, "l08_thing.go:11", #[⟨0, .data⟩, ⟨5, .data⟩, ⟨5, .chain⟩], none⟩) rfl (fun K hK => ?_) ?_
    ·
     have O3C := Lib.hid (O3.out.on BB.out)
     refine Sl.step_app2 (k := .i64) (B := B) (v := y3) (l := l3) (m := Seal.b2i (appName [] lc)) rfl _ _ (by rfl) Tryz.underlying76 Sl.elemINT rfl (by rfl) (by rfl) ?_ ?_ ?_ (by decide) ?_ ?_
     ·
      with_reducible exact O3C.out
     ·
      with_reducible exact O_v18.out
     ·
      exact (by have h1 := pname_len [] lc; have h2 := HLC.out; have h3 := HL3.out; simp only [List.length_nil] at h1; rw [Seal.b2i_length]; omega)
     ·
      exact Nat.le_trans HBW.out BX.out.size
     intro v19 wn4 ho hg
     replace BX := Lib.hid (BX.out.grown hg (Nat.le_trans HBW.out BX.out.size) (fun g e => (O3C.out.lt g e).1))
     have O_v19 := Lib.hid ho; clear ho
     clear hg
     clear hHeld
     refine hK.out _ _ ?_ (fun hHeld => ?_)
     ·
      (try dsimp only); exact ⟨(BX.out.cell PB.out).trans K0.out, (BX.out.cell PB.out).trans K1.out, (BX.out.cell PB.out).trans K2.out, (BX.out.cell PB.out).trans K3.out, (BX.out.cell PB.out).trans K4.out⟩
     clear hK K
     (try simp only [Act.put, Row.pB0, Row.pB1, Row.pB2])
     refine wpAnyH_ready (rs := [9]) (by kernel_rfl) (by simp) ?_
     refine AllReadyH.cons (o := ⟨some 22, .buildSlice 76 1 #[(0, .tmp 21)], 76, "l08_thing.go:11", #[⟨8, .data⟩], none⟩) rfl (fun K hK => ?_) AllReadyH.nil
     go_simp
     have hb : Below wn4.heap.size wn4 (wn4.alloc (.cells #[.int .i64 f] 3)) := (Below.refl _ _).alloc (Nat.le_refl _) _
     obtain ⟨bf, hbf⟩ : ∃ b, b = wn4.heap.size := ⟨_, rfl⟩
     have HF := Lib.hid (hold_one wn4 f bf hbf)
     have HFS := Lib.hid (show w.heap.size ≤ bf from by rw [hbf]; exact BX.out.size)
     rw [← hbf]
     clear hbf
     replace O_v19 := Lib.hid (O_v19.out.on hb)
     replace BX := Lib.hid (BX.out.trans (hb.mono (Nat.le_trans HBW.out BX.out.size)))
     clear hb
     generalize wn4.alloc (.cells #[.int .i64 f] 3) = wn5 at *
     clear hHeld
     refine hK.out _ _ ?_ (fun hHeld => ?_)
     ·
      (try dsimp only); exact ⟨(BX.out.cell PB.out).trans K0.out, (BX.out.cell PB.out).trans K1.out, (BX.out.cell PB.out).trans K2.out, (BX.out.cell PB.out).trans K3.out, (BX.out.cell PB.out).trans K4.out⟩
     clear hK K
     (try simp only [Act.put, Row.pB0, Row.pB1, Row.pB2])
     refine wpAnyH_ready (rs := [10]) (by kernel_rfl) (by simp) ?_
     refine AllReadyH.cons (o := ⟨some 23, .call ⟨.builtin .append, #[.tmp 19, .tmp 22], #[76, 76]⟩, 76, "l08_thing.go:11", #[⟨6, .data⟩, ⟨9, .data⟩, ⟨6, .chain⟩], none⟩) rfl (fun K hK => ?_) AllReadyH.nil
     refine Sl.step_app2 (k := .i64) (B := B) (v := v19) (l := (l3 ++ Seal.b2i (appName [] lc))) (m := [f]) rfl _ _ (by rfl) Tryz.underlying76 Sl.elemINT rfl (by rfl) (by rfl) ?_ ?_ ?_ (by decide) ?_ ?_
     ·
      with_reducible exact O_v19.out
     ·
      with_reducible exact HF.out
     ·
      exact (by have h1 := pname_len [] lc; have h2 := HLC.out; have h3 := HL3.out; simp only [List.length_nil] at h1; rw [List.length_append, Seal.b2i_length, List.length_singleton]; omega)
     ·
      exact Nat.le_trans HBW.out BX.out.size
     intro v23 wn6 ho hg
     replace BX := Lib.hid (BX.out.grown hg (Nat.le_trans HBW.out BX.out.size) (fun g e => (O_v19.out.lt g e).1))
     have O_v23 := Lib.hid ho; clear ho
     clear hg
     clear hHeld
     refine hK.out _ _ ?_ (fun hHeld => ?_)
     ·
      (try dsimp only); exact ⟨(BX.out.cell PB.out).trans K0.out, (BX.out.cell PB.out).trans K1.out, (BX.out.cell PB.out).trans K2.out, (BX.out.cell PB.out).trans K3.out, (BX.out.cell PB.out).trans K4.out⟩
     clear hK K
     (try simp only [Act.put, Row.pB0, Row.pB1, Row.pB2])
     refine wpAnyH_take (i := 11) (oi := ⟨some 2, .assign (.tmp 23), 76, "l08_thing.go:11", #[⟨10, .data⟩, ⟨10, .chain⟩, ⟨0, .phase⟩, ⟨1, .phase⟩, ⟨2, .phase⟩, ⟨3, .phase⟩, ⟨4, .phase⟩, ⟨5, .phase⟩, ⟨6, .phase⟩, ⟨7, .phase⟩, ⟨8, .phase⟩, ⟨9, .phase⟩, ⟨10, .phase⟩], none⟩) (v := ?_) rfl (by kernel_rfl) (by kernel_rfl) (by kernel_rfl) (fun _ _ _ h => h) (Or.inl ⟨by rfl, ?_⟩) (by assumption) ?_
     rotate_left
     ·
      intro w' hSw; (try dsimp only at hSw); first | (go_simp; done) | (go_simp; with_reducible rfl)
     (try simp only [Act.put, Row.pB0, Row.pB1, Row.pB2])
     refine wpAnyH_done (by kernel_rfl) ?_ _
     exact NoPanic.normal (HQ.out _ _ _ _ _ _ _ _ _ _ _ _ _ O_v23.out BX.out)
    refine AllReadyH.cons (o := ⟨some 22, .buildSlice 76 1 #[(0, .tmp 21)], 76, "l08_thing.go:11", #[⟨8, .data⟩], none⟩) rfl (fun K hK => ?_) AllReadyH.nil
    go_simp
    have hb : Below wn3.heap.size wn3 (wn3.alloc (.cells #[.int .i64 f] 3)) := (Below.refl _ _).alloc (Nat.le_refl _) _
    obtain ⟨bf, hbf⟩ : ∃ b, b = wn3.heap.size := ⟨_, rfl⟩
    have HF := Lib.hid (hold_one wn3 f bf hbf)
    have HFS := Lib.hid (show w.heap.size ≤ bf from by rw [hbf]; exact BB.out.size)
    rw [← hbf]
    clear hbf
    replace H_v17 := Lib.hid (H_v17.out.on hb)
    replace O_v18 := Lib.hid (O_v18.out.on hb)
    replace BB := Lib.hid (BB.out.trans (hb.mono BB.out.size))
    replace BX := Lib.hid (BX.out.trans (hb.mono (Nat.le_trans HBW.out BX.out.size)))
    clear hb
    generalize wn3.alloc (.cells #[.int .i64 f] 3) = wn7 at *
    clear hHeld
    refine hK.out _ _ ?_ (fun hHeld => ?_)
    ·
     (try dsimp only); exact ⟨kc K0.out BB.out, kc K1.out BB.out, kc K2.out BB.out, kc K3.out BB.out, kc K4.out BB.out⟩
    clear hK K
    (try simp only [Act.put, Row.pB0, Row.pB1, Row.pB2])
    refine wpAnyH_ready (rs := [6]) (by kernel_rfl) (by simp) ?_
    refine AllReadyH.cons (o := ⟨some 19, .call ⟨.builtin .append, #[.tmp 13, .tmp 18], #[76, 76]⟩, 76, "l08_thing.go:11", #[⟨0, .data⟩, ⟨5, .data⟩, ⟨5, .chain⟩], none⟩) rfl (fun K hK => ?_) AllReadyH.nil
    have O3C := Lib.hid (O3.out.on BB.out)
    refine Sl.step_app2 (k := .i64) (B := B) (v := y3) (l := l3) (m := Seal.b2i (appName [] lc)) rfl _ _ (by rfl) Tryz.underlying76 Sl.elemINT rfl (by rfl) (by rfl) ?_ ?_ ?_ (by decide) ?_ ?_
    ·
     with_reducible exact O3C.out
    ·
     with_reducible exact O_v18.out
    ·
     exact (by have h1 := pname_len [] lc; have h2 := HLC.out; have h3 := HL3.out; simp only [List.length_nil] at h1; rw [Seal.b2i_length]; omega)
    ·
     exact Nat.le_trans HBW.out BX.out.size
    intro v19 wn8 ho hg
    replace HF := Lib.hid (HF.out.grown hg (fun g e1 e2 => by have h5 : g = bf := (Option.some.inj e1).symm; have h6 := (O3.out.lt g e2.symm).2; have h7 := HFS.out; omega))
    replace BX := Lib.hid (BX.out.grown hg (Nat.le_trans HBW.out BX.out.size) (fun g e => (O3C.out.lt g e).1))
    have O_v19 := Lib.hid ho; clear ho
    clear hg
    clear hHeld
    refine hK.out _ _ ?_ (fun hHeld => ?_)
    ·
     (try dsimp only); exact ⟨(BX.out.cell PB.out).trans K0.out, (BX.out.cell PB.out).trans K1.out, (BX.out.cell PB.out).trans K2.out, (BX.out.cell PB.out).trans K3.out, (BX.out.cell PB.out).trans K4.out⟩
    clear hK K
    (try simp only [Act.put, Row.pB0, Row.pB1, Row.pB2])
    refine wpAnyH_ready (rs := [10]) (by kernel_rfl) (by simp) ?_
    refine AllReadyH.cons (o := ⟨some 23, .call ⟨.builtin .append, #[.tmp 19, .tmp 22], #[76, 76]⟩, 76, "l08_thing.go:11", #[⟨6, .data⟩, ⟨9, .data⟩, ⟨6, .chain⟩], none⟩) rfl (fun K hK => ?_) AllReadyH.nil
    refine Sl.step_app2 (k := .i64) (B := B) (v := v19) (l := (l3 ++ Seal.b2i (appName [] lc))) (m := [f]) rfl _ _ (by rfl) Tryz.underlying76 Sl.elemINT rfl (by rfl) (by rfl) ?_ ?_ ?_ (by decide) ?_ ?_
    ·
     with_reducible exact O_v19.out
    ·
     with_reducible exact HF.out
    ·
     exact (by have h1 := pname_len [] lc; have h2 := HLC.out; have h3 := HL3.out; simp only [List.length_nil] at h1; rw [List.length_append, Seal.b2i_length, List.length_singleton]; omega)
    ·
     exact Nat.le_trans HBW.out BX.out.size
    intro v23 wn9 ho hg
    replace BX := Lib.hid (BX.out.grown hg (Nat.le_trans HBW.out BX.out.size) (fun g e => (O_v19.out.lt g e).1))
    have O_v23 := Lib.hid ho; clear ho
    clear hg
    clear hHeld
    refine hK.out _ _ ?_ (fun hHeld => ?_)
    ·
     (try dsimp only); exact ⟨(BX.out.cell PB.out).trans K0.out, (BX.out.cell PB.out).trans K1.out, (BX.out.cell PB.out).trans K2.out, (BX.out.cell PB.out).trans K3.out, (BX.out.cell PB.out).trans K4.out⟩
    clear hK K
    (try simp only [Act.put, Row.pB0, Row.pB1, Row.pB2])
    refine wpAnyH_take (i := 11) (oi := ⟨some 2, .assign (.tmp 23), 76, "l08_thing.go:11", #[⟨10, .data⟩, ⟨10, .chain⟩, ⟨0, .phase⟩, ⟨1, .phase⟩, ⟨2, .phase⟩, ⟨3, .phase⟩, ⟨4, .phase⟩, ⟨5, .phase⟩, ⟨6, .phase⟩, ⟨7, .phase⟩, ⟨8, .phase⟩, ⟨9, .phase⟩, ⟨10, .phase⟩], none⟩) (v := ?_) rfl (by kernel_rfl) (by kernel_rfl) (by kernel_rfl) (fun _ _ _ h => h) (Or.inl ⟨by rfl, ?_⟩) (by assumption) ?_
    rotate_left
    ·
     intro w' hSw; (try dsimp only at hSw); first | (go_simp; done) | (go_simp; with_reducible rfl)
    (try simp only [Act.put, Row.pB0, Row.pB1, Row.pB2])
    refine wpAnyH_done (by kernel_rfl) ?_ _
    exact NoPanic.normal (HQ.out _ _ _ _ _ _ _ _ _ _ _ _ _ O_v23.out BX.out)
   refine AllReadyH.cons (o := ⟨some 22, .buildSlice 76 1 #[(0, .tmp 21)], 76, "l08_thing.go:11", #[⟨8, .data⟩], none⟩) rfl (fun K hK => ?_) AllReadyH.nil
   go_simp
   have hb : Below wn2.heap.size wn2 (wn2.alloc (.cells #[.int .i64 f] 3)) := (Below.refl _ _).alloc (Nat.le_refl _) _
   obtain ⟨bf, hbf⟩ : ∃ b, b = wn2.heap.size := ⟨_, rfl⟩
   have HF := Lib.hid (hold_one wn2 f bf hbf)
   have HFS := Lib.hid (show w.heap.size ≤ bf from by rw [hbf]; exact BB.out.size)
   rw [← hbf]
   clear hbf
   replace H_v17 := Lib.hid (H_v17.out.on hb)
   replace BB := Lib.hid (BB.out.trans (hb.mono BB.out.size))
   replace BX := Lib.hid (BX.out.trans (hb.mono (Nat.le_trans HBW.out BX.out.size)))
   clear hb
   generalize wn2.alloc (.cells #[.int .i64 f] 3) = wn10 at *
   clear hHeld
   refine hK.out _ _ ?_ (fun hHeld => ?_)
   ·
    (try dsimp only); exact ⟨kc K0.out BB.out, kc K1.out BB.out, kc K2.out BB.out, kc K3.out BB.out, kc K4.out BB.out⟩
   clear hK K
   (try simp only [Act.put, Row.pB0, Row.pB1, Row.pB2])
   refine wpAnyH_ready (rs := [5]) (by kernel_rfl) (by simp) ?_
   refine AllReadyH.cons (o := ⟨some 18, .call ⟨.value (.func 105), #[.tmp 17], #[22]⟩, 76, "l08_thing.go:11", #[⟨4, .data⟩, ⟨4, .chain⟩], none⟩) rfl (fun K hK => ?_) AllReadyH.nil
   go_simp
   refine (Sl.specBytesToInts _ (appName [] lc) _ (H_v17.out) (pbyt_app lc pbyt_nil) (by have h1 := pname_len [] lc; have h2 := HLC.out; simp only [List.length_nil] at h1; omega)).mono ?_
   rintro e wn11 ⟨v18, rfl, ho, hb⟩
   obtain ⟨g_v18, n_v18, c_v18, rfl, ho⟩ := own_some ho (b2i_pos _)
   have O_v18 := Lib.hid (ho.holds)
   clear ho
   replace H_v17 := Lib.hid (H_v17.out.on hb)
   replace HF := Lib.hid (HF.out.on hb)
   replace BB := Lib.hid (BB.out.trans (hb.mono BB.out.size))
   replace BX := Lib.hid (BX.out.trans (hb.mono (Nat.le_trans HBW.out BX.out.size)))
   clear hb
   (try go_wp2_with fail)
   clear hHeld
   refine hK.out _ _ ?_ (fun hHeld => ?_)
   ·
    (try dsimp only); exact ⟨kc K0.out BB.out, kc K1.out BB.out, kc K2.out BB.out, kc K3.out BB.out, kc K4.out BB.out⟩
   clear hK K
   (try simp only [Act.put, Row.pB0, Row.pB1, Row.pB2])
   refine wpAnyH_ready (rs := [6]) (by kernel_rfl) (by simp) ?_
   refine AllReadyH.cons (o := ⟨some 19, .call ⟨.builtin .append, #[.tmp 13, .tmp 18], #[76, 76]⟩, 76, "l08_thing.go:11", #[⟨0, .data⟩, ⟨5, .data⟩, ⟨5, .chain⟩], none⟩) rfl (fun K hK => ?_) AllReadyH.nil
   have O3C := Lib.hid (O3.out.on BB.out)
   refine Sl.step_app2 (k := .i64) (B := B) (v := y3) (l := l3) (m := Seal.b2i (appName [] lc)) rfl _ _ (by rfl) Tryz.underlying76 Sl.elemINT rfl (by rfl) (by rfl) ?_ ?_ ?_ (by decide) ?_ ?_
   ·
    with_reducible exact O3C.out
   ·
    with_reducible exact O_v18.out
   ·
    exact (by have h1 := pname_len [] lc; have h2 := HLC.out; have h3 := HL3.out; simp only [List.length_nil] at h1; rw [Seal.b2i_length]; omega)
   ·
    exact Nat.le_trans HBW.out BX.out.size
   intro v19 wn12 ho hg
   replace HF := Lib.hid (HF.out.grown hg (fun g e1 e2 => by have h5 : g = bf := (Option.some.inj e1).symm; have h6 := (O3.out.lt g e2.symm).2; have h7 := HFS.out; omega))
   replace BX := Lib.hid (BX.out.grown hg (Nat.le_trans HBW.out BX.out.size) (fun g e => (O3C.out.lt g e).1))
   have O_v19 := Lib.hid ho; clear ho
   clear hg
   clear hHeld
   refine hK.out _ _ ?_ (fun hHeld => ?_)
   ·
    (try dsimp only); exact ⟨(BX.out.cell PB.out).trans K0.out, (BX.out.cell PB.out).trans K1.out, (BX.out.cell PB.out).trans K2.out, (BX.out.cell PB.out).trans K3.out, (BX.out.cell PB.out).trans K4.out⟩
   clear hK K
   (try simp only [Act.put, Row.pB0, Row.pB1, Row.pB2])
   refine wpAnyH_ready (rs := [10]) (by kernel_rfl) (by simp) ?_
   refine AllReadyH.cons (o := ⟨some 23, .call ⟨.builtin .append, #[.tmp 19, .tmp 22], #[76, 76]⟩, 76, "l08_thing.go:11", #[⟨6, .data⟩, ⟨9, .data⟩, ⟨6, .chain⟩], none⟩) rfl (fun K hK => ?_) AllReadyH.nil
   refine Sl.step_app2 (k := .i64) (B := B) (v := v19) (l := (l3 ++ Seal.b2i (appName [] lc))) (m := [f]) rfl _ _ (by rfl) Tryz.underlying76 Sl.elemINT rfl (by rfl) (by rfl) ?_ ?_ ?_ (by decide) ?_ ?_
   ·
    with_reducible exact O_v19.out
   ·
    with_reducible exact HF.out
   ·
    exact (by have h1 := pname_len [] lc; have h2 := HLC.out; have h3 := HL3.out; simp only [List.length_nil] at h1; rw [List.length_append, Seal.b2i_length, List.length_singleton]; omega)
   ·
    exact Nat.le_trans HBW.out BX.out.size
   intro v23 wn13 ho hg
   replace BX := Lib.hid (BX.out.grown hg (Nat.le_trans HBW.out BX.out.size) (fun g e => (O_v19.out.lt g e).1))
   have O_v23 := Lib.hid ho; clear ho
   clear hg
   clear hHeld
   refine hK.out _ _ ?_ (fun hHeld => ?_)
   ·
    (try dsimp only); exact ⟨(BX.out.cell PB.out).trans K0.out, (BX.out.cell PB.out).trans K1.out, (BX.out.cell PB.out).trans K2.out, (BX.out.cell PB.out).trans K3.out, (BX.out.cell PB.out).trans K4.out⟩
   clear hK K
   (try simp only [Act.put, Row.pB0, Row.pB1, Row.pB2])
   refine wpAnyH_take (i := 11) (oi := ⟨some 2, .assign (.tmp 23), 76, "l08_thing.go:11", #[⟨10, .data⟩, ⟨10, .chain⟩, ⟨0, .phase⟩, ⟨1, .phase⟩, ⟨2, .phase⟩, ⟨3, .phase⟩, ⟨4, .phase⟩, ⟨5, .phase⟩, ⟨6, .phase⟩, ⟨7, .phase⟩, ⟨8, .phase⟩, ⟨9, .phase⟩, ⟨10, .phase⟩], none⟩) (v := ?_) rfl (by kernel_rfl) (by kernel_rfl) (by kernel_rfl) (fun _ _ _ h => h) (Or.inl ⟨by rfl, ?_⟩) (by assumption) ?_
   rotate_left
   ·
    intro w' hSw; (try dsimp only at hSw); first | (go_simp; done) | (go_simp; with_reducible rfl)
   (try simp only [Act.put, Row.pB0, Row.pB1, Row.pB2])
   refine wpAnyH_done (by kernel_rfl) ?_ _
   exact NoPanic.normal (HQ.out _ _ _ _ _ _ _ _ _ _ _ _ _ O_v23.out BX.out)
  refine AllReadyH.cons (o := ⟨some 22, .buildSlice 76 1 #[(0, .tmp 21)], 76, "l08_thing.go:11", #[⟨8, .data⟩], none⟩) rfl (fun K hK => ?_) AllReadyH.nil
  go_simp
  have hb : Below wn1.heap.size wn1 (wn1.alloc (.cells #[.int .i64 f] 3)) := (Below.refl _ _).alloc (Nat.le_refl _) _
  obtain ⟨bf, hbf⟩ : ∃ b, b = wn1.heap.size := ⟨_, rfl⟩
  have HF := Lib.hid (hold_one wn1 f bf hbf)
  have HFS := Lib.hid (show w.heap.size ≤ bf from by rw [hbf]; exact BB.out.size)
  rw [← hbf]
  clear hbf
  replace BB := Lib.hid (BB.out.trans (hb.mono BB.out.size))
  replace BX := Lib.hid (BX.out.trans (hb.mono (Nat.le_trans HBW.out BX.out.size)))
  clear hb
  generalize wn1.alloc (.cells #[.int .i64 f] 3) = wn14 at *
  clear hHeld
  refine hK.out _ _ ?_ (fun hHeld => ?_)
  ·
   (try dsimp only); exact ⟨kc K0.out BB.out, kc K1.out BB.out, kc K2.out BB.out, kc K3.out BB.out, kc K4.out BB.out⟩
  clear hK K
  (try simp only [Act.put, Row.pB0, Row.pB1, Row.pB2])
  refine wpAnyH_ready (rs := [4]) (by kernel_rfl) (by simp) ?_
  refine AllReadyH.cons (o := ⟨some 17, .call ⟨.value (.func 106), #[.tmp 14, .tmp 16], #[22, 29]⟩, 22, "l08_thing.go:11", #[⟨1, .data⟩, ⟨3, .data⟩], none⟩) rfl (fun K hK => ?_) AllReadyH.nil
  go_simp
  refine (specAppendName (.slice _ 0 0) _ [] lc _ (Sl.holds_empty _ _ _ _) (H_c.out.on BB.out) (by simp) HLC.out).mono ?_
  rintro e wn15 ⟨v17, rfl, ho, hb⟩
  have H_v17 := Lib.hid ho.holds; clear ho
  replace HF := Lib.hid (HF.out.on hb)
  replace BB := Lib.hid (BB.out.trans (hb.mono BB.out.size))
  replace BX := Lib.hid (BX.out.trans (hb.mono (Nat.le_trans HBW.out BX.out.size)))
  clear hb
  (try go_wp2_with fail)
  clear hHeld
  refine hK.out _ _ ?_ (fun hHeld => ?_)
  ·
   (try dsimp only); exact ⟨kc K0.out BB.out, kc K1.out BB.out, kc K2.out BB.out, kc K3.out BB.out, kc K4.out BB.out⟩
  clear hK K
  (try simp only [Act.put, Row.pB0, Row.pB1, Row.pB2])
  refine wpAnyH_ready (rs := [5]) (by kernel_rfl) (by simp) ?_
  refine AllReadyH.cons (o := ⟨some 18, .call ⟨.value (.func 105), #[.tmp 17], #[22]⟩, 76, "l08_thing.go:11", #[⟨4, .data⟩, ⟨4, .chain⟩], none⟩) rfl (fun K hK => ?_) AllReadyH.nil
  go_simp
  refine (Sl.specBytesToInts _ (appName [] lc) _ (H_v17.out) (pbyt_app lc pbyt_nil) (by have h1 := pname_len [] lc; have h2 := HLC.out; simp only [List.length_nil] at h1; omega)).mono ?_
  rintro e wn16 ⟨v18, rfl, ho, hb⟩
  obtain ⟨g_v18, n_v18, c_v18, rfl, ho⟩ := own_some ho (b2i_pos _)
  have O_v18 := Lib.hid (ho.holds)
  clear ho
  replace HF := Lib.hid (HF.out.on hb)
  replace H_v17 := Lib.hid (H_v17.out.on hb)
  replace BB := Lib.hid (BB.out.trans (hb.mono BB.out.size))
  replace BX := Lib.hid (BX.out.trans (hb.mono (Nat.le_trans HBW.out BX.out.size)))
  clear hb
  (try go_wp2_with fail)
  clear hHeld
  refine hK.out _ _ ?_ (fun hHeld => ?_)
  ·
   (try dsimp only); exact ⟨kc K0.out BB.out, kc K1.out BB.out, kc K2.out BB.out, kc K3.out BB.out, kc K4.out BB.out⟩
  clear hK K
  (try simp only [Act.put, Row.pB0, Row.pB1, Row.pB2])
  refine wpAnyH_ready (rs := [6]) (by kernel_rfl) (by simp) ?_
  refine AllReadyH.cons (o := ⟨some 19, .call ⟨.builtin .append, #[.tmp 13, .tmp 18], #[76, 76]⟩, 76, "l08_thing.go:11", #[⟨0, .data⟩, ⟨5, .data⟩, ⟨5, .chain⟩], none⟩) rfl (fun K hK => ?_) AllReadyH.nil
  have O3C := Lib.hid (O3.out.on BB.out)
  refine Sl.step_app2 (k := .i64) (B := B) (v := y3) (l := l3) (m := Seal.b2i (appName [] lc)) rfl _ _ (by rfl) Tryz.underlying76 Sl.elemINT rfl (by rfl) (by rfl) ?_ ?_ ?_ (by decide) ?_ ?_
  ·
   with_reducible exact O3C.out
  ·
   with_reducible exact O_v18.out
  ·
   exact (by have h1 := pname_len [] lc; have h2 := HLC.out; have h3 := HL3.out; simp only [List.length_nil] at h1; rw [Seal.b2i_length]; omega)
  ·
   exact Nat.le_trans HBW.out BX.out.size
  intro v19 wn17 ho hg
  replace HF := Lib.hid (HF.out.grown hg (fun g e1 e2 => by have h5 : g = bf := (Option.some.inj e1).symm; have h6 := (O3.out.lt g e2.symm).2; have h7 := HFS.out; omega))
  replace BX := Lib.hid (BX.out.grown hg (Nat.le_trans HBW.out BX.out.size) (fun g e => (O3C.out.lt g e).1))
  have O_v19 := Lib.hid ho; clear ho
  clear hg
  clear hHeld
  refine hK.out _ _ ?_ (fun hHeld => ?_)
  ·
   (try dsimp only); exact ⟨(BX.out.cell PB.out).trans K0.out, (BX.out.cell PB.out).trans K1.out, (BX.out.cell PB.out).trans K2.out, (BX.out.cell PB.out).trans K3.out, (BX.out.cell PB.out).trans K4.out⟩
  clear hK K
  (try simp only [Act.put, Row.pB0, Row.pB1, Row.pB2])
  refine wpAnyH_ready (rs := [10]) (by kernel_rfl) (by simp) ?_
  refine AllReadyH.cons (o := ⟨some 23, .call ⟨.builtin .append, #[.tmp 19, .tmp 22], #[76, 76]⟩, 76, "l08_thing.go:11", #[⟨6, .data⟩, ⟨9, .data⟩, ⟨6, .chain⟩], none⟩) rfl (fun K hK => ?_) AllReadyH.nil
  refine Sl.step_app2 (k := .i64) (B := B) (v := v19) (l := (l3 ++ Seal.b2i (appName [] lc))) (m := [f]) rfl _ _ (by rfl) Tryz.underlying76 Sl.elemINT rfl (by rfl) (by rfl) ?_ ?_ ?_ (by decide) ?_ ?_
  ·
   with_reducible exact O_v19.out
  ·
   with_reducible exact HF.out
  ·
   exact (by have h1 := pname_len [] lc; have h2 := HLC.out; have h3 := HL3.out; simp only [List.length_nil] at h1; rw [List.length_append, Seal.b2i_length, List.length_singleton]; omega)
  ·
   exact Nat.le_trans HBW.out BX.out.size
  intro v23 wn18 ho hg
  replace BX := Lib.hid (BX.out.grown hg (Nat.le_trans HBW.out BX.out.size) (fun g e => (O_v19.out.lt g e).1))
  have O_v23 := Lib.hid ho; clear ho
  clear hg
  clear hHeld
  refine hK.out _ _ ?_ (fun hHeld => ?_)
  ·
   (try dsimp only); exact ⟨(BX.out.cell PB.out).trans K0.out, (BX.out.cell PB.out).trans K1.out, (BX.out.cell PB.out).trans K2.out, (BX.out.cell PB.out).trans K3.out, (BX.out.cell PB.out).trans K4.out⟩
  clear hK K
  (try simp only [Act.put, Row.pB0, Row.pB1, Row.pB2])
  refine wpAnyH_take (i := 11) (oi := ⟨some 2, .assign (.tmp 23), 76, "l08_thing.go:11", #[⟨10, .data⟩, ⟨10, .chain⟩, ⟨0, .phase⟩, ⟨1, .phase⟩, ⟨2, .phase⟩, ⟨3, .phase⟩, ⟨4, .phase⟩, ⟨5, .phase⟩, ⟨6, .phase⟩, ⟨7, .phase⟩, ⟨8, .phase⟩, ⟨9, .phase⟩, ⟨10, .phase⟩], none⟩) (v := ?_) rfl (by kernel_rfl) (by kernel_rfl) (by kernel_rfl) (fun _ _ _ h => h) (Or.inl ⟨by rfl, ?_⟩) (by assumption) ?_
  rotate_left
  ·
   intro w' hSw; (try dsimp only at hSw); first | (go_simp; done) | (go_simp; with_reducible rfl)
  (try simp only [Act.put, Row.pB0, Row.pB1, Row.pB2])
  refine wpAnyH_done (by kernel_rfl) ?_ _
  exact NoPanic.normal (HQ.out _ _ _ _ _ _ _ _ _ _ _ _ _ O_v23.out BX.out)
 refine AllReadyH.cons (o := ⟨some 22, .buildSlice 76 1 #[(0, .tmp 21)], 76, "l08_thing.go:11", #[⟨8, .data⟩], none⟩) rfl (fun K hK => ?_) AllReadyH.nil
 go_simp
 have hb : Below wd.heap.size wd (wd.alloc (.cells #[.int .i64 f] 3)) := (Below.refl _ _).alloc (Nat.le_refl _) _
 obtain ⟨bf, hbf⟩ : ∃ b, b = wd.heap.size := ⟨_, rfl⟩
 have HF := Lib.hid (hold_one wd f bf hbf)
 have HFS := Lib.hid (show w.heap.size ≤ bf from by rw [hbf]; exact BB.out.size)
 rw [← hbf]
 clear hbf
 replace BB := Lib.hid (BB.out.trans (hb.mono BB.out.size))
 replace BX := Lib.hid (BX.out.trans (hb.mono (Nat.le_trans HBW.out BX.out.size)))
 clear hb
 generalize wd.alloc (.cells #[.int .i64 f] 3) = wn19 at *
 clear hHeld
 refine hK.out _ _ ?_ (fun hHeld => ?_)
 ·
  (try dsimp only); exact ⟨kc K0.out BB.out, kc K1.out BB.out, kc K2.out BB.out, kc K3.out BB.out, kc K4.out BB.out⟩
 clear hK K
 (try simp only [Act.put, Row.pB0, Row.pB1, Row.pB2])
 refine wpAnyH_ready (rs := [1]) (by kernel_rfl) (by simp) ?_
 refine AllReadyH.cons (o := ⟨some 14, .buildSlice 22 0 #[], 22, "l08_thing.go:11", #[], none⟩) rfl (fun K hK => ?_) AllReadyH.nil
 go_simp
 have hb : Below wn19.heap.size wn19 (wn19.alloc (.cells #[] 5)) := (Below.refl _ _).alloc (Nat.le_refl _) _
 replace HF := Lib.hid (HF.out.on hb)
 replace BB := Lib.hid (BB.out.trans (hb.mono BB.out.size))
 replace BX := Lib.hid (BX.out.trans (hb.mono (Nat.le_trans HBW.out BX.out.size)))
 clear hb
 generalize wn19.alloc (.cells #[] 5) = wn20 at *
 clear hHeld
 refine hK.out _ _ ?_ (fun hHeld => ?_)
 ·
  (try dsimp only); exact ⟨kc K0.out BB.out, kc K1.out BB.out, kc K2.out BB.out, kc K3.out BB.out, kc K4.out BB.out⟩
 clear hK K
 (try simp only [Act.put, Row.pB0, Row.pB1, Row.pB2])
 refine wpAnyH_ready (rs := [4]) (by kernel_rfl) (by simp) ?_
 refine AllReadyH.cons (o := ⟨some 17, .call ⟨.value (.func 106), #[.tmp 14, .tmp 16], #[22, 29]⟩, 22, "l08_thing.go:11", #[⟨1, .data⟩, ⟨3, .data⟩], none⟩) rfl (fun K hK => ?_) AllReadyH.nil
 go_simp
 refine (specAppendName (.slice _ 0 0) _ [] lc _ (Sl.holds_empty _ _ _ _) (H_c.out.on BB.out) (by simp) HLC.out).mono ?_
 rintro e wn21 ⟨v17, rfl, ho, hb⟩
 have H_v17 := Lib.hid ho.holds; clear ho
 replace HF := Lib.hid (HF.out.on hb)
 replace BB := Lib.hid (BB.out.trans (hb.mono BB.out.size))
 replace BX := Lib.hid (BX.out.trans (hb.mono (Nat.le_trans HBW.out BX.out.size)))
 clear hb
 (try go_wp2_with fail)
 clear hHeld
 refine hK.out _ _ ?_ (fun hHeld => ?_)
 ·
  (try dsimp only); exact ⟨kc K0.out BB.out, kc K1.out BB.out, kc K2.out BB.out, kc K3.out BB.out, kc K4.out BB.out⟩
 clear hK K
 (try simp only [Act.put, Row.pB0, Row.pB1, Row.pB2])
 refine wpAnyH_ready (rs := [5]) (by kernel_rfl) (by simp) ?_
 refine AllReadyH.cons (o := ⟨some 18, .call ⟨.value (.func 105), #[.tmp 17], #[22]⟩, 76, "l08_thing.go:11", #[⟨4, .data⟩, ⟨4, .chain⟩], none⟩) rfl (fun K hK => ?_) AllReadyH.nil
 go_simp
 refine (Sl.specBytesToInts _ (appName [] lc) _ (H_v17.out) (pbyt_app lc pbyt_nil) (by have h1 := pname_len [] lc; have h2 := HLC.out; simp only [List.length_nil] at h1; omega)).mono ?_
 rintro e wn22 ⟨v18, rfl, ho, hb⟩
 obtain ⟨g_v18, n_v18, c_v18, rfl, ho⟩ := own_some ho (b2i_pos _)
 have O_v18 := Lib.hid (ho.holds)
 clear ho
 replace HF := Lib.hid (HF.out.on hb)
 replace H_v17 := Lib.hid (H_v17.out.on hb)
 replace BB := Lib.hid (BB.out.trans (hb.mono BB.out.size))
 replace BX := Lib.hid (BX.out.trans (hb.mono (Nat.le_trans HBW.out BX.out.size)))
 clear hb
 (try go_wp2_with fail)
 clear hHeld
 refine hK.out _ _ ?_ (fun hHeld => ?_)
 ·
  (try dsimp only); exact ⟨kc K0.out BB.out, kc K1.out BB.out, kc K2.out BB.out, kc K3.out BB.out, kc K4.out BB.out⟩
 clear hK K
 (try simp only [Act.put, Row.pB0, Row.pB1, Row.pB2])
 refine wpAnyH_ready (rs := [6]) (by kernel_rfl) (by simp) ?_
 refine AllReadyH.cons (o := ⟨some 19, .call ⟨.builtin .append, #[.tmp 13, .tmp 18], #[76, 76]⟩, 76, "l08_thing.go:11", #[⟨0, .data⟩, ⟨5, .data⟩, ⟨5, .chain⟩], none⟩) rfl (fun K hK => ?_) AllReadyH.nil
 have O3C := Lib.hid (O3.out.on BB.out)
 refine Sl.step_app2 (k := .i64) (B := B) (v := y3) (l := l3) (m := Seal.b2i (appName [] lc)) rfl _ _ (by rfl) Tryz.underlying76 Sl.elemINT rfl (by rfl) (by rfl) ?_ ?_ ?_ (by decide) ?_ ?_
 ·
  with_reducible exact O3C.out
 ·
  with_reducible exact O_v18.out
 ·
  exact (by have h1 := pname_len [] lc; have h2 := HLC.out; have h3 := HL3.out; simp only [List.length_nil] at h1; rw [Seal.b2i_length]; omega)
 ·
  exact Nat.le_trans HBW.out BX.out.size
 intro v19 wn23 ho hg
 replace HF := Lib.hid (HF.out.grown hg (fun g e1 e2 => by have h5 : g = bf := (Option.some.inj e1).symm; have h6 := (O3.out.lt g e2.symm).2; have h7 := HFS.out; omega))
 replace BX := Lib.hid (BX.out.grown hg (Nat.le_trans HBW.out BX.out.size) (fun g e => (O3C.out.lt g e).1))
 have O_v19 := Lib.hid ho; clear ho
 clear hg
 clear hHeld
 refine hK.out _ _ ?_ (fun hHeld => ?_)
 ·
  (try dsimp only); exact ⟨(BX.out.cell PB.out).trans K0.out, (BX.out.cell PB.out).trans K1.out, (BX.out.cell PB.out).trans K2.out, (BX.out.cell PB.out).trans K3.out, (BX.out.cell PB.out).trans K4.out⟩
 clear hK K
 (try simp only [Act.put, Row.pB0, Row.pB1, Row.pB2])
 refine wpAnyH_ready (rs := [10]) (by kernel_rfl) (by simp) ?_
 refine AllReadyH.cons (o := ⟨some 23, .call ⟨.builtin .append, #[.tmp 19, .tmp 22], #[76, 76]⟩, 76, "l08_thing.go:11", #[⟨6, .data⟩, ⟨9, .data⟩, ⟨6, .chain⟩], none⟩) rfl (fun K hK => ?_) AllReadyH.nil
 refine Sl.step_app2 (k := .i64) (B := B) (v := v19) (l := (l3 ++ Seal.b2i (appName [] lc))) (m := [f]) rfl _ _ (by rfl) Tryz.underlying76 Sl.elemINT rfl (by rfl) (by rfl) ?_ ?_ ?_ (by decide) ?_ ?_
 ·
  with_reducible exact O_v19.out
 ·
  with_reducible exact HF.out
 ·
  exact (by have h1 := pname_len [] lc; have h2 := HLC.out; have h3 := HL3.out; simp only [List.length_nil] at h1; rw [List.length_append, Seal.b2i_length, List.length_singleton]; omega)
 ·
  exact Nat.le_trans HBW.out BX.out.size
 intro v23 wn24 ho hg
 replace BX := Lib.hid (BX.out.grown hg (Nat.le_trans HBW.out BX.out.size) (fun g e => (O_v19.out.lt g e).1))
 have O_v23 := Lib.hid ho; clear ho
 clear hg
 clear hHeld
 refine hK.out _ _ ?_ (fun hHeld => ?_)
 ·
  (try dsimp only); exact ⟨(BX.out.cell PB.out).trans K0.out, (BX.out.cell PB.out).trans K1.out, (BX.out.cell PB.out).trans K2.out, (BX.out.cell PB.out).trans K3.out, (BX.out.cell PB.out).trans K4.out⟩
 clear hK K
 (try simp only [Act.put, Row.pB0, Row.pB1, Row.pB2])
 refine wpAnyH_take (i := 11) (oi := ⟨some 2, .assign (.tmp 23), 76, "l08_thing.go:11", #[⟨10, .data⟩, ⟨10, .chain⟩, ⟨0, .phase⟩, ⟨1, .phase⟩, ⟨2, .phase⟩, ⟨3, .phase⟩, ⟨4, .phase⟩, ⟨5, .phase⟩, ⟨6, .phase⟩, ⟨7, .phase⟩, ⟨8, .phase⟩, ⟨9, .phase⟩, ⟨10, .phase⟩], none⟩) (v := ?_) rfl (by kernel_rfl) (by kernel_rfl) (by kernel_rfl) (fun _ _ _ h => h) (Or.inl ⟨by rfl, ?_⟩) (by assumption) ?_
 rotate_left
 ·
  intro w' hSw; (try dsimp only at hSw); first | (go_simp; done) | (go_simp; with_reducible rfl)
 (try simp only [Act.put, Row.pB0, Row.pB1, Row.pB2])
 refine wpAnyH_done (by kernel_rfl) ?_ _
 exact NoPanic.normal (HQ.out _ _ _ _ _ _ _ _ _ _ _ _ _ O_v23.out BX.out)
end Go.Proofs.YtfglcmanmfenpaaGreat.Row
/- The region of the program's portion. No conditions but that lengths fit. -/
namespace Go.Proofs.YtfglcmanmfenpaaGreat.Row
open Go.ChangeShapes Go.WideShapes Go.ChangeAt Go.RowKit Go.Instr
set_option linter.unusedVariables false
set_option maxRecDepth 100000
end Go.Proofs.YtfglcmanmfenpaaGreat.Row
/- Contracts of chapter 3's Encrypt, Decrypt and DeriveSecret, the reference model's, and the program's DeriveSecret. No conditions but that lengths fit and that the elements are bytes. -/
namespace Go.Proofs.YtfglcmanmfenpaaGreat.Sl
open Go.ChangeShapes Go.WideShapes Go.ChangeAt Go.RowKit Go.Instr
open Seal (digest mac b2i derive dstep chg encF decF enc dec)
set_option linter.unusedVariables false
set_option maxRecDepth 100000
end Go.Proofs.YtfglcmanmfenpaaGreat.Sl
/- SignedPortion of the model and of the program; the program's mac, clone and sign. No conditions but that lengths fit. -/
namespace Go.Proofs.YtfglcmanmfenpaaGreat.Row
open Go.ChangeShapes Go.WideShapes Go.ChangeAt Go.RowKit Go.Instr
set_option linter.unusedVariables false
set_option maxRecDepth 100000
set_option maxHeartbeats 4000000 in
theorem specSignedPortion (a b c : Value) (x : Dt) (w : World) (h : DHold w a b c x) (hB : Sl.Byt x.2.1) (hl : smD x) :
    Calls Tryz.prog 100 #[.agg (dc a b c x.2.2.2.1 x.2.2.2.2)] w (Sl.GivesI w (portD x)) := by
  obtain ⟨l, m, k, f, s⟩ := x
  simp only at hB ⊢
  have hl1 : bulk l ≤ 1200000 := hl.1
  have hl2 : m.length ≤ 1200000 := hl.2.1
  have hl3 : bulk k ≤ 1200000 := hl.2.2
  obtain ⟨xa, na, ca, xb, nb, cb, xc, nc, cc, rfl, rfl, rfl⟩ := h.shape
  have HY := Lib.hid hB; have HL1 := Lib.hid hl1; have HL2 := Lib.hid hl2; have HL3 := Lib.hid hl3
  have HB := Lib.hid ((Below.refl w.heap.size w).alloc (Nat.le_refl _) (.cells (dc (.slice xa na ca) (.slice xb nb cb) (.slice xc nc cc) f s) 31))
  have H0 := Lib.hid (h.on HB.out)
  have HX := Lib.hid (Ret.Blk.new w (dc (.slice xa na ca) (.slice xb nb cb) (.slice xc nc cc) f s) 31)
  have HLT := Lib.hid (show (Seal.b2i (appName [] l) ++ Seal.b2i m).length ≤ 12000000 by
    have h1 := pname_len [] l
    simp only [List.length_nil] at h1
    simp only [List.length_append, Seal.b2i_length]; omega)
  clear h hB hl hl1 hl2 hl3
  go_enter Tryz.func100, Tryz.ntmps100
  go_wp2_with fail
  refine portS1 (Lib.hid H0.out.1) (Lib.hid H0.out.2.1) HY HL1 HL2 (Lib.hid (HX.out.cell 0)) (Lib.hid (HX.out.cell 1)) (Lib.hid (HX.out.cell 2)) (Lib.hid (HX.out.cell 3)) (Lib.hid (HX.out.cell 4)) ?_
  intro u4 u5 u6 u7 u8 u9 u10 u11 u12 v12 wx ho hb
  have HO := Lib.hid ho
  have HB2 := Lib.hid (HB.out.trans (hb.mono HB.out.size))
  have HX2 := Lib.hid (HX.out.on hb)
  have H2 := Lib.hid (H0.out.on hb)
  have HW := Lib.hid hb.size
  have HP := Lib.hid (show w.heap.size < (w.alloc (.cells (dc (.slice xa na ca) (.slice xb nb cb) (.slice xc nc cc) f s) 31)).heap.size by simp)
  clear ho hb
  go_wp2_with fail
  refine portS2 (Lib.hid H2.out.2.2) HL3 HLT HO HW HP (Lib.hid (HX2.out.cell 0)) (Lib.hid (HX2.out.cell 1)) (Lib.hid (HX2.out.cell 2)) (Lib.hid (HX2.out.cell 3)) (Lib.hid (HX2.out.cell 4)) ?_
  intro u13 u14 u15 u16 u17 u18 u19 u20 u21 u22 u23 v23 w2 ho hb
  have HO2 := Lib.hid ho
  have HB3 := Lib.hid ((HB.out.trans ((Below.refl _ _).mono (Nat.le_refl _))))
  have HBX := Lib.hid hb
  clear ho hb
  go_wp2_with fail
  go_ret
  exact ⟨_, rfl, HO2.out.mono HB.out.size, HB2.out.trans (HBX.out.mono HB.out.size)⟩
set_option maxHeartbeats 1000000 in
theorem cloneBs (v : Value) (l : List Int) (w : World) (h : Sl.Holds .u8 w v l) (hl : l.length ≤ 9000000) :
    Calls Tryz.prog 75 #[v] w (Sl.GivesB w l) := by
  obtain ⟨x, cx, rfl, hcx, hh⟩ := h.shape
  cases x with
  | none =>
    have hl0 : l = [] := by
      obtain ⟨x', cap', hv, hc', hh'⟩ := hh
      cases hv
      rcases hh' with h1 | ⟨b, off, h1, _⟩
      · exact h1
      · cases h1
    subst hl0
    have hq : ∀ w : World, (binOp .eql 22 (.slice none 0 cx) (.slice none 0 0)).run Tryz.prog w = .ok (.bool true) w := fun w => by
      exact Lib.run_eql_slice_nil w _ _ _ _ _ _ _ Tryz.underlying22
    clear hh h
    simp only [List.length_nil]
    go_enter Tryz.func75, Tryz.ntmps75
    go_wp2
    go_ret
    exact ⟨_, rfl, Sl.Own.nil _ _ _ _, Below.refl _ _⟩
  | some ad =>
    have HB := Lib.hid ((Below.refl w.heap.size w).alloc (Nat.le_refl _) (.cells #[] 5))
    have HH := Lib.hid (hh.on HB.out)
    have HO := Lib.hid (Sl.own_empty .u8 5 w)
    have hq : ∀ w : World, (binOp .eql 22 (.slice (some ad) l.length cx) (.slice none 0 0)).run Tryz.prog w = .ok (.bool false) w := fun w => by
      exact Lib.run_eql_slice_nil w _ _ _ _ _ _ _ Tryz.underlying22
    clear hh h
    go_enter Tryz.func75, Tryz.ntmps75
    go_wp2_with (at_builtin; refine Sl.wpList_app (k := .u8) (B := w.heap.size) (l := []) (m := l) rfl _ _ rfl Tryz.underlying22 Sl.elemBYTE rfl rfl rfl HO.out HH.out (by simp; omega) (by decide) (by simp) ?_)
    intro v2 w2 ho hg
    have HO2 := Lib.hid ho; have HB2 := Lib.hid (HB.out.grown hg (by simp) (fun g hh => (HO.out.lt g hh).1))
    clear ho hg
    go_wp2_with fail
    go_ret
    exact ⟨_, rfl, HO2.out, HB2.out⟩
end Go.Proofs.YtfglcmanmfenpaaGreat.Row
