/- Contracts and mathematics, joined: PortI. No conditions but those that each states. -/
import Derived.Test.YtlhchmjnaanjpaaGreatDoorB12
/- The region of the program's portion. No conditions but that lengths fit. -/
namespace Go.Proofs.YtlhchmjnaanjpaaGreatDoor.Row
open Go.ChangeShapes Go.WideShapes Go.ChangeAt Go.RowKit Go.Instr
set_option linter.unusedVariables false
set_option maxRecDepth 100000
set_option maxRecDepth 100000 in
set_option maxHeartbeats 4000000 in
theorem portI {Q : Exit → Act → World → Prop} {v1 v2 v3 v4 v5 v6 v7 v8 v9 v10 v11 v12 v13 v14 v15 v16 v17 v18 v19 v20 v21 v22 v23 v24 v25 v26 : Value} {w : World} {p na ca nb cb nc cc : Nat} {xa xb xc : Option Addr} {f s : Int} {la lc : List ByteArray} {lb : List Int} (H_a : Hid (Holds Value.string w (.slice xa na ca) la)) (H_b : Hid (Sl.Holds .u8 w (.slice xb nb cb) lb)) (HBY : Hid (Sl.Byt lb)) (HLA : Hid (bulk la ≤ 1200000)) (HLB : Hid (lb.length ≤ 1200000)) (H_c : Hid (Holds Value.string w (.slice xc nc cc) lc)) (HLC : Hid (bulk lc ≤ 1200000)) (HLT : Hid ((Seal.b2i (appName [] la) ++ Seal.b2i lb ++ Seal.b2i (appName [] lc) ++ [f]).length ≤ 10000000)) (K0 : Hid (w.cell? ⟨p, 0, none⟩ = some (.slice xa na ca))) (K1 : Hid (w.cell? ⟨p, 1, none⟩ = some (.slice xb nb cb))) (K2 : Hid (w.cell? ⟨p, 2, none⟩ = some (.slice xc nc cc))) (K3 : Hid (w.cell? ⟨p, 3, none⟩ = some (.int .i64 f))) (K4 : Hid (w.cell? ⟨p, 4, none⟩ = some (.int .i64 s)))
  (hQ : ∀ (u3 u4 u5 u6 u7 u8 u9 u10 u11 u12 u13 u14 u15 u16 u17 u18 u19 u20 u21 u22 u23 u24 u25 u26 : Value) (v26 : Value) (wx : World), Sl.Own 3 .i64 w.heap.size wx v26 (Seal.b2i (appName [] la) ++ Seal.b2i lb ++ Seal.b2i (appName [] lc) ++ [f]) → Below w.heap.size w wx → Q .normal ⟨#[.pointer (some ⟨p, 0, none⟩), v1, v26, u3, u4, u5, u6, u7, u8, u9, u10, u11, u12, u13, u14, u15, u16, u17, u18, u19, u20, u21, u22, u23, u24, u25, u26], []⟩ wx) :
  (Code.region 1 #[⟨some 3, .move (.tmp 0), 183, "l08_thing.go:28", #[], none⟩,
   ⟨some 4, .nilCheck (.tmp 3), 0, "l08_thing.go:28", #[⟨0, .data⟩], none⟩,
   ⟨some 5, .fieldAddr 34 (.tmp 4) 0, 0, "l08_thing.go:28", #[⟨1, .data⟩], none⟩,
   ⟨some 6, .load 32 (.tmp 5), 32, "l08_thing.go:28", #[⟨2, .data⟩], none⟩,
   ⟨some 7, .call ⟨.value (.func 172), #[.const (Value.slice none 0 0), .tmp 6], #[22, 32]⟩, 22, "l08_thing.go:29", #[⟨3, .data⟩], none⟩,
   ⟨some 8, .call ⟨.value (.func 171), #[.tmp 7], #[22]⟩, 79, "l08_thing.go:29", #[⟨4, .data⟩, ⟨4, .chain⟩], none⟩,
   ⟨some 9, .move (.tmp 0), 183, "l08_thing.go:28", #[], none⟩,
   ⟨some 10, .nilCheck (.tmp 9), 0, "l08_thing.go:28", #[⟨6, .data⟩], none⟩,
   ⟨some 11, .fieldAddr 34 (.tmp 10) 1, 0, "l08_thing.go:28", #[⟨7, .data⟩], none⟩,
   ⟨some 12, .load 22 (.tmp 11), 22, "l08_thing.go:28", #[⟨8, .data⟩], none⟩,
   ⟨some 13, .call ⟨.value (.func 171), #[.tmp 12], #[22]⟩, 79, "l08_thing.go:30", #[⟨9, .data⟩, ⟨5, .chain⟩], none⟩,
   ⟨some 14, .move (.tmp 0), 183, "l08_thing.go:28", #[], none⟩,
   ⟨some 15, .nilCheck (.tmp 14), 0, "l08_thing.go:28", #[⟨11, .data⟩], none⟩,
   ⟨some 16, .fieldAddr 34 (.tmp 15) 2, 0, "l08_thing.go:28", #[⟨12, .data⟩], none⟩,
   ⟨some 17, .load 32 (.tmp 16), 32, "l08_thing.go:28", #[⟨13, .data⟩], none⟩,
   ⟨some 18, .call ⟨.value (.func 172), #[.const (Value.slice none 0 0), .tmp 17], #[22, 32]⟩, 22, "l08_thing.go:31", #[⟨14, .data⟩, ⟨10, .chain⟩], none⟩,
   ⟨some 19, .call ⟨.value (.func 171), #[.tmp 18], #[22]⟩, 79, "l08_thing.go:31", #[⟨15, .data⟩, ⟨15, .chain⟩], none⟩,
   ⟨some 20, .move (.tmp 0), 183, "l08_thing.go:28", #[], none⟩,
   ⟨some 21, .nilCheck (.tmp 20), 0, "l08_thing.go:28", #[⟨17, .data⟩], none⟩,
   ⟨some 22, .fieldAddr 34 (.tmp 21) 3, 0, "l08_thing.go:28", #[⟨18, .data⟩], none⟩,
   ⟨some 23, .load 3 (.tmp 22), 3, "l08_thing.go:28", #[⟨19, .data⟩], none⟩,
   ⟨some 24, .buildSlice 79 1 #[(0, .tmp 23)], 79, "l08_thing.go:28", #[⟨20, .data⟩], none⟩,
   ⟨some 25, .buildSlice 213 4 #[(0, .tmp 8), (1, .tmp 13), (2, .tmp 19), (3, .tmp 24)], 213, "l08_thing.go:28", #[⟨5, .data⟩, ⟨10, .data⟩, ⟨16, .data⟩, ⟨21, .data⟩], none⟩,
   ⟨some 26, .call ⟨.value (.func 170), #[.tmp 25], #[213]⟩, 79, "l08_thing.go:28", #[⟨22, .data⟩, ⟨16, .chain⟩], none⟩,
   ⟨some 2, .assign (.tmp 26), 79, "l08_thing.go:28", #[⟨23, .data⟩, ⟨23, .chain⟩, ⟨0, .phase⟩, ⟨1, .phase⟩, ⟨2, .phase⟩, ⟨3, .phase⟩, ⟨4, .phase⟩, ⟨5, .phase⟩, ⟨6, .phase⟩, ⟨7, .phase⟩, ⟨8, .phase⟩, ⟨9, .phase⟩, ⟨10, .phase⟩, ⟨11, .phase⟩, ⟨12, .phase⟩, ⟨13, .phase⟩, ⟨14, .phase⟩, ⟨15, .phase⟩, ⟨16, .phase⟩, ⟨17, .phase⟩, ⟨18, .phase⟩, ⟨19, .phase⟩, ⟨20, .phase⟩, ⟨21, .phase⟩, ⟨22, .phase⟩, ⟨23, .phase⟩], none⟩] true).wp Tryz.prog Q ⟨#[.pointer (some ⟨p, 0, none⟩), v1, v2, v3, v4, v5, v6, v7, v8, v9, v10, v11, v12, v13, v14, v15, v16, v17, v18, v19, v20, v21, v22, v23, v24, v25, v26], []⟩ w := by
 have HQ := Lib.hid hQ; clear hQ
 have hdr : Below w.heap.size w w.drew := (Below.refl _ _).drew
 have BB := Lib.hid hdr
 refine wp_region_noPanic ?_
 refine wp_region_held_drew (S := (fun w' => w'.cell? ⟨p, 0, none⟩ = some (.slice xa na ca) ∧ w'.cell? ⟨p, 1, none⟩ = some (.slice xb nb cb) ∧ w'.cell? ⟨p, 2, none⟩ = some (.slice xc nc cc) ∧ w'.cell? ⟨p, 3, none⟩ = some (.int .i64 f) ∧ w'.cell? ⟨p, 4, none⟩ = some (.int .i64 s))) (by kernel_rfl) ?_ (fun hHeld => ?_)
 ·
  exact ⟨kc K0.out BB.out, kc K1.out BB.out, kc K2.out BB.out, kc K3.out BB.out, kc K4.out BB.out⟩
 clear hdr
 generalize w.drew = wd at *
 refine wpAnyH_take (i := 0) (oi := ⟨some 3, .move (.tmp 0), 183, "l08_thing.go:28", #[], none⟩) (v := ?_) rfl (by kernel_rfl) (by kernel_rfl) (by kernel_rfl) (fun _ _ _ h => h) (Or.inl ⟨by rfl, ?_⟩) (by assumption) ?_
 rotate_left
 ·
  intro w' hSw; (try dsimp only at hSw); first | (go_simp; done) | (go_simp; with_reducible rfl)
 (try simp only [Act.put, Row.pB0, Row.pB1, Row.pB2])
 refine wpAnyH_take (i := 1) (oi := ⟨some 4, .nilCheck (.tmp 3), 0, "l08_thing.go:28", #[⟨0, .data⟩], none⟩) (v := ?_) rfl (by kernel_rfl) (by kernel_rfl) (by kernel_rfl) (fun _ _ _ h => h) (Or.inl ⟨by rfl, ?_⟩) (by assumption) ?_
 rotate_left
 ·
  intro w' hSw; (try dsimp only at hSw); first | (go_simp; done) | (go_simp; with_reducible rfl)
 (try simp only [Act.put, Row.pB0, Row.pB1, Row.pB2])
 refine wpAnyH_take (i := 2) (oi := ⟨some 5, .fieldAddr 34 (.tmp 4) 0, 0, "l08_thing.go:28", #[⟨1, .data⟩], none⟩) (v := ?_) rfl (by kernel_rfl) (by kernel_rfl) (by kernel_rfl) (fun _ _ _ h => h) (Or.inl ⟨by rfl, ?_⟩) (by assumption) ?_
 rotate_left
 ·
  intro w' hSw; (try dsimp only at hSw); first | (go_simp; done) | (go_simp; with_reducible rfl)
 (try simp only [Act.put, Row.pB0, Row.pB1, Row.pB2])
 refine wpAnyH_take (i := 3) (oi := ⟨some 6, .load 32 (.tmp 5), 32, "l08_thing.go:28", #[⟨2, .data⟩], none⟩) (v := ?_) rfl (by kernel_rfl) (by kernel_rfl) (by kernel_rfl) (fun _ _ _ h => h) (Or.inl ⟨by rfl, ?_⟩) (by assumption) ?_
 rotate_left
 ·
  intro w' hSw; (try dsimp only at hSw); first | (go_simp; done) | (go_simp; with_reducible rfl)
 (try simp only [Act.put, Row.pB0, Row.pB1, Row.pB2])
 refine wpAnyH_take (i := 6) (oi := ⟨some 9, .move (.tmp 0), 183, "l08_thing.go:28", #[], none⟩) (v := ?_) rfl (by kernel_rfl) (by kernel_rfl) (by kernel_rfl) (fun _ _ _ h => h) (Or.inl ⟨by rfl, ?_⟩) (by assumption) ?_
 rotate_left
 ·
  intro w' hSw; (try dsimp only at hSw); first | (go_simp; done) | (go_simp; with_reducible rfl)
 (try simp only [Act.put, Row.pB0, Row.pB1, Row.pB2])
 refine wpAnyH_take (i := 7) (oi := ⟨some 10, .nilCheck (.tmp 9), 0, "l08_thing.go:28", #[⟨6, .data⟩], none⟩) (v := ?_) rfl (by kernel_rfl) (by kernel_rfl) (by kernel_rfl) (fun _ _ _ h => h) (Or.inl ⟨by rfl, ?_⟩) (by assumption) ?_
 rotate_left
 ·
  intro w' hSw; (try dsimp only at hSw); first | (go_simp; done) | (go_simp; with_reducible rfl)
 (try simp only [Act.put, Row.pB0, Row.pB1, Row.pB2])
 refine wpAnyH_take (i := 8) (oi := ⟨some 11, .fieldAddr 34 (.tmp 10) 1, 0, "l08_thing.go:28", #[⟨7, .data⟩], none⟩) (v := ?_) rfl (by kernel_rfl) (by kernel_rfl) (by kernel_rfl) (fun _ _ _ h => h) (Or.inl ⟨by rfl, ?_⟩) (by assumption) ?_
 rotate_left
 ·
  intro w' hSw; (try dsimp only at hSw); first | (go_simp; done) | (go_simp; with_reducible rfl)
 (try simp only [Act.put, Row.pB0, Row.pB1, Row.pB2])
 refine wpAnyH_take (i := 9) (oi := ⟨some 12, .load 22 (.tmp 11), 22, "l08_thing.go:28", #[⟨8, .data⟩], none⟩) (v := ?_) rfl (by kernel_rfl) (by kernel_rfl) (by kernel_rfl) (fun _ _ _ h => h) (Or.inl ⟨by rfl, ?_⟩) (by assumption) ?_
 rotate_left
 ·
  intro w' hSw; (try dsimp only at hSw); first | (go_simp; done) | (go_simp; with_reducible rfl)
 (try simp only [Act.put, Row.pB0, Row.pB1, Row.pB2])
 refine wpAnyH_take (i := 11) (oi := ⟨some 14, .move (.tmp 0), 183, "l08_thing.go:28", #[], none⟩) (v := ?_) rfl (by kernel_rfl) (by kernel_rfl) (by kernel_rfl) (fun _ _ _ h => h) (Or.inl ⟨by rfl, ?_⟩) (by assumption) ?_
 rotate_left
 ·
  intro w' hSw; (try dsimp only at hSw); first | (go_simp; done) | (go_simp; with_reducible rfl)
 (try simp only [Act.put, Row.pB0, Row.pB1, Row.pB2])
 refine wpAnyH_take (i := 12) (oi := ⟨some 15, .nilCheck (.tmp 14), 0, "l08_thing.go:28", #[⟨11, .data⟩], none⟩) (v := ?_) rfl (by kernel_rfl) (by kernel_rfl) (by kernel_rfl) (fun _ _ _ h => h) (Or.inl ⟨by rfl, ?_⟩) (by assumption) ?_
 rotate_left
 ·
  intro w' hSw; (try dsimp only at hSw); first | (go_simp; done) | (go_simp; with_reducible rfl)
 (try simp only [Act.put, Row.pB0, Row.pB1, Row.pB2])
 refine wpAnyH_take (i := 13) (oi := ⟨some 16, .fieldAddr 34 (.tmp 15) 2, 0, "l08_thing.go:28", #[⟨12, .data⟩], none⟩) (v := ?_) rfl (by kernel_rfl) (by kernel_rfl) (by kernel_rfl) (fun _ _ _ h => h) (Or.inl ⟨by rfl, ?_⟩) (by assumption) ?_
 rotate_left
 ·
  intro w' hSw; (try dsimp only at hSw); first | (go_simp; done) | (go_simp; with_reducible rfl)
 (try simp only [Act.put, Row.pB0, Row.pB1, Row.pB2])
 refine wpAnyH_take (i := 14) (oi := ⟨some 17, .load 32 (.tmp 16), 32, "l08_thing.go:28", #[⟨13, .data⟩], none⟩) (v := ?_) rfl (by kernel_rfl) (by kernel_rfl) (by kernel_rfl) (fun _ _ _ h => h) (Or.inl ⟨by rfl, ?_⟩) (by assumption) ?_
 rotate_left
 ·
  intro w' hSw; (try dsimp only at hSw); first | (go_simp; done) | (go_simp; with_reducible rfl)
 (try simp only [Act.put, Row.pB0, Row.pB1, Row.pB2])
 refine wpAnyH_take (i := 17) (oi := ⟨some 20, .move (.tmp 0), 183, "l08_thing.go:28", #[], none⟩) (v := ?_) rfl (by kernel_rfl) (by kernel_rfl) (by kernel_rfl) (fun _ _ _ h => h) (Or.inl ⟨by rfl, ?_⟩) (by assumption) ?_
 rotate_left
 ·
  intro w' hSw; (try dsimp only at hSw); first | (go_simp; done) | (go_simp; with_reducible rfl)
 (try simp only [Act.put, Row.pB0, Row.pB1, Row.pB2])
 refine wpAnyH_take (i := 18) (oi := ⟨some 21, .nilCheck (.tmp 20), 0, "l08_thing.go:28", #[⟨17, .data⟩], none⟩) (v := ?_) rfl (by kernel_rfl) (by kernel_rfl) (by kernel_rfl) (fun _ _ _ h => h) (Or.inl ⟨by rfl, ?_⟩) (by assumption) ?_
 rotate_left
 ·
  intro w' hSw; (try dsimp only at hSw); first | (go_simp; done) | (go_simp; with_reducible rfl)
 (try simp only [Act.put, Row.pB0, Row.pB1, Row.pB2])
 refine wpAnyH_take (i := 19) (oi := ⟨some 22, .fieldAddr 34 (.tmp 21) 3, 0, "l08_thing.go:28", #[⟨18, .data⟩], none⟩) (v := ?_) rfl (by kernel_rfl) (by kernel_rfl) (by kernel_rfl) (fun _ _ _ h => h) (Or.inl ⟨by rfl, ?_⟩) (by assumption) ?_
 rotate_left
 ·
  intro w' hSw; (try dsimp only at hSw); first | (go_simp; done) | (go_simp; with_reducible rfl)
 (try simp only [Act.put, Row.pB0, Row.pB1, Row.pB2])
 refine wpAnyH_take (i := 20) (oi := ⟨some 23, .load 3 (.tmp 22), 3, "l08_thing.go:28", #[⟨19, .data⟩], none⟩) (v := ?_) rfl (by kernel_rfl) (by kernel_rfl) (by kernel_rfl) (fun _ _ _ h => h) (Or.inl ⟨by rfl, ?_⟩) (by assumption) ?_
 rotate_left
 ·
  intro w' hSw; (try dsimp only at hSw); first | (go_simp; done) | (go_simp; with_reducible rfl)
 (try simp only [Act.put, Row.pB0, Row.pB1, Row.pB2])
 refine wpAnyH_ready (rs := [4, 21]) (by kernel_rfl) (by simp) ?_
 refine AllReadyH.cons (o := ⟨some 7, .call ⟨.value (.func 172), #[.const (Value.slice none 0 0), .tmp 6], #[22, 32]⟩, 22, "l08_thing.go:29", #[⟨3, .data⟩], none⟩) rfl (fun K hK => ?_) ?_
 ·
  go_simp
  refine (implAppendName (.slice none 0 0) _ [] la _ (Sl.Holds.nil _ _) (H_a.out.on BB.out) (by simp) HLA.out).mono ?_
  rintro e wn1 ⟨v7, rfl, ho, hb⟩
  have H_v7 := Lib.hid ho.holds; clear ho
  replace BB := Lib.hid (BB.out.trans (hb.mono BB.out.size))
  clear hb
  (try go_wp2_with fail)
  clear hHeld
  refine hK.out _ _ ?_ (fun hHeld => ?_)
  ·
   (try dsimp only); exact ⟨kc K0.out BB.out, kc K1.out BB.out, kc K2.out BB.out, kc K3.out BB.out, kc K4.out BB.out⟩
  clear hK K
  (try simp only [Act.put, Row.pB0, Row.pB1, Row.pB2])
  refine wpAnyH_ready (rs := [5, 21]) (by kernel_rfl) (by simp) ?_
  refine AllReadyH.cons (o := ⟨some 8, .call ⟨.value (.func 171), #[.tmp 7], #[22]⟩, 79, "l08_thing.go:29", #[⟨4, .data⟩, ⟨4, .chain⟩], none⟩) rfl (fun K hK => ?_) ?_
  ·
   go_simp
   refine (Sl.implBytesToInts _ (appName [] la) _ (H_v7.out) (pbyt_app la pbyt_nil) (by have h1 := pname_len [] la; have h2 := HLA.out; simp only [List.length_nil] at h1; omega)).mono ?_
   rintro e wn2 ⟨v8, rfl, ho, hb⟩
   obtain ⟨g_v8, n_v8, c_v8, rfl, ho⟩ := own_some ho (b2i_pos _)
   have O_v8 := Lib.hid (ho.holds)
   clear ho
   replace H_v7 := Lib.hid (H_v7.out.on hb)
   replace BB := Lib.hid (BB.out.trans (hb.mono BB.out.size))
   clear hb
   (try go_wp2_with fail)
   clear hHeld
   refine hK.out _ _ ?_ (fun hHeld => ?_)
   ·
    (try dsimp only); exact ⟨kc K0.out BB.out, kc K1.out BB.out, kc K2.out BB.out, kc K3.out BB.out, kc K4.out BB.out⟩
   clear hK K
   (try simp only [Act.put, Row.pB0, Row.pB1, Row.pB2])
   refine wpAnyH_ready (rs := [10, 21]) (by kernel_rfl) (by simp) ?_
   refine AllReadyH.cons (o := ⟨some 13, .call ⟨.value (.func 171), #[.tmp 12], #[22]⟩, 79, "l08_thing.go:30", #[⟨9, .data⟩, ⟨5, .chain⟩], none⟩) rfl (fun K hK => ?_) ?_
   ·
    go_simp
    refine (Sl.implBytesToInts _ (lb) _ (H_b.out.on BB.out) HBY.out (by have h2 := HLB.out; omega)).mono ?_
    rintro e wn3 ⟨v13, rfl, ho, hb⟩
    obtain ⟨g_v13, n_v13, c_v13, rfl, ho⟩ := own_some ho (b2i_pos _)
    have O_v13 := Lib.hid (ho.holds)
    clear ho
    replace H_v7 := Lib.hid (H_v7.out.on hb)
    replace O_v8 := Lib.hid (O_v8.out.on hb)
    replace BB := Lib.hid (BB.out.trans (hb.mono BB.out.size))
    clear hb
    (try go_wp2_with fail)
    clear hHeld
    refine hK.out _ _ ?_ (fun hHeld => ?_)
    ·
     (try dsimp only); exact ⟨kc K0.out BB.out, kc K1.out BB.out, kc K2.out BB.out, kc K3.out BB.out, kc K4.out BB.out⟩
    clear hK K
    (try simp only [Act.put, Row.pB0, Row.pB1, Row.pB2])
    refine wpAnyH_ready (rs := [15, 21]) (by kernel_rfl) (by simp) ?_
    refine AllReadyH.cons (o := ⟨some 18, .call ⟨.value (.func 172), #[.const (Value.slice none 0 0), .tmp 17], #[22, 32]⟩, 22, "l08_thing.go:31", #[⟨14, .data⟩, ⟨10, .chain⟩], none⟩) rfl (fun K hK => ?_) ?_
    ·
     go_simp
     refine (implAppendName (.slice none 0 0) _ [] lc _ (Sl.Holds.nil _ _) (H_c.out.on BB.out) (by simp) HLC.out).mono ?_
     rintro e wn4 ⟨v18, rfl, ho, hb⟩
     have H_v18 := Lib.hid ho.holds; clear ho
     replace H_v7 := Lib.hid (H_v7.out.on hb)
     replace O_v8 := Lib.hid (O_v8.out.on hb)
     replace O_v13 := Lib.hid (O_v13.out.on hb)
     replace BB := Lib.hid (BB.out.trans (hb.mono BB.out.size))
     clear hb
     (try go_wp2_with fail)
     clear hHeld
     refine hK.out _ _ ?_ (fun hHeld => ?_)
     ·
      (try dsimp only); exact ⟨kc K0.out BB.out, kc K1.out BB.out, kc K2.out BB.out, kc K3.out BB.out, kc K4.out BB.out⟩
     clear hK K
     (try simp only [Act.put, Row.pB0, Row.pB1, Row.pB2])
     refine wpAnyH_ready (rs := [16, 21]) (by kernel_rfl) (by simp) ?_
     refine AllReadyH.cons (o := ⟨some 19, .call ⟨.value (.func 171), #[.tmp 18], #[22]⟩, 79, "l08_thing.go:31", #[⟨15, .data⟩, ⟨15, .chain⟩], none⟩) rfl (fun K hK => ?_) ?_
     ·
      go_simp
      refine (Sl.implBytesToInts _ (appName [] lc) _ (H_v18.out) (pbyt_app lc pbyt_nil) (by have h1 := pname_len [] lc; have h2 := HLC.out; simp only [List.length_nil] at h1; omega)).mono ?_
      rintro e wn5 ⟨v19, rfl, ho, hb⟩
      obtain ⟨g_v19, n_v19, c_v19, rfl, ho⟩ := own_some ho (b2i_pos _)
      have O_v19 := Lib.hid (ho.holds)
      clear ho
      replace H_v7 := Lib.hid (H_v7.out.on hb)
      replace O_v8 := Lib.hid (O_v8.out.on hb)
      replace O_v13 := Lib.hid (O_v13.out.on hb)
      replace H_v18 := Lib.hid (H_v18.out.on hb)
      replace BB := Lib.hid (BB.out.trans (hb.mono BB.out.size))
      clear hb
      (try go_wp2_with fail)
      clear hHeld
      refine hK.out _ _ ?_ (fun hHeld => ?_)
      ·
       (try dsimp only); exact ⟨kc K0.out BB.out, kc K1.out BB.out, kc K2.out BB.out, kc K3.out BB.out, kc K4.out BB.out⟩
      clear hK K
      (try simp only [Act.put, Row.pB0, Row.pB1, Row.pB2])
      refine wpAnyH_ready (rs := [21]) (by kernel_rfl) (by simp) ?_
      refine AllReadyH.cons (o := ⟨some 24, .buildSlice 79 1 #[(0, .tmp 23)], 79, "l08_thing.go:28", #[⟨20, .data⟩], none⟩) rfl (fun K hK => ?_) AllReadyH.nil
      go_simp
      have hb : Below wn5.heap.size wn5 (wn5.alloc (.cells #[.int .i64 f] 3)) := (Below.refl _ _).alloc (Nat.le_refl _) _
      obtain ⟨bf, hbf⟩ : ∃ b, b = wn5.heap.size := ⟨_, rfl⟩
      have HF := Lib.hid (hold_one wn5 f bf hbf)
      rw [← hbf]
      clear hbf
      replace H_v7 := Lib.hid (H_v7.out.on hb)
      replace O_v8 := Lib.hid (O_v8.out.on hb)
      replace O_v13 := Lib.hid (O_v13.out.on hb)
      replace H_v18 := Lib.hid (H_v18.out.on hb)
      replace O_v19 := Lib.hid (O_v19.out.on hb)
      replace BB := Lib.hid (BB.out.trans (hb.mono BB.out.size))
      clear hb
      generalize wn5.alloc (.cells #[.int .i64 f] 3) = wn6 at *
      clear hHeld
      refine hK.out _ _ ?_ (fun hHeld => ?_)
      ·
       (try dsimp only); exact ⟨kc K0.out BB.out, kc K1.out BB.out, kc K2.out BB.out, kc K3.out BB.out, kc K4.out BB.out⟩
      clear hK K
      (try simp only [Act.put, Row.pB0, Row.pB1, Row.pB2])
      refine wpAnyH_ready (rs := [22]) (by kernel_rfl) (by simp) ?_
      refine AllReadyH.cons (o := ⟨some 25, .buildSlice 213 4 #[(0, .tmp 8), (1, .tmp 13), (2, .tmp 19), (3, .tmp 24)], 213, "l08_thing.go:28", #[⟨5, .data⟩, ⟨10, .data⟩, ⟨16, .data⟩, ⟨21, .data⟩], none⟩) rfl (fun K hK => ?_) AllReadyH.nil
      go_simp
      have hb : Below wn6.heap.size wn6 (wn6.alloc (.cells #[.slice (some ⟨g_v8, 0, none⟩) n_v8 c_v8, .slice (some ⟨g_v13, 0, none⟩) n_v13 c_v13, .slice (some ⟨g_v19, 0, none⟩) n_v19 c_v19, .slice (some ⟨bf, 0, none⟩) 1 1] 79)) := (Below.refl _ _).alloc (Nat.le_refl _) _
      have HK4 := Lib.hid (Ret.Blk.new wn6 #[.slice (some ⟨g_v8, 0, none⟩) n_v8 c_v8, .slice (some ⟨g_v13, 0, none⟩) n_v13 c_v13, .slice (some ⟨g_v19, 0, none⟩) n_v19 c_v19, .slice (some ⟨bf, 0, none⟩) 1 1] 79)
      replace H_v7 := Lib.hid (H_v7.out.on hb)
      replace O_v8 := Lib.hid (O_v8.out.on hb)
      replace O_v13 := Lib.hid (O_v13.out.on hb)
      replace H_v18 := Lib.hid (H_v18.out.on hb)
      replace O_v19 := Lib.hid (O_v19.out.on hb)
      replace HF := Lib.hid (HF.out.on hb)
      replace BB := Lib.hid (BB.out.trans (hb.mono BB.out.size))
      clear hb
      generalize wn6.alloc (.cells #[.slice (some ⟨g_v8, 0, none⟩) n_v8 c_v8, .slice (some ⟨g_v13, 0, none⟩) n_v13 c_v13, .slice (some ⟨g_v19, 0, none⟩) n_v19 c_v19, .slice (some ⟨bf, 0, none⟩) 1 1] 79) = wn7 at *
      clear hHeld
      refine hK.out _ _ ?_ (fun hHeld => ?_)
      ·
       (try dsimp only); exact ⟨kc K0.out BB.out, kc K1.out BB.out, kc K2.out BB.out, kc K3.out BB.out, kc K4.out BB.out⟩
      clear hK K
      (try simp only [Act.put, Row.pB0, Row.pB1, Row.pB2])
      refine wpAnyH_ready (rs := [23]) (by kernel_rfl) (by simp) ?_
      refine AllReadyH.cons (o := ⟨some 26, .call ⟨.value (.func 170), #[.tmp 25], #[213]⟩, 79, "l08_thing.go:28", #[⟨22, .data⟩, ⟨16, .chain⟩], none⟩) rfl (fun K hK => ?_) AllReadyH.nil
      go_simp
      refine (concat4 HK4.out O_v8.out O_v13.out O_v19.out HF.out HLT.out).mono ?_
      rintro e wn8 ⟨v26, rfl, ho, hb⟩
      have O_v26 := Lib.hid (Sl.Own.mono ho BB.out.size); clear ho
      replace H_v7 := Lib.hid (H_v7.out.on hb)
      replace O_v8 := Lib.hid (O_v8.out.on hb)
      replace O_v13 := Lib.hid (O_v13.out.on hb)
      replace H_v18 := Lib.hid (H_v18.out.on hb)
      replace O_v19 := Lib.hid (O_v19.out.on hb)
      replace HF := Lib.hid (HF.out.on hb)
      replace BB := Lib.hid (BB.out.trans (hb.mono BB.out.size))
      clear hb
      (try go_wp2_with fail)
      clear hHeld
      refine hK.out _ _ ?_ (fun hHeld => ?_)
      ·
       (try dsimp only); exact ⟨kc K0.out BB.out, kc K1.out BB.out, kc K2.out BB.out, kc K3.out BB.out, kc K4.out BB.out⟩
      clear hK K
      (try simp only [Act.put, Row.pB0, Row.pB1, Row.pB2])
      refine wpAnyH_take (i := 24) (oi := ⟨some 2, .assign (.tmp 26), 79, "l08_thing.go:28", #[⟨23, .data⟩, ⟨23, .chain⟩, ⟨0, .phase⟩, ⟨1, .phase⟩, ⟨2, .phase⟩, ⟨3, .phase⟩, ⟨4, .phase⟩, ⟨5, .phase⟩, ⟨6, .phase⟩, ⟨7, .phase⟩, ⟨8, .phase⟩, ⟨9, .phase⟩, ⟨10, .phase⟩, ⟨11, .phase⟩, ⟨12, .phase⟩, ⟨13, .phase⟩, ⟨14, .phase⟩, ⟨15, .phase⟩, ⟨16, .phase⟩, ⟨17, .phase⟩, ⟨18, .phase⟩, ⟨19, .phase⟩, ⟨20, .phase⟩, ⟨21, .phase⟩, ⟨22, .phase⟩, ⟨23, .phase⟩], none⟩) (v := ?_) rfl (by kernel_rfl) (by kernel_rfl) (by kernel_rfl) (fun _ _ _ h => h) (Or.inl ⟨by rfl, ?_⟩) (by assumption) ?_
      rotate_left
      ·
       intro w' hSw; (try dsimp only at hSw); first | (go_simp; done) | (go_simp; with_reducible rfl)
      (try simp only [Act.put, Row.pB0, Row.pB1, Row.pB2])
      refine wpAnyH_done (by kernel_rfl) ?_ _
      exact NoPanic.normal (HQ.out _ _ _ _ _ _ _ _ _ _ _ _ _ _ _ _ _ _ _ _ _ _ _ _ _ _ O_v26.out BB.out)
     refine AllReadyH.cons (o := ⟨some 24, .buildSlice 79 1 #[(0, .tmp 23)], 79, "l08_thing.go:28", #[⟨20, .data⟩], none⟩) rfl (fun K hK => ?_) AllReadyH.nil
     go_simp
     have hb : Below wn4.heap.size wn4 (wn4.alloc (.cells #[.int .i64 f] 3)) := (Below.refl _ _).alloc (Nat.le_refl _) _
     obtain ⟨bf, hbf⟩ : ∃ b, b = wn4.heap.size := ⟨_, rfl⟩
     have HF := Lib.hid (hold_one wn4 f bf hbf)
     rw [← hbf]
     clear hbf
     replace H_v7 := Lib.hid (H_v7.out.on hb)
     replace O_v8 := Lib.hid (O_v8.out.on hb)
     replace O_v13 := Lib.hid (O_v13.out.on hb)
     replace H_v18 := Lib.hid (H_v18.out.on hb)
     replace BB := Lib.hid (BB.out.trans (hb.mono BB.out.size))
     clear hb
     generalize wn4.alloc (.cells #[.int .i64 f] 3) = wn9 at *
     clear hHeld
     refine hK.out _ _ ?_ (fun hHeld => ?_)
     ·
      (try dsimp only); exact ⟨kc K0.out BB.out, kc K1.out BB.out, kc K2.out BB.out, kc K3.out BB.out, kc K4.out BB.out⟩
     clear hK K
     (try simp only [Act.put, Row.pB0, Row.pB1, Row.pB2])
     refine wpAnyH_ready (rs := [16]) (by kernel_rfl) (by simp) ?_
     refine AllReadyH.cons (o := ⟨some 19, .call ⟨.value (.func 171), #[.tmp 18], #[22]⟩, 79, "l08_thing.go:31", #[⟨15, .data⟩, ⟨15, .chain⟩], none⟩) rfl (fun K hK => ?_) AllReadyH.nil
     go_simp
     refine (Sl.implBytesToInts _ (appName [] lc) _ (H_v18.out) (pbyt_app lc pbyt_nil) (by have h1 := pname_len [] lc; have h2 := HLC.out; simp only [List.length_nil] at h1; omega)).mono ?_
     rintro e wn10 ⟨v19, rfl, ho, hb⟩
     obtain ⟨g_v19, n_v19, c_v19, rfl, ho⟩ := own_some ho (b2i_pos _)
     have O_v19 := Lib.hid (ho.holds)
     clear ho
     replace H_v7 := Lib.hid (H_v7.out.on hb)
     replace O_v8 := Lib.hid (O_v8.out.on hb)
     replace O_v13 := Lib.hid (O_v13.out.on hb)
     replace H_v18 := Lib.hid (H_v18.out.on hb)
     replace HF := Lib.hid (HF.out.on hb)
     replace BB := Lib.hid (BB.out.trans (hb.mono BB.out.size))
     clear hb
     (try go_wp2_with fail)
     clear hHeld
     refine hK.out _ _ ?_ (fun hHeld => ?_)
     ·
      (try dsimp only); exact ⟨kc K0.out BB.out, kc K1.out BB.out, kc K2.out BB.out, kc K3.out BB.out, kc K4.out BB.out⟩
     clear hK K
     (try simp only [Act.put, Row.pB0, Row.pB1, Row.pB2])
     refine wpAnyH_ready (rs := [22]) (by kernel_rfl) (by simp) ?_
     refine AllReadyH.cons (o := ⟨some 25, .buildSlice 213 4 #[(0, .tmp 8), (1, .tmp 13), (2, .tmp 19), (3, .tmp 24)], 213, "l08_thing.go:28", #[⟨5, .data⟩, ⟨10, .data⟩, ⟨16, .data⟩, ⟨21, .data⟩], none⟩) rfl (fun K hK => ?_) AllReadyH.nil
     go_simp
     have hb : Below wn10.heap.size wn10 (wn10.alloc (.cells #[.slice (some ⟨g_v8, 0, none⟩) n_v8 c_v8, .slice (some ⟨g_v13, 0, none⟩) n_v13 c_v13, .slice (some ⟨g_v19, 0, none⟩) n_v19 c_v19, .slice (some ⟨bf, 0, none⟩) 1 1] 79)) := (Below.refl _ _).alloc (Nat.le_refl _) _
     have HK4 := Lib.hid (Ret.Blk.new wn10 #[.slice (some ⟨g_v8, 0, none⟩) n_v8 c_v8, .slice (some ⟨g_v13, 0, none⟩) n_v13 c_v13, .slice (some ⟨g_v19, 0, none⟩) n_v19 c_v19, .slice (some ⟨bf, 0, none⟩) 1 1] 79)
     replace H_v7 := Lib.hid (H_v7.out.on hb)
     replace O_v8 := Lib.hid (O_v8.out.on hb)
     replace O_v13 := Lib.hid (O_v13.out.on hb)
     replace H_v18 := Lib.hid (H_v18.out.on hb)
     replace HF := Lib.hid (HF.out.on hb)
     replace O_v19 := Lib.hid (O_v19.out.on hb)
     replace BB := Lib.hid (BB.out.trans (hb.mono BB.out.size))
     clear hb
     generalize wn10.alloc (.cells #[.slice (some ⟨g_v8, 0, none⟩) n_v8 c_v8, .slice (some ⟨g_v13, 0, none⟩) n_v13 c_v13, .slice (some ⟨g_v19, 0, none⟩) n_v19 c_v19, .slice (some ⟨bf, 0, none⟩) 1 1] 79) = wn11 at *
     clear hHeld
     refine hK.out _ _ ?_ (fun hHeld => ?_)
     ·
      (try dsimp only); exact ⟨kc K0.out BB.out, kc K1.out BB.out, kc K2.out BB.out, kc K3.out BB.out, kc K4.out BB.out⟩
     clear hK K
     (try simp only [Act.put, Row.pB0, Row.pB1, Row.pB2])
     refine wpAnyH_ready (rs := [23]) (by kernel_rfl) (by simp) ?_
     refine AllReadyH.cons (o := ⟨some 26, .call ⟨.value (.func 170), #[.tmp 25], #[213]⟩, 79, "l08_thing.go:28", #[⟨22, .data⟩, ⟨16, .chain⟩], none⟩) rfl (fun K hK => ?_) AllReadyH.nil
     go_simp
     refine (concat4 HK4.out O_v8.out O_v13.out O_v19.out HF.out HLT.out).mono ?_
     rintro e wn12 ⟨v26, rfl, ho, hb⟩
     have O_v26 := Lib.hid (Sl.Own.mono ho BB.out.size); clear ho
     replace H_v7 := Lib.hid (H_v7.out.on hb)
     replace O_v8 := Lib.hid (O_v8.out.on hb)
     replace O_v13 := Lib.hid (O_v13.out.on hb)
     replace H_v18 := Lib.hid (H_v18.out.on hb)
     replace HF := Lib.hid (HF.out.on hb)
     replace O_v19 := Lib.hid (O_v19.out.on hb)
     replace BB := Lib.hid (BB.out.trans (hb.mono BB.out.size))
     clear hb
     (try go_wp2_with fail)
     clear hHeld
     refine hK.out _ _ ?_ (fun hHeld => ?_)
     ·
      (try dsimp only); exact ⟨kc K0.out BB.out, kc K1.out BB.out, kc K2.out BB.out, kc K3.out BB.out, kc K4.out BB.out⟩
     clear hK K
     (try simp only [Act.put, Row.pB0, Row.pB1, Row.pB2])
     refine wpAnyH_take (i := 24) (oi := ⟨some 2, .assign (.tmp 26), 79, "l08_thing.go:28", #[⟨23, .data⟩, ⟨23, .chain⟩, ⟨0, .phase⟩, ⟨1, .phase⟩, ⟨2, .phase⟩, ⟨3, .phase⟩, ⟨4, .phase⟩, ⟨5, .phase⟩, ⟨6, .phase⟩, ⟨7, .phase⟩, ⟨8, .phase⟩, ⟨9, .phase⟩, ⟨10, .phase⟩, ⟨11, .phase⟩, ⟨12, .phase⟩, ⟨13, .phase⟩, ⟨14, .phase⟩, ⟨15, .phase⟩, ⟨16, .phase⟩, ⟨17, .phase⟩, ⟨18, .phase⟩, ⟨19, .phase⟩, ⟨20, .phase⟩, ⟨21, .phase⟩, ⟨22, .phase⟩, ⟨23, .phase⟩], none⟩) (v := ?_) rfl (by kernel_rfl) (by kernel_rfl) (by kernel_rfl) (fun _ _ _ h => h) (Or.inl ⟨by rfl, ?_⟩) (by assumption) ?_
     rotate_left
     ·
      intro w' hSw; (try dsimp only at hSw); first | (go_simp; done) | (go_simp; with_reducible rfl)
     (try simp only [Act.put, Row.pB0, Row.pB1, Row.pB2])
     refine wpAnyH_done (by kernel_rfl) ?_ _
     exact NoPanic.normal (HQ.out _ _ _ _ _ _ _ _ _ _ _ _ _ _ _ _ _ _ _ _ _ _ _ _ _ _ O_v26.out BB.out)
    refine AllReadyH.cons (o := ⟨some 24, .buildSlice 79 1 #[(0, .tmp 23)], 79, "l08_thing.go:28", #[⟨20, .data⟩], none⟩) rfl (fun K hK => ?_) AllReadyH.nil
    go_simp
    have hb : Below wn3.heap.size wn3 (wn3.alloc (.cells #[.int .i64 f] 3)) := (Below.refl _ _).alloc (Nat.le_refl _) _
    obtain ⟨bf, hbf⟩ : ∃ b, b = wn3.heap.size := ⟨_, rfl⟩
    have HF := Lib.hid (hold_one wn3 f bf hbf)
    rw [← hbf]
    clear hbf
    replace H_v7 := Lib.hid (H_v7.out.on hb)
    replace O_v8 := Lib.hid (O_v8.out.on hb)
    replace O_v13 := Lib.hid (O_v13.out.on hb)
    replace BB := Lib.hid (BB.out.trans (hb.mono BB.out.size))
    clear hb
    generalize wn3.alloc (.cells #[.int .i64 f] 3) = wn13 at *
    clear hHeld
    refine hK.out _ _ ?_ (fun hHeld => ?_)
    ·
     (try dsimp only); exact ⟨kc K0.out BB.out, kc K1.out BB.out, kc K2.out BB.out, kc K3.out BB.out, kc K4.out BB.out⟩
    clear hK K
    (try simp only [Act.put, Row.pB0, Row.pB1, Row.pB2])
    refine wpAnyH_ready (rs := [15]) (by kernel_rfl) (by simp) ?_
    refine AllReadyH.cons (o := ⟨some 18, .call ⟨.value (.func 172), #[.const (Value.slice none 0 0), .tmp 17], #[22, 32]⟩, 22, "l08_thing.go:31", #[⟨14, .data⟩, ⟨10, .chain⟩], none⟩) rfl (fun K hK => ?_) AllReadyH.nil
    go_simp
    refine (implAppendName (.slice none 0 0) _ [] lc _ (Sl.Holds.nil _ _) (H_c.out.on BB.out) (by simp) HLC.out).mono ?_
    rintro e wn14 ⟨v18, rfl, ho, hb⟩
    have H_v18 := Lib.hid ho.holds; clear ho
    replace H_v7 := Lib.hid (H_v7.out.on hb)
    replace O_v8 := Lib.hid (O_v8.out.on hb)
    replace O_v13 := Lib.hid (O_v13.out.on hb)
    replace HF := Lib.hid (HF.out.on hb)
    replace BB := Lib.hid (BB.out.trans (hb.mono BB.out.size))
    clear hb
    (try go_wp2_with fail)
    clear hHeld
    refine hK.out _ _ ?_ (fun hHeld => ?_)
    ·
     (try dsimp only); exact ⟨kc K0.out BB.out, kc K1.out BB.out, kc K2.out BB.out, kc K3.out BB.out, kc K4.out BB.out⟩
    clear hK K
    (try simp only [Act.put, Row.pB0, Row.pB1, Row.pB2])
    refine wpAnyH_ready (rs := [16]) (by kernel_rfl) (by simp) ?_
    refine AllReadyH.cons (o := ⟨some 19, .call ⟨.value (.func 171), #[.tmp 18], #[22]⟩, 79, "l08_thing.go:31", #[⟨15, .data⟩, ⟨15, .chain⟩], none⟩) rfl (fun K hK => ?_) AllReadyH.nil
    go_simp
    refine (Sl.implBytesToInts _ (appName [] lc) _ (H_v18.out) (pbyt_app lc pbyt_nil) (by have h1 := pname_len [] lc; have h2 := HLC.out; simp only [List.length_nil] at h1; omega)).mono ?_
    rintro e wn15 ⟨v19, rfl, ho, hb⟩
    obtain ⟨g_v19, n_v19, c_v19, rfl, ho⟩ := own_some ho (b2i_pos _)
    have O_v19 := Lib.hid (ho.holds)
    clear ho
    replace H_v7 := Lib.hid (H_v7.out.on hb)
    replace O_v8 := Lib.hid (O_v8.out.on hb)
    replace O_v13 := Lib.hid (O_v13.out.on hb)
    replace HF := Lib.hid (HF.out.on hb)
    replace H_v18 := Lib.hid (H_v18.out.on hb)
    replace BB := Lib.hid (BB.out.trans (hb.mono BB.out.size))
    clear hb
    (try go_wp2_with fail)
    clear hHeld
    refine hK.out _ _ ?_ (fun hHeld => ?_)
    ·
     (try dsimp only); exact ⟨kc K0.out BB.out, kc K1.out BB.out, kc K2.out BB.out, kc K3.out BB.out, kc K4.out BB.out⟩
    clear hK K
    (try simp only [Act.put, Row.pB0, Row.pB1, Row.pB2])
    refine wpAnyH_ready (rs := [22]) (by kernel_rfl) (by simp) ?_
    refine AllReadyH.cons (o := ⟨some 25, .buildSlice 213 4 #[(0, .tmp 8), (1, .tmp 13), (2, .tmp 19), (3, .tmp 24)], 213, "l08_thing.go:28", #[⟨5, .data⟩, ⟨10, .data⟩, ⟨16, .data⟩, ⟨21, .data⟩], none⟩) rfl (fun K hK => ?_) AllReadyH.nil
    go_simp
    have hb : Below wn15.heap.size wn15 (wn15.alloc (.cells #[.slice (some ⟨g_v8, 0, none⟩) n_v8 c_v8, .slice (some ⟨g_v13, 0, none⟩) n_v13 c_v13, .slice (some ⟨g_v19, 0, none⟩) n_v19 c_v19, .slice (some ⟨bf, 0, none⟩) 1 1] 79)) := (Below.refl _ _).alloc (Nat.le_refl _) _
    have HK4 := Lib.hid (Ret.Blk.new wn15 #[.slice (some ⟨g_v8, 0, none⟩) n_v8 c_v8, .slice (some ⟨g_v13, 0, none⟩) n_v13 c_v13, .slice (some ⟨g_v19, 0, none⟩) n_v19 c_v19, .slice (some ⟨bf, 0, none⟩) 1 1] 79)
    replace H_v7 := Lib.hid (H_v7.out.on hb)
    replace O_v8 := Lib.hid (O_v8.out.on hb)
    replace O_v13 := Lib.hid (O_v13.out.on hb)
    replace HF := Lib.hid (HF.out.on hb)
    replace H_v18 := Lib.hid (H_v18.out.on hb)
    replace O_v19 := Lib.hid (O_v19.out.on hb)
    replace BB := Lib.hid (BB.out.trans (hb.mono BB.out.size))
    clear hb
    generalize wn15.alloc (.cells #[.slice (some ⟨g_v8, 0, none⟩) n_v8 c_v8, .slice (some ⟨g_v13, 0, none⟩) n_v13 c_v13, .slice (some ⟨g_v19, 0, none⟩) n_v19 c_v19, .slice (some ⟨bf, 0, none⟩) 1 1] 79) = wn16 at *
    clear hHeld
    refine hK.out _ _ ?_ (fun hHeld => ?_)
    ·
     (try dsimp only); exact ⟨kc K0.out BB.out, kc K1.out BB.out, kc K2.out BB.out, kc K3.out BB.out, kc K4.out BB.out⟩
    clear hK K
    (try simp only [Act.put, Row.pB0, Row.pB1, Row.pB2])
    refine wpAnyH_ready (rs := [23]) (by kernel_rfl) (by simp) ?_
    refine AllReadyH.cons (o := ⟨some 26, .call ⟨.value (.func 170), #[.tmp 25], #[213]⟩, 79, "l08_thing.go:28", #[⟨22, .data⟩, ⟨16, .chain⟩], none⟩) rfl (fun K hK => ?_) AllReadyH.nil
    go_simp
    refine (concat4 HK4.out O_v8.out O_v13.out O_v19.out HF.out HLT.out).mono ?_
    rintro e wn17 ⟨v26, rfl, ho, hb⟩
    have O_v26 := Lib.hid (Sl.Own.mono ho BB.out.size); clear ho
    replace H_v7 := Lib.hid (H_v7.out.on hb)
    replace O_v8 := Lib.hid (O_v8.out.on hb)
    replace O_v13 := Lib.hid (O_v13.out.on hb)
    replace HF := Lib.hid (HF.out.on hb)
    replace H_v18 := Lib.hid (H_v18.out.on hb)
    replace O_v19 := Lib.hid (O_v19.out.on hb)
    replace BB := Lib.hid (BB.out.trans (hb.mono BB.out.size))
    clear hb
    (try go_wp2_with fail)
    clear hHeld
    refine hK.out _ _ ?_ (fun hHeld => ?_)
    ·
     (try dsimp only); exact ⟨kc K0.out BB.out, kc K1.out BB.out, kc K2.out BB.out, kc K3.out BB.out, kc K4.out BB.out⟩
    clear hK K
    (try simp only [Act.put, Row.pB0, Row.pB1, Row.pB2])
    refine wpAnyH_take (i := 24) (oi := ⟨some 2, .assign (.tmp 26), 79, "l08_thing.go:28", #[⟨23, .data⟩, ⟨23, .chain⟩, ⟨0, .phase⟩, ⟨1, .phase⟩, ⟨2, .phase⟩, ⟨3, .phase⟩, ⟨4, .phase⟩, ⟨5, .phase⟩, ⟨6, .phase⟩, ⟨7, .phase⟩, ⟨8, .phase⟩, ⟨9, .phase⟩, ⟨10, .phase⟩, ⟨11, .phase⟩, ⟨12, .phase⟩, ⟨13, .phase⟩, ⟨14, .phase⟩, ⟨15, .phase⟩, ⟨16, .phase⟩, ⟨17, .phase⟩, ⟨18, .phase⟩, ⟨19, .phase⟩, ⟨20, .phase⟩, ⟨21, .phase⟩, ⟨22, .phase⟩, ⟨23, .phase⟩], none⟩) (v := ?_) rfl (by kernel_rfl) (by kernel_rfl) (by kernel_rfl) (fun _ _ _ h => h) (Or.inl ⟨by rfl, ?_⟩) (by assumption) ?_
    rotate_left
    ·
     intro w' hSw; (try dsimp only at hSw); first | (go_simp; done) | (go_simp; with_reducible rfl)
    (try simp only [Act.put, Row.pB0, Row.pB1, Row.pB2])
    refine wpAnyH_done (by kernel_rfl) ?_ _
    exact NoPanic.normal (HQ.out _ _ _ _ _ _ _ _ _ _ _ _ _ _ _ _ _ _ _ _ _ _ _ _ _ _ O_v26.out BB.out)
   refine AllReadyH.cons (o := ⟨some 24, .buildSlice 79 1 #[(0, .tmp 23)], 79, "l08_thing.go:28", #[⟨20, .data⟩], none⟩) rfl (fun K hK => ?_) AllReadyH.nil
   go_simp
   have hb : Below wn2.heap.size wn2 (wn2.alloc (.cells #[.int .i64 f] 3)) := (Below.refl _ _).alloc (Nat.le_refl _) _
   obtain ⟨bf, hbf⟩ : ∃ b, b = wn2.heap.size := ⟨_, rfl⟩
   have HF := Lib.hid (hold_one wn2 f bf hbf)
   rw [← hbf]
   clear hbf
   replace H_v7 := Lib.hid (H_v7.out.on hb)
   replace O_v8 := Lib.hid (O_v8.out.on hb)
   replace BB := Lib.hid (BB.out.trans (hb.mono BB.out.size))
   clear hb
   generalize wn2.alloc (.cells #[.int .i64 f] 3) = wn18 at *
   clear hHeld
   refine hK.out _ _ ?_ (fun hHeld => ?_)
   ·
    (try dsimp only); exact ⟨kc K0.out BB.out, kc K1.out BB.out, kc K2.out BB.out, kc K3.out BB.out, kc K4.out BB.out⟩
   clear hK K
   (try simp only [Act.put, Row.pB0, Row.pB1, Row.pB2])
   refine wpAnyH_ready (rs := [10]) (by kernel_rfl) (by simp) ?_
   refine AllReadyH.cons (o := ⟨some 13, .call ⟨.value (.func 171), #[.tmp 12], #[22]⟩, 79, "l08_thing.go:30", #[⟨9, .data⟩, ⟨5, .chain⟩], none⟩) rfl (fun K hK => ?_) AllReadyH.nil
   go_simp
   refine (Sl.implBytesToInts _ (lb) _ (H_b.out.on BB.out) HBY.out (by have h2 := HLB.out; omega)).mono ?_
   rintro e wn19 ⟨v13, rfl, ho, hb⟩
   obtain ⟨g_v13, n_v13, c_v13, rfl, ho⟩ := own_some ho (b2i_pos _)
   have O_v13 := Lib.hid (ho.holds)
   clear ho
   replace H_v7 := Lib.hid (H_v7.out.on hb)
   replace O_v8 := Lib.hid (O_v8.out.on hb)
   replace HF := Lib.hid (HF.out.on hb)
   replace BB := Lib.hid (BB.out.trans (hb.mono BB.out.size))
   clear hb
   (try go_wp2_with fail)
   clear hHeld
   refine hK.out _ _ ?_ (fun hHeld => ?_)
   ·
    (try dsimp only); exact ⟨kc K0.out BB.out, kc K1.out BB.out, kc K2.out BB.out, kc K3.out BB.out, kc K4.out BB.out⟩
   clear hK K
   (try simp only [Act.put, Row.pB0, Row.pB1, Row.pB2])
   refine wpAnyH_ready (rs := [15]) (by kernel_rfl) (by simp) ?_
   refine AllReadyH.cons (o := ⟨some 18, .call ⟨.value (.func 172), #[.const (Value.slice none 0 0), .tmp 17], #[22, 32]⟩, 22, "l08_thing.go:31", #[⟨14, .data⟩, ⟨10, .chain⟩], none⟩) rfl (fun K hK => ?_) AllReadyH.nil
   go_simp
   refine (implAppendName (.slice none 0 0) _ [] lc _ (Sl.Holds.nil _ _) (H_c.out.on BB.out) (by simp) HLC.out).mono ?_
   rintro e wn20 ⟨v18, rfl, ho, hb⟩
   have H_v18 := Lib.hid ho.holds; clear ho
   replace H_v7 := Lib.hid (H_v7.out.on hb)
   replace O_v8 := Lib.hid (O_v8.out.on hb)
   replace HF := Lib.hid (HF.out.on hb)
   replace O_v13 := Lib.hid (O_v13.out.on hb)
   replace BB := Lib.hid (BB.out.trans (hb.mono BB.out.size))
   clear hb
   (try go_wp2_with fail)
   clear hHeld
   refine hK.out _ _ ?_ (fun hHeld => ?_)
   ·
    (try dsimp only); exact ⟨kc K0.out BB.out, kc K1.out BB.out, kc K2.out BB.out, kc K3.out BB.out, kc K4.out BB.out⟩
   clear hK K
   (try simp only [Act.put, Row.pB0, Row.pB1, Row.pB2])
   refine wpAnyH_ready (rs := [16]) (by kernel_rfl) (by simp) ?_
   refine AllReadyH.cons (o := ⟨some 19, .call ⟨.value (.func 171), #[.tmp 18], #[22]⟩, 79, "l08_thing.go:31", #[⟨15, .data⟩, ⟨15, .chain⟩], none⟩) rfl (fun K hK => ?_) AllReadyH.nil
   go_simp
   refine (Sl.implBytesToInts _ (appName [] lc) _ (H_v18.out) (pbyt_app lc pbyt_nil) (by have h1 := pname_len [] lc; have h2 := HLC.out; simp only [List.length_nil] at h1; omega)).mono ?_
   rintro e wn21 ⟨v19, rfl, ho, hb⟩
   obtain ⟨g_v19, n_v19, c_v19, rfl, ho⟩ := own_some ho (b2i_pos _)
   have O_v19 := Lib.hid (ho.holds)
   clear ho
   replace H_v7 := Lib.hid (H_v7.out.on hb)
   replace O_v8 := Lib.hid (O_v8.out.on hb)
   replace HF := Lib.hid (HF.out.on hb)
   replace O_v13 := Lib.hid (O_v13.out.on hb)
   replace H_v18 := Lib.hid (H_v18.out.on hb)
   replace BB := Lib.hid (BB.out.trans (hb.mono BB.out.size))
   clear hb
   (try go_wp2_with fail)
   clear hHeld
   refine hK.out _ _ ?_ (fun hHeld => ?_)
   ·
    (try dsimp only); exact ⟨kc K0.out BB.out, kc K1.out BB.out, kc K2.out BB.out, kc K3.out BB.out, kc K4.out BB.out⟩
   clear hK K
   (try simp only [Act.put, Row.pB0, Row.pB1, Row.pB2])
   refine wpAnyH_ready (rs := [22]) (by kernel_rfl) (by simp) ?_
   refine AllReadyH.cons (o := ⟨some 25, .buildSlice 213 4 #[(0, .tmp 8), (1, .tmp 13), (2, .tmp 19), (3, .tmp 24)], 213, "l08_thing.go:28", #[⟨5, .data⟩, ⟨10, .data⟩, ⟨16, .data⟩, ⟨21, .data⟩], none⟩) rfl (fun K hK => ?_) AllReadyH.nil
   go_simp
   have hb : Below wn21.heap.size wn21 (wn21.alloc (.cells #[.slice (some ⟨g_v8, 0, none⟩) n_v8 c_v8, .slice (some ⟨g_v13, 0, none⟩) n_v13 c_v13, .slice (some ⟨g_v19, 0, none⟩) n_v19 c_v19, .slice (some ⟨bf, 0, none⟩) 1 1] 79)) := (Below.refl _ _).alloc (Nat.le_refl _) _
   have HK4 := Lib.hid (Ret.Blk.new wn21 #[.slice (some ⟨g_v8, 0, none⟩) n_v8 c_v8, .slice (some ⟨g_v13, 0, none⟩) n_v13 c_v13, .slice (some ⟨g_v19, 0, none⟩) n_v19 c_v19, .slice (some ⟨bf, 0, none⟩) 1 1] 79)
   replace H_v7 := Lib.hid (H_v7.out.on hb)
   replace O_v8 := Lib.hid (O_v8.out.on hb)
   replace HF := Lib.hid (HF.out.on hb)
   replace O_v13 := Lib.hid (O_v13.out.on hb)
   replace H_v18 := Lib.hid (H_v18.out.on hb)
   replace O_v19 := Lib.hid (O_v19.out.on hb)
   replace BB := Lib.hid (BB.out.trans (hb.mono BB.out.size))
   clear hb
   generalize wn21.alloc (.cells #[.slice (some ⟨g_v8, 0, none⟩) n_v8 c_v8, .slice (some ⟨g_v13, 0, none⟩) n_v13 c_v13, .slice (some ⟨g_v19, 0, none⟩) n_v19 c_v19, .slice (some ⟨bf, 0, none⟩) 1 1] 79) = wn22 at *
   clear hHeld
   refine hK.out _ _ ?_ (fun hHeld => ?_)
   ·
    (try dsimp only); exact ⟨kc K0.out BB.out, kc K1.out BB.out, kc K2.out BB.out, kc K3.out BB.out, kc K4.out BB.out⟩
   clear hK K
   (try simp only [Act.put, Row.pB0, Row.pB1, Row.pB2])
   refine wpAnyH_ready (rs := [23]) (by kernel_rfl) (by simp) ?_
   refine AllReadyH.cons (o := ⟨some 26, .call ⟨.value (.func 170), #[.tmp 25], #[213]⟩, 79, "l08_thing.go:28", #[⟨22, .data⟩, ⟨16, .chain⟩], none⟩) rfl (fun K hK => ?_) AllReadyH.nil
   go_simp
   refine (concat4 HK4.out O_v8.out O_v13.out O_v19.out HF.out HLT.out).mono ?_
   rintro e wn23 ⟨v26, rfl, ho, hb⟩
   have O_v26 := Lib.hid (Sl.Own.mono ho BB.out.size); clear ho
   replace H_v7 := Lib.hid (H_v7.out.on hb)
   replace O_v8 := Lib.hid (O_v8.out.on hb)
   replace HF := Lib.hid (HF.out.on hb)
   replace O_v13 := Lib.hid (O_v13.out.on hb)
   replace H_v18 := Lib.hid (H_v18.out.on hb)
   replace O_v19 := Lib.hid (O_v19.out.on hb)
   replace BB := Lib.hid (BB.out.trans (hb.mono BB.out.size))
   clear hb
   (try go_wp2_with fail)
   clear hHeld
   refine hK.out _ _ ?_ (fun hHeld => ?_)
   ·
    (try dsimp only); exact ⟨kc K0.out BB.out, kc K1.out BB.out, kc K2.out BB.out, kc K3.out BB.out, kc K4.out BB.out⟩
   clear hK K
   (try simp only [Act.put, Row.pB0, Row.pB1, Row.pB2])
   refine wpAnyH_take (i := 24) (oi := ⟨some 2, .assign (.tmp 26), 79, "l08_thing.go:28", #[⟨23, .data⟩, ⟨23, .chain⟩, ⟨0, .phase⟩, ⟨1, .phase⟩, ⟨2, .phase⟩, ⟨3, .phase⟩, ⟨4, .phase⟩, ⟨5, .phase⟩, ⟨6, .phase⟩, ⟨7, .phase⟩, ⟨8, .phase⟩, ⟨9, .phase⟩, ⟨10, .phase⟩, ⟨11, .phase⟩, ⟨12, .phase⟩, ⟨13, .phase⟩, ⟨14, .phase⟩, ⟨15, .phase⟩, ⟨16, .phase⟩, ⟨17, .phase⟩, ⟨18, .phase⟩, ⟨19, .phase⟩, ⟨20, .phase⟩, ⟨21, .phase⟩, ⟨22, .phase⟩, ⟨23, .phase⟩], none⟩) (v := ?_) rfl (by kernel_rfl) (by kernel_rfl) (by kernel_rfl) (fun _ _ _ h => h) (Or.inl ⟨by rfl, ?_⟩) (by assumption) ?_
   rotate_left
   ·
    intro w' hSw; (try dsimp only at hSw); first | (go_simp; done) | (go_simp; with_reducible rfl)
   (try simp only [Act.put, Row.pB0, Row.pB1, Row.pB2])
   refine wpAnyH_done (by kernel_rfl) ?_ _
   exact NoPanic.normal (HQ.out _ _ _ _ _ _ _ _ _ _ _ _ _ _ _ _ _ _ _ _ _ _ _ _ _ _ O_v26.out BB.out)
  refine AllReadyH.cons (o := ⟨some 24, .buildSlice 79 1 #[(0, .tmp 23)], 79, "l08_thing.go:28", #[⟨20, .data⟩], none⟩) rfl (fun K hK => ?_) AllReadyH.nil
  go_simp
  have hb : Below wn1.heap.size wn1 (wn1.alloc (.cells #[.int .i64 f] 3)) := (Below.refl _ _).alloc (Nat.le_refl _) _
  obtain ⟨bf, hbf⟩ : ∃ b, b = wn1.heap.size := ⟨_, rfl⟩
  have HF := Lib.hid (hold_one wn1 f bf hbf)
  rw [← hbf]
  clear hbf
  replace H_v7 := Lib.hid (H_v7.out.on hb)
  replace BB := Lib.hid (BB.out.trans (hb.mono BB.out.size))
  clear hb
  generalize wn1.alloc (.cells #[.int .i64 f] 3) = wn24 at *
  clear hHeld
  refine hK.out _ _ ?_ (fun hHeld => ?_)
  ·
   (try dsimp only); exact ⟨kc K0.out BB.out, kc K1.out BB.out, kc K2.out BB.out, kc K3.out BB.out, kc K4.out BB.out⟩
  clear hK K
  (try simp only [Act.put, Row.pB0, Row.pB1, Row.pB2])
  refine wpAnyH_ready (rs := [5]) (by kernel_rfl) (by simp) ?_
  refine AllReadyH.cons (o := ⟨some 8, .call ⟨.value (.func 171), #[.tmp 7], #[22]⟩, 79, "l08_thing.go:29", #[⟨4, .data⟩, ⟨4, .chain⟩], none⟩) rfl (fun K hK => ?_) AllReadyH.nil
  go_simp
  refine (Sl.implBytesToInts _ (appName [] la) _ (H_v7.out) (pbyt_app la pbyt_nil) (by have h1 := pname_len [] la; have h2 := HLA.out; simp only [List.length_nil] at h1; omega)).mono ?_
  rintro e wn25 ⟨v8, rfl, ho, hb⟩
  obtain ⟨g_v8, n_v8, c_v8, rfl, ho⟩ := own_some ho (b2i_pos _)
  have O_v8 := Lib.hid (ho.holds)
  clear ho
  replace H_v7 := Lib.hid (H_v7.out.on hb)
  replace HF := Lib.hid (HF.out.on hb)
  replace BB := Lib.hid (BB.out.trans (hb.mono BB.out.size))
  clear hb
  (try go_wp2_with fail)
  clear hHeld
  refine hK.out _ _ ?_ (fun hHeld => ?_)
  ·
   (try dsimp only); exact ⟨kc K0.out BB.out, kc K1.out BB.out, kc K2.out BB.out, kc K3.out BB.out, kc K4.out BB.out⟩
  clear hK K
  (try simp only [Act.put, Row.pB0, Row.pB1, Row.pB2])
  refine wpAnyH_ready (rs := [10]) (by kernel_rfl) (by simp) ?_
  refine AllReadyH.cons (o := ⟨some 13, .call ⟨.value (.func 171), #[.tmp 12], #[22]⟩, 79, "l08_thing.go:30", #[⟨9, .data⟩, ⟨5, .chain⟩], none⟩) rfl (fun K hK => ?_) AllReadyH.nil
  go_simp
  refine (Sl.implBytesToInts _ (lb) _ (H_b.out.on BB.out) HBY.out (by have h2 := HLB.out; omega)).mono ?_
  rintro e wn26 ⟨v13, rfl, ho, hb⟩
  obtain ⟨g_v13, n_v13, c_v13, rfl, ho⟩ := own_some ho (b2i_pos _)
  have O_v13 := Lib.hid (ho.holds)
  clear ho
  replace H_v7 := Lib.hid (H_v7.out.on hb)
  replace HF := Lib.hid (HF.out.on hb)
  replace O_v8 := Lib.hid (O_v8.out.on hb)
  replace BB := Lib.hid (BB.out.trans (hb.mono BB.out.size))
  clear hb
  (try go_wp2_with fail)
  clear hHeld
  refine hK.out _ _ ?_ (fun hHeld => ?_)
  ·
   (try dsimp only); exact ⟨kc K0.out BB.out, kc K1.out BB.out, kc K2.out BB.out, kc K3.out BB.out, kc K4.out BB.out⟩
  clear hK K
  (try simp only [Act.put, Row.pB0, Row.pB1, Row.pB2])
  refine wpAnyH_ready (rs := [15]) (by kernel_rfl) (by simp) ?_
  refine AllReadyH.cons (o := ⟨some 18, .call ⟨.value (.func 172), #[.const (Value.slice none 0 0), .tmp 17], #[22, 32]⟩, 22, "l08_thing.go:31", #[⟨14, .data⟩, ⟨10, .chain⟩], none⟩) rfl (fun K hK => ?_) AllReadyH.nil
  go_simp
  refine (implAppendName (.slice none 0 0) _ [] lc _ (Sl.Holds.nil _ _) (H_c.out.on BB.out) (by simp) HLC.out).mono ?_
  rintro e wn27 ⟨v18, rfl, ho, hb⟩
  have H_v18 := Lib.hid ho.holds; clear ho
  replace H_v7 := Lib.hid (H_v7.out.on hb)
  replace HF := Lib.hid (HF.out.on hb)
  replace O_v8 := Lib.hid (O_v8.out.on hb)
  replace O_v13 := Lib.hid (O_v13.out.on hb)
  replace BB := Lib.hid (BB.out.trans (hb.mono BB.out.size))
  clear hb
  (try go_wp2_with fail)
  clear hHeld
  refine hK.out _ _ ?_ (fun hHeld => ?_)
  ·
   (try dsimp only); exact ⟨kc K0.out BB.out, kc K1.out BB.out, kc K2.out BB.out, kc K3.out BB.out, kc K4.out BB.out⟩
  clear hK K
  (try simp only [Act.put, Row.pB0, Row.pB1, Row.pB2])
  refine wpAnyH_ready (rs := [16]) (by kernel_rfl) (by simp) ?_
  refine AllReadyH.cons (o := ⟨some 19, .call ⟨.value (.func 171), #[.tmp 18], #[22]⟩, 79, "l08_thing.go:31", #[⟨15, .data⟩, ⟨15, .chain⟩], none⟩) rfl (fun K hK => ?_) AllReadyH.nil
  go_simp
  refine (Sl.implBytesToInts _ (appName [] lc) _ (H_v18.out) (pbyt_app lc pbyt_nil) (by have h1 := pname_len [] lc; have h2 := HLC.out; simp only [List.length_nil] at h1; omega)).mono ?_
  rintro e wn28 ⟨v19, rfl, ho, hb⟩
  obtain ⟨g_v19, n_v19, c_v19, rfl, ho⟩ := own_some ho (b2i_pos _)
  have O_v19 := Lib.hid (ho.holds)
  clear ho
  replace H_v7 := Lib.hid (H_v7.out.on hb)
  replace HF := Lib.hid (HF.out.on hb)
  replace O_v8 := Lib.hid (O_v8.out.on hb)
  replace O_v13 := Lib.hid (O_v13.out.on hb)
  replace H_v18 := Lib.hid (H_v18.out.on hb)
  replace BB := Lib.hid (BB.out.trans (hb.mono BB.out.size))
  clear hb
  (try go_wp2_with fail)
  clear hHeld
  refine hK.out _ _ ?_ (fun hHeld => ?_)
  ·
   (try dsimp only); exact ⟨kc K0.out BB.out, kc K1.out BB.out, kc K2.out BB.out, kc K3.out BB.out, kc K4.out BB.out⟩
  clear hK K
  (try simp only [Act.put, Row.pB0, Row.pB1, Row.pB2])
  refine wpAnyH_ready (rs := [22]) (by kernel_rfl) (by simp) ?_
  refine AllReadyH.cons (o := ⟨some 25, .buildSlice 213 4 #[(0, .tmp 8), (1, .tmp 13), (2, .tmp 19), (3, .tmp 24)], 213, "l08_thing.go:28", #[⟨5, .data⟩, ⟨10, .data⟩, ⟨16, .data⟩, ⟨21, .data⟩], none⟩) rfl (fun K hK => ?_) AllReadyH.nil
  go_simp
  have hb : Below wn28.heap.size wn28 (wn28.alloc (.cells #[.slice (some ⟨g_v8, 0, none⟩) n_v8 c_v8, .slice (some ⟨g_v13, 0, none⟩) n_v13 c_v13, .slice (some ⟨g_v19, 0, none⟩) n_v19 c_v19, .slice (some ⟨bf, 0, none⟩) 1 1] 79)) := (Below.refl _ _).alloc (Nat.le_refl _) _
  have HK4 := Lib.hid (Ret.Blk.new wn28 #[.slice (some ⟨g_v8, 0, none⟩) n_v8 c_v8, .slice (some ⟨g_v13, 0, none⟩) n_v13 c_v13, .slice (some ⟨g_v19, 0, none⟩) n_v19 c_v19, .slice (some ⟨bf, 0, none⟩) 1 1] 79)
  replace H_v7 := Lib.hid (H_v7.out.on hb)
  replace HF := Lib.hid (HF.out.on hb)
  replace O_v8 := Lib.hid (O_v8.out.on hb)
  replace O_v13 := Lib.hid (O_v13.out.on hb)
  replace H_v18 := Lib.hid (H_v18.out.on hb)
  replace O_v19 := Lib.hid (O_v19.out.on hb)
  replace BB := Lib.hid (BB.out.trans (hb.mono BB.out.size))
  clear hb
  generalize wn28.alloc (.cells #[.slice (some ⟨g_v8, 0, none⟩) n_v8 c_v8, .slice (some ⟨g_v13, 0, none⟩) n_v13 c_v13, .slice (some ⟨g_v19, 0, none⟩) n_v19 c_v19, .slice (some ⟨bf, 0, none⟩) 1 1] 79) = wn29 at *
  clear hHeld
  refine hK.out _ _ ?_ (fun hHeld => ?_)
  ·
   (try dsimp only); exact ⟨kc K0.out BB.out, kc K1.out BB.out, kc K2.out BB.out, kc K3.out BB.out, kc K4.out BB.out⟩
  clear hK K
  (try simp only [Act.put, Row.pB0, Row.pB1, Row.pB2])
  refine wpAnyH_ready (rs := [23]) (by kernel_rfl) (by simp) ?_
  refine AllReadyH.cons (o := ⟨some 26, .call ⟨.value (.func 170), #[.tmp 25], #[213]⟩, 79, "l08_thing.go:28", #[⟨22, .data⟩, ⟨16, .chain⟩], none⟩) rfl (fun K hK => ?_) AllReadyH.nil
  go_simp
  refine (concat4 HK4.out O_v8.out O_v13.out O_v19.out HF.out HLT.out).mono ?_
  rintro e wn30 ⟨v26, rfl, ho, hb⟩
  have O_v26 := Lib.hid (Sl.Own.mono ho BB.out.size); clear ho
  replace H_v7 := Lib.hid (H_v7.out.on hb)
  replace HF := Lib.hid (HF.out.on hb)
  replace O_v8 := Lib.hid (O_v8.out.on hb)
  replace O_v13 := Lib.hid (O_v13.out.on hb)
  replace H_v18 := Lib.hid (H_v18.out.on hb)
  replace O_v19 := Lib.hid (O_v19.out.on hb)
  replace BB := Lib.hid (BB.out.trans (hb.mono BB.out.size))
  clear hb
  (try go_wp2_with fail)
  clear hHeld
  refine hK.out _ _ ?_ (fun hHeld => ?_)
  ·
   (try dsimp only); exact ⟨kc K0.out BB.out, kc K1.out BB.out, kc K2.out BB.out, kc K3.out BB.out, kc K4.out BB.out⟩
  clear hK K
  (try simp only [Act.put, Row.pB0, Row.pB1, Row.pB2])
  refine wpAnyH_take (i := 24) (oi := ⟨some 2, .assign (.tmp 26), 79, "l08_thing.go:28", #[⟨23, .data⟩, ⟨23, .chain⟩, ⟨0, .phase⟩, ⟨1, .phase⟩, ⟨2, .phase⟩, ⟨3, .phase⟩, ⟨4, .phase⟩, ⟨5, .phase⟩, ⟨6, .phase⟩, ⟨7, .phase⟩, ⟨8, .phase⟩, ⟨9, .phase⟩, ⟨10, .phase⟩, ⟨11, .phase⟩, ⟨12, .phase⟩, ⟨13, .phase⟩, ⟨14, .phase⟩, ⟨15, .phase⟩, ⟨16, .phase⟩, ⟨17, .phase⟩, ⟨18, .phase⟩, ⟨19, .phase⟩, ⟨20, .phase⟩, ⟨21, .phase⟩, ⟨22, .phase⟩, ⟨23, .phase⟩], none⟩) (v := ?_) rfl (by kernel_rfl) (by kernel_rfl) (by kernel_rfl) (fun _ _ _ h => h) (Or.inl ⟨by rfl, ?_⟩) (by assumption) ?_
  rotate_left
  ·
   intro w' hSw; (try dsimp only at hSw); first | (go_simp; done) | (go_simp; with_reducible rfl)
  (try simp only [Act.put, Row.pB0, Row.pB1, Row.pB2])
  refine wpAnyH_done (by kernel_rfl) ?_ _
  exact NoPanic.normal (HQ.out _ _ _ _ _ _ _ _ _ _ _ _ _ _ _ _ _ _ _ _ _ _ _ _ _ _ O_v26.out BB.out)
 refine AllReadyH.cons (o := ⟨some 24, .buildSlice 79 1 #[(0, .tmp 23)], 79, "l08_thing.go:28", #[⟨20, .data⟩], none⟩) rfl (fun K hK => ?_) AllReadyH.nil
 go_simp
 have hb : Below wd.heap.size wd (wd.alloc (.cells #[.int .i64 f] 3)) := (Below.refl _ _).alloc (Nat.le_refl _) _
 obtain ⟨bf, hbf⟩ : ∃ b, b = wd.heap.size := ⟨_, rfl⟩
 have HF := Lib.hid (hold_one wd f bf hbf)
 rw [← hbf]
 clear hbf
 replace BB := Lib.hid (BB.out.trans (hb.mono BB.out.size))
 clear hb
 generalize wd.alloc (.cells #[.int .i64 f] 3) = wn31 at *
 clear hHeld
 refine hK.out _ _ ?_ (fun hHeld => ?_)
 ·
  (try dsimp only); exact ⟨kc K0.out BB.out, kc K1.out BB.out, kc K2.out BB.out, kc K3.out BB.out, kc K4.out BB.out⟩
 clear hK K
 (try simp only [Act.put, Row.pB0, Row.pB1, Row.pB2])
 refine wpAnyH_ready (rs := [4]) (by kernel_rfl) (by simp) ?_
 refine AllReadyH.cons (o := ⟨some 7, .call ⟨.value (.func 172), #[.const (Value.slice none 0 0), .tmp 6], #[22, 32]⟩, 22, "l08_thing.go:29", #[⟨3, .data⟩], none⟩) rfl (fun K hK => ?_) AllReadyH.nil
 go_simp
 refine (implAppendName (.slice none 0 0) _ [] la _ (Sl.Holds.nil _ _) (H_a.out.on BB.out) (by simp) HLA.out).mono ?_
 rintro e wn32 ⟨v7, rfl, ho, hb⟩
 have H_v7 := Lib.hid ho.holds; clear ho
 replace HF := Lib.hid (HF.out.on hb)
 replace BB := Lib.hid (BB.out.trans (hb.mono BB.out.size))
 clear hb
 (try go_wp2_with fail)
 clear hHeld
 refine hK.out _ _ ?_ (fun hHeld => ?_)
 ·
  (try dsimp only); exact ⟨kc K0.out BB.out, kc K1.out BB.out, kc K2.out BB.out, kc K3.out BB.out, kc K4.out BB.out⟩
 clear hK K
 (try simp only [Act.put, Row.pB0, Row.pB1, Row.pB2])
 refine wpAnyH_ready (rs := [5]) (by kernel_rfl) (by simp) ?_
 refine AllReadyH.cons (o := ⟨some 8, .call ⟨.value (.func 171), #[.tmp 7], #[22]⟩, 79, "l08_thing.go:29", #[⟨4, .data⟩, ⟨4, .chain⟩], none⟩) rfl (fun K hK => ?_) AllReadyH.nil
 go_simp
 refine (Sl.implBytesToInts _ (appName [] la) _ (H_v7.out) (pbyt_app la pbyt_nil) (by have h1 := pname_len [] la; have h2 := HLA.out; simp only [List.length_nil] at h1; omega)).mono ?_
 rintro e wn33 ⟨v8, rfl, ho, hb⟩
 obtain ⟨g_v8, n_v8, c_v8, rfl, ho⟩ := own_some ho (b2i_pos _)
 have O_v8 := Lib.hid (ho.holds)
 clear ho
 replace HF := Lib.hid (HF.out.on hb)
 replace H_v7 := Lib.hid (H_v7.out.on hb)
 replace BB := Lib.hid (BB.out.trans (hb.mono BB.out.size))
 clear hb
 (try go_wp2_with fail)
 clear hHeld
 refine hK.out _ _ ?_ (fun hHeld => ?_)
 ·
  (try dsimp only); exact ⟨kc K0.out BB.out, kc K1.out BB.out, kc K2.out BB.out, kc K3.out BB.out, kc K4.out BB.out⟩
 clear hK K
 (try simp only [Act.put, Row.pB0, Row.pB1, Row.pB2])
 refine wpAnyH_ready (rs := [10]) (by kernel_rfl) (by simp) ?_
 refine AllReadyH.cons (o := ⟨some 13, .call ⟨.value (.func 171), #[.tmp 12], #[22]⟩, 79, "l08_thing.go:30", #[⟨9, .data⟩, ⟨5, .chain⟩], none⟩) rfl (fun K hK => ?_) AllReadyH.nil
 go_simp
 refine (Sl.implBytesToInts _ (lb) _ (H_b.out.on BB.out) HBY.out (by have h2 := HLB.out; omega)).mono ?_
 rintro e wn34 ⟨v13, rfl, ho, hb⟩
 obtain ⟨g_v13, n_v13, c_v13, rfl, ho⟩ := own_some ho (b2i_pos _)
 have O_v13 := Lib.hid (ho.holds)
 clear ho
 replace HF := Lib.hid (HF.out.on hb)
 replace H_v7 := Lib.hid (H_v7.out.on hb)
 replace O_v8 := Lib.hid (O_v8.out.on hb)
 replace BB := Lib.hid (BB.out.trans (hb.mono BB.out.size))
 clear hb
 (try go_wp2_with fail)
 clear hHeld
 refine hK.out _ _ ?_ (fun hHeld => ?_)
 ·
  (try dsimp only); exact ⟨kc K0.out BB.out, kc K1.out BB.out, kc K2.out BB.out, kc K3.out BB.out, kc K4.out BB.out⟩
 clear hK K
 (try simp only [Act.put, Row.pB0, Row.pB1, Row.pB2])
 refine wpAnyH_ready (rs := [15]) (by kernel_rfl) (by simp) ?_
 refine AllReadyH.cons (o := ⟨some 18, .call ⟨.value (.func 172), #[.const (Value.slice none 0 0), .tmp 17], #[22, 32]⟩, 22, "l08_thing.go:31", #[⟨14, .data⟩, ⟨10, .chain⟩], none⟩) rfl (fun K hK => ?_) AllReadyH.nil
 go_simp
 refine (implAppendName (.slice none 0 0) _ [] lc _ (Sl.Holds.nil _ _) (H_c.out.on BB.out) (by simp) HLC.out).mono ?_
 rintro e wn35 ⟨v18, rfl, ho, hb⟩
 have H_v18 := Lib.hid ho.holds; clear ho
 replace HF := Lib.hid (HF.out.on hb)
 replace H_v7 := Lib.hid (H_v7.out.on hb)
 replace O_v8 := Lib.hid (O_v8.out.on hb)
 replace O_v13 := Lib.hid (O_v13.out.on hb)
 replace BB := Lib.hid (BB.out.trans (hb.mono BB.out.size))
 clear hb
 (try go_wp2_with fail)
 clear hHeld
 refine hK.out _ _ ?_ (fun hHeld => ?_)
 ·
  (try dsimp only); exact ⟨kc K0.out BB.out, kc K1.out BB.out, kc K2.out BB.out, kc K3.out BB.out, kc K4.out BB.out⟩
 clear hK K
 (try simp only [Act.put, Row.pB0, Row.pB1, Row.pB2])
 refine wpAnyH_ready (rs := [16]) (by kernel_rfl) (by simp) ?_
 refine AllReadyH.cons (o := ⟨some 19, .call ⟨.value (.func 171), #[.tmp 18], #[22]⟩, 79, "l08_thing.go:31", #[⟨15, .data⟩, ⟨15, .chain⟩], none⟩) rfl (fun K hK => ?_) AllReadyH.nil
 go_simp
 refine (Sl.implBytesToInts _ (appName [] lc) _ (H_v18.out) (pbyt_app lc pbyt_nil) (by have h1 := pname_len [] lc; have h2 := HLC.out; simp only [List.length_nil] at h1; omega)).mono ?_
 rintro e wn36 ⟨v19, rfl, ho, hb⟩
 obtain ⟨g_v19, n_v19, c_v19, rfl, ho⟩ := own_some ho (b2i_pos _)
 have O_v19 := Lib.hid (ho.holds)
 clear ho
 replace HF := Lib.hid (HF.out.on hb)
 replace H_v7 := Lib.hid (H_v7.out.on hb)
 replace O_v8 := Lib.hid (O_v8.out.on hb)
 replace O_v13 := Lib.hid (O_v13.out.on hb)
 replace H_v18 := Lib.hid (H_v18.out.on hb)
 replace BB := Lib.hid (BB.out.trans (hb.mono BB.out.size))
 clear hb
 (try go_wp2_with fail)
 clear hHeld
 refine hK.out _ _ ?_ (fun hHeld => ?_)
 ·
  (try dsimp only); exact ⟨kc K0.out BB.out, kc K1.out BB.out, kc K2.out BB.out, kc K3.out BB.out, kc K4.out BB.out⟩
 clear hK K
 (try simp only [Act.put, Row.pB0, Row.pB1, Row.pB2])
 refine wpAnyH_ready (rs := [22]) (by kernel_rfl) (by simp) ?_
 refine AllReadyH.cons (o := ⟨some 25, .buildSlice 213 4 #[(0, .tmp 8), (1, .tmp 13), (2, .tmp 19), (3, .tmp 24)], 213, "l08_thing.go:28", #[⟨5, .data⟩, ⟨10, .data⟩, ⟨16, .data⟩, ⟨21, .data⟩], none⟩) rfl (fun K hK => ?_) AllReadyH.nil
 go_simp
 have hb : Below wn36.heap.size wn36 (wn36.alloc (.cells #[.slice (some ⟨g_v8, 0, none⟩) n_v8 c_v8, .slice (some ⟨g_v13, 0, none⟩) n_v13 c_v13, .slice (some ⟨g_v19, 0, none⟩) n_v19 c_v19, .slice (some ⟨bf, 0, none⟩) 1 1] 79)) := (Below.refl _ _).alloc (Nat.le_refl _) _
 have HK4 := Lib.hid (Ret.Blk.new wn36 #[.slice (some ⟨g_v8, 0, none⟩) n_v8 c_v8, .slice (some ⟨g_v13, 0, none⟩) n_v13 c_v13, .slice (some ⟨g_v19, 0, none⟩) n_v19 c_v19, .slice (some ⟨bf, 0, none⟩) 1 1] 79)
 replace HF := Lib.hid (HF.out.on hb)
 replace H_v7 := Lib.hid (H_v7.out.on hb)
 replace O_v8 := Lib.hid (O_v8.out.on hb)
 replace O_v13 := Lib.hid (O_v13.out.on hb)
 replace H_v18 := Lib.hid (H_v18.out.on hb)
 replace O_v19 := Lib.hid (O_v19.out.on hb)
 replace BB := Lib.hid (BB.out.trans (hb.mono BB.out.size))
 clear hb
 generalize wn36.alloc (.cells #[.slice (some ⟨g_v8, 0, none⟩) n_v8 c_v8, .slice (some ⟨g_v13, 0, none⟩) n_v13 c_v13, .slice (some ⟨g_v19, 0, none⟩) n_v19 c_v19, .slice (some ⟨bf, 0, none⟩) 1 1] 79) = wn37 at *
 clear hHeld
 refine hK.out _ _ ?_ (fun hHeld => ?_)
 ·
  (try dsimp only); exact ⟨kc K0.out BB.out, kc K1.out BB.out, kc K2.out BB.out, kc K3.out BB.out, kc K4.out BB.out⟩
 clear hK K
 (try simp only [Act.put, Row.pB0, Row.pB1, Row.pB2])
 refine wpAnyH_ready (rs := [23]) (by kernel_rfl) (by simp) ?_
 refine AllReadyH.cons (o := ⟨some 26, .call ⟨.value (.func 170), #[.tmp 25], #[213]⟩, 79, "l08_thing.go:28", #[⟨22, .data⟩, ⟨16, .chain⟩], none⟩) rfl (fun K hK => ?_) AllReadyH.nil
 go_simp
 refine (concat4 HK4.out O_v8.out O_v13.out O_v19.out HF.out HLT.out).mono ?_
 rintro e wn38 ⟨v26, rfl, ho, hb⟩
 have O_v26 := Lib.hid (Sl.Own.mono ho BB.out.size); clear ho
 replace HF := Lib.hid (HF.out.on hb)
 replace H_v7 := Lib.hid (H_v7.out.on hb)
 replace O_v8 := Lib.hid (O_v8.out.on hb)
 replace O_v13 := Lib.hid (O_v13.out.on hb)
 replace H_v18 := Lib.hid (H_v18.out.on hb)
 replace O_v19 := Lib.hid (O_v19.out.on hb)
 replace BB := Lib.hid (BB.out.trans (hb.mono BB.out.size))
 clear hb
 (try go_wp2_with fail)
 clear hHeld
 refine hK.out _ _ ?_ (fun hHeld => ?_)
 ·
  (try dsimp only); exact ⟨kc K0.out BB.out, kc K1.out BB.out, kc K2.out BB.out, kc K3.out BB.out, kc K4.out BB.out⟩
 clear hK K
 (try simp only [Act.put, Row.pB0, Row.pB1, Row.pB2])
 refine wpAnyH_take (i := 24) (oi := ⟨some 2, .assign (.tmp 26), 79, "l08_thing.go:28", #[⟨23, .data⟩, ⟨23, .chain⟩, ⟨0, .phase⟩, ⟨1, .phase⟩, ⟨2, .phase⟩, ⟨3, .phase⟩, ⟨4, .phase⟩, ⟨5, .phase⟩, ⟨6, .phase⟩, ⟨7, .phase⟩, ⟨8, .phase⟩, ⟨9, .phase⟩, ⟨10, .phase⟩, ⟨11, .phase⟩, ⟨12, .phase⟩, ⟨13, .phase⟩, ⟨14, .phase⟩, ⟨15, .phase⟩, ⟨16, .phase⟩, ⟨17, .phase⟩, ⟨18, .phase⟩, ⟨19, .phase⟩, ⟨20, .phase⟩, ⟨21, .phase⟩, ⟨22, .phase⟩, ⟨23, .phase⟩], none⟩) (v := ?_) rfl (by kernel_rfl) (by kernel_rfl) (by kernel_rfl) (fun _ _ _ h => h) (Or.inl ⟨by rfl, ?_⟩) (by assumption) ?_
 rotate_left
 ·
  intro w' hSw; (try dsimp only at hSw); first | (go_simp; done) | (go_simp; with_reducible rfl)
 (try simp only [Act.put, Row.pB0, Row.pB1, Row.pB2])
 refine wpAnyH_done (by kernel_rfl) ?_ _
 exact NoPanic.normal (HQ.out _ _ _ _ _ _ _ _ _ _ _ _ _ _ _ _ _ _ _ _ _ _ _ _ _ _ O_v26.out BB.out)
end Go.Proofs.YtlhchmjnaanjpaaGreatDoor.Row
