/- Contracts and mathematics, joined: PortI, SealC, PortF. No conditions but those that each states. -/
import Derived.Test.YtbooamnlocobfaaGreatB4
import Derived.Deep.RegionHeld3
import Derived.Test.YtbooamnlocobfaaGreatB1
/- The region of the program's portion. No conditions but that lengths fit. -/
namespace Go.Proofs.YtbooamnlocobfaaGreat.Row
open Go.ChangeShapes Go.WideShapes Go.ChangeAt Go.RowKit Go.Instr
set_option linter.unusedVariables false
set_option maxRecDepth 100000

set_option maxRecDepth 100000 in
set_option maxHeartbeats 4000000 in
theorem portI {Q : Exit → Act → World → Prop} {v1 v2 v3 v4 v5 v6 v7 v8 v9 v10 v11 v12 v13 v14 v15 v16 v17 v18 v19 v20 v21 v22 v23 v24 v25 v26 : Value} {w : World} {p na ca nb cb nc cc : Nat} {xa xb xc : Option Addr} {f s : Int} {la lc : List ByteArray} {lb : List Int} (H_a : Hid (Holds Value.string w (.slice xa na ca) la)) (H_b : Hid (Sl.Holds .u8 w (.slice xb nb cb) lb)) (HBY : Hid (Sl.Byt lb)) (HLA : Hid (bulk la ≤ 1200000)) (HLB : Hid (lb.length ≤ 1200000)) (H_c : Hid (Holds Value.string w (.slice xc nc cc) lc)) (HLC : Hid (bulk lc ≤ 1200000)) (HLT : Hid ((Seal.b2i (appName [] la) ++ Seal.b2i lb ++ Seal.b2i (appName [] lc) ++ [f]).length ≤ 10000000)) (K0 : Hid (w.cell? ⟨p, 0, none⟩ = some (.slice xa na ca))) (K1 : Hid (w.cell? ⟨p, 1, none⟩ = some (.slice xb nb cb))) (K2 : Hid (w.cell? ⟨p, 2, none⟩ = some (.slice xc nc cc))) (K3 : Hid (w.cell? ⟨p, 3, none⟩ = some (.int .i64 f))) (K4 : Hid (w.cell? ⟨p, 4, none⟩ = some (.int .i64 s)))
    (hQ : ∀ (u3 u4 u5 u6 u7 u8 u9 u10 u11 u12 u13 u14 u15 u16 u17 u18 u19 u20 u21 u22 u23 u24 u25 u26 : Value) (v26 : Value) (wx : World), Sl.Own 3 .i64 w.heap.size wx v26 (Seal.b2i (appName [] la) ++ Seal.b2i lb ++ Seal.b2i (appName [] lc) ++ [f]) → Below w.heap.size w wx → Q .normal ⟨#[.pointer (some ⟨p, 0, none⟩), v1, v26, u3, u4, u5, u6, u7, u8, u9, u10, u11, u12, u13, u14, u15, u16, u17, u18, u19, u20, u21, u22, u23, u24, u25, u26], []⟩ wx) :
    (Code.region 1 #[{ dst := some 3, op := Op.move (Operand.tmp 0), type := 84, pos := "l08_thing.go:28", after := #[], guard := none },
      { dst := some 4, op := Op.nilCheck (Operand.tmp 3), type := 0, pos := "l08_thing.go:28", after := #[{ on := 0, ground := Ground.data }], guard := none },
      { dst := some 5, op := Op.fieldAddr 28 (Operand.tmp 4) 0, type := 0, pos := "l08_thing.go:28", after := #[{ on := 1, ground := Ground.data }], guard := none },
      { dst := some 6, op := Op.load 26 (Operand.tmp 5), type := 26, pos := "l08_thing.go:28", after := #[{ on := 2, ground := Ground.data }], guard := none },
      { dst := some 7, op := Op.call { callee := Callee.value (Operand.func 34), args := #[Operand.const (Value.slice none 0 0), Operand.tmp 6], argTypes := #[22, 26] }, type := 22, pos := "l08_thing.go:29", after := #[{ on := 3, ground := Ground.data }], guard := none },
      { dst := some 8, op := Op.call { callee := Callee.value (Operand.func 92), args := #[Operand.tmp 7], argTypes := #[22] }, type := 47, pos := "l08_thing.go:29", after := #[{ on := 4, ground := Ground.data }, { on := 4, ground := Ground.chain }], guard := none },
      { dst := some 9, op := Op.move (Operand.tmp 0), type := 84, pos := "l08_thing.go:28", after := #[], guard := none },
      { dst := some 10, op := Op.nilCheck (Operand.tmp 9), type := 0, pos := "l08_thing.go:28", after := #[{ on := 6, ground := Ground.data }], guard := none },
      { dst := some 11, op := Op.fieldAddr 28 (Operand.tmp 10) 1, type := 0, pos := "l08_thing.go:28", after := #[{ on := 7, ground := Ground.data }], guard := none },
      { dst := some 12, op := Op.load 22 (Operand.tmp 11), type := 22, pos := "l08_thing.go:28", after := #[{ on := 8, ground := Ground.data }], guard := none },
      { dst := some 13, op := Op.call { callee := Callee.value (Operand.func 92), args := #[Operand.tmp 12], argTypes := #[22] }, type := 47, pos := "l08_thing.go:30", after := #[{ on := 9, ground := Ground.data }, { on := 5, ground := Ground.chain }], guard := none },
      { dst := some 14, op := Op.move (Operand.tmp 0), type := 84, pos := "l08_thing.go:28", after := #[], guard := none },
      { dst := some 15, op := Op.nilCheck (Operand.tmp 14), type := 0, pos := "l08_thing.go:28", after := #[{ on := 11, ground := Ground.data }], guard := none },
      { dst := some 16, op := Op.fieldAddr 28 (Operand.tmp 15) 2, type := 0, pos := "l08_thing.go:28", after := #[{ on := 12, ground := Ground.data }], guard := none },
      { dst := some 17, op := Op.load 26 (Operand.tmp 16), type := 26, pos := "l08_thing.go:28", after := #[{ on := 13, ground := Ground.data }], guard := none },
      { dst := some 18, op := Op.call { callee := Callee.value (Operand.func 34), args := #[Operand.const (Value.slice none 0 0), Operand.tmp 17], argTypes := #[22, 26] }, type := 22, pos := "l08_thing.go:31", after := #[{ on := 14, ground := Ground.data }, { on := 10, ground := Ground.chain }], guard := none },
      { dst := some 19, op := Op.call { callee := Callee.value (Operand.func 92), args := #[Operand.tmp 18], argTypes := #[22] }, type := 47, pos := "l08_thing.go:31", after := #[{ on := 15, ground := Ground.data }, { on := 15, ground := Ground.chain }], guard := none },
      { dst := some 20, op := Op.move (Operand.tmp 0), type := 84, pos := "l08_thing.go:28", after := #[], guard := none },
      { dst := some 21, op := Op.nilCheck (Operand.tmp 20), type := 0, pos := "l08_thing.go:28", after := #[{ on := 17, ground := Ground.data }], guard := none },
      { dst := some 22, op := Op.fieldAddr 28 (Operand.tmp 21) 3, type := 0, pos := "l08_thing.go:28", after := #[{ on := 18, ground := Ground.data }], guard := none },
      { dst := some 23, op := Op.load 3 (Operand.tmp 22), type := 3, pos := "l08_thing.go:28", after := #[{ on := 19, ground := Ground.data }], guard := none },
      { dst := some 24, op := Op.buildSlice 47 1 #[(0, Operand.tmp 23)], type := 47, pos := "l08_thing.go:28", after := #[{ on := 20, ground := Ground.data }], guard := none },
      { dst := some 25, op := Op.buildSlice 102 4 #[(0, Operand.tmp 8), (1, Operand.tmp 13), (2, Operand.tmp 19), (3, Operand.tmp 24)], type := 102, pos := "l08_thing.go:28", after := #[{ on := 5, ground := Ground.data }, { on := 10, ground := Ground.data }, { on := 16, ground := Ground.data }, { on := 21, ground := Ground.data }], guard := none },
      { dst := some 26, op := Op.call { callee := Callee.value (Operand.func 91), args := #[Operand.tmp 25], argTypes := #[102] }, type := 47, pos := "l08_thing.go:28", after := #[{ on := 22, ground := Ground.data }, { on := 16, ground := Ground.chain }], guard := none },
      { dst := some 2, op := Op.assign (Operand.tmp 26), type := 47, pos := "l08_thing.go:28", after := #[{ on := 23, ground := Ground.data }, { on := 23, ground := Ground.chain }, { on := 0, ground := Ground.phase }, { on := 1, ground := Ground.phase }, { on := 2, ground := Ground.phase }, { on := 3, ground := Ground.phase }, { on := 4, ground := Ground.phase }, { on := 5, ground := Ground.phase }, { on := 6, ground := Ground.phase }, { on := 7, ground := Ground.phase }, { on := 8, ground := Ground.phase }, { on := 9, ground := Ground.phase }, { on := 10, ground := Ground.phase }, { on := 11, ground := Ground.phase }, { on := 12, ground := Ground.phase }, { on := 13, ground := Ground.phase }, { on := 14, ground := Ground.phase }, { on := 15, ground := Ground.phase }, { on := 16, ground := Ground.phase }, { on := 17, ground := Ground.phase }, { on := 18, ground := Ground.phase }, { on := 19, ground := Ground.phase }, { on := 20, ground := Ground.phase }, { on := 21, ground := Ground.phase }, { on := 22, ground := Ground.phase }, { on := 23, ground := Ground.phase }], guard := none }] true).wp Tryz.prog Q ⟨#[.pointer (some ⟨p, 0, none⟩), v1, v2, v3, v4, v5, v6, v7, v8, v9, v10, v11, v12, v13, v14, v15, v16, v17, v18, v19, v20, v21, v22, v23, v24, v25, v26], []⟩ w := by
  have HQ := Lib.hid hQ; clear hQ
  have hdr : Below w.heap.size w w.drew := (Below.refl _ _).drew
  have BB := Lib.hid hdr
  refine wp_region_noPanic ?_
  refine wp_region_held_drew (S := (fun w' => w'.cell? ⟨p, 0, none⟩ = some (.slice xa na ca) ∧ w'.cell? ⟨p, 1, none⟩ = some (.slice xb nb cb) ∧ w'.cell? ⟨p, 2, none⟩ = some (.slice xc nc cc) ∧ w'.cell? ⟨p, 3, none⟩ = some (.int .i64 f) ∧ w'.cell? ⟨p, 4, none⟩ = some (.int .i64 s))) (by kernel_rfl) ?_ (fun hHeld => ?_)
  · exact ⟨kc K0.out BB.out, kc K1.out BB.out, kc K2.out BB.out, kc K3.out BB.out, kc K4.out BB.out⟩
  clear hdr
  generalize w.drew = wd at *
  refine wpAnyH_take (i := 0) (oi := { dst := some 3, op := Op.move (Operand.tmp 0), type := 84, pos := "l08_thing.go:28", after := #[], guard := none }) (v := ?_) rfl (by kernel_rfl) (by kernel_rfl) (by kernel_rfl) (fun _ _ _ h => h) (Or.inl ⟨by rfl, ?_⟩) (by assumption) ?_
  rotate_left
  · intro w' hSw; (try dsimp only at hSw); first | (go_simp; done) | (go_simp; with_reducible rfl)
  (try simp only [Act.put, List.setIfInBounds_toArray, List.set_cons_zero, List.set_cons_succ])
  refine wpAnyH_take (i := 1) (oi := { dst := some 4, op := Op.nilCheck (Operand.tmp 3), type := 0, pos := "l08_thing.go:28", after := #[{ on := 0, ground := Ground.data }], guard := none }) (v := ?_) rfl (by kernel_rfl) (by kernel_rfl) (by kernel_rfl) (fun _ _ _ h => h) (Or.inl ⟨by rfl, ?_⟩) (by assumption) ?_
  rotate_left
  · intro w' hSw; (try dsimp only at hSw); first | (go_simp; done) | (go_simp; with_reducible rfl)
  (try simp only [Act.put, List.setIfInBounds_toArray, List.set_cons_zero, List.set_cons_succ])
  refine wpAnyH_take (i := 2) (oi := { dst := some 5, op := Op.fieldAddr 28 (Operand.tmp 4) 0, type := 0, pos := "l08_thing.go:28", after := #[{ on := 1, ground := Ground.data }], guard := none }) (v := ?_) rfl (by kernel_rfl) (by kernel_rfl) (by kernel_rfl) (fun _ _ _ h => h) (Or.inl ⟨by rfl, ?_⟩) (by assumption) ?_
  rotate_left
  · intro w' hSw; (try dsimp only at hSw); first | (go_simp; done) | (go_simp; with_reducible rfl)
  (try simp only [Act.put, List.setIfInBounds_toArray, List.set_cons_zero, List.set_cons_succ])
  refine wpAnyH_take (i := 3) (oi := { dst := some 6, op := Op.load 26 (Operand.tmp 5), type := 26, pos := "l08_thing.go:28", after := #[{ on := 2, ground := Ground.data }], guard := none }) (v := ?_) rfl (by kernel_rfl) (by kernel_rfl) (by kernel_rfl) (fun _ _ _ h => h) (Or.inl ⟨by rfl, ?_⟩) (by assumption) ?_
  rotate_left
  · intro w' hSw; (try dsimp only at hSw); first | (go_simp; done) | (go_simp; with_reducible rfl)
  (try simp only [Act.put, List.setIfInBounds_toArray, List.set_cons_zero, List.set_cons_succ])
  refine wpAnyH_take (i := 6) (oi := { dst := some 9, op := Op.move (Operand.tmp 0), type := 84, pos := "l08_thing.go:28", after := #[], guard := none }) (v := ?_) rfl (by kernel_rfl) (by kernel_rfl) (by kernel_rfl) (fun _ _ _ h => h) (Or.inl ⟨by rfl, ?_⟩) (by assumption) ?_
  rotate_left
  · intro w' hSw; (try dsimp only at hSw); first | (go_simp; done) | (go_simp; with_reducible rfl)
  (try simp only [Act.put, List.setIfInBounds_toArray, List.set_cons_zero, List.set_cons_succ])
  refine wpAnyH_take (i := 7) (oi := { dst := some 10, op := Op.nilCheck (Operand.tmp 9), type := 0, pos := "l08_thing.go:28", after := #[{ on := 6, ground := Ground.data }], guard := none }) (v := ?_) rfl (by kernel_rfl) (by kernel_rfl) (by kernel_rfl) (fun _ _ _ h => h) (Or.inl ⟨by rfl, ?_⟩) (by assumption) ?_
  rotate_left
  · intro w' hSw; (try dsimp only at hSw); first | (go_simp; done) | (go_simp; with_reducible rfl)
  (try simp only [Act.put, List.setIfInBounds_toArray, List.set_cons_zero, List.set_cons_succ])
  refine wpAnyH_take (i := 8) (oi := { dst := some 11, op := Op.fieldAddr 28 (Operand.tmp 10) 1, type := 0, pos := "l08_thing.go:28", after := #[{ on := 7, ground := Ground.data }], guard := none }) (v := ?_) rfl (by kernel_rfl) (by kernel_rfl) (by kernel_rfl) (fun _ _ _ h => h) (Or.inl ⟨by rfl, ?_⟩) (by assumption) ?_
  rotate_left
  · intro w' hSw; (try dsimp only at hSw); first | (go_simp; done) | (go_simp; with_reducible rfl)
  (try simp only [Act.put, List.setIfInBounds_toArray, List.set_cons_zero, List.set_cons_succ])
  refine wpAnyH_take (i := 9) (oi := { dst := some 12, op := Op.load 22 (Operand.tmp 11), type := 22, pos := "l08_thing.go:28", after := #[{ on := 8, ground := Ground.data }], guard := none }) (v := ?_) rfl (by kernel_rfl) (by kernel_rfl) (by kernel_rfl) (fun _ _ _ h => h) (Or.inl ⟨by rfl, ?_⟩) (by assumption) ?_
  rotate_left
  · intro w' hSw; (try dsimp only at hSw); first | (go_simp; done) | (go_simp; with_reducible rfl)
  (try simp only [Act.put, List.setIfInBounds_toArray, List.set_cons_zero, List.set_cons_succ])
  refine wpAnyH_take (i := 11) (oi := { dst := some 14, op := Op.move (Operand.tmp 0), type := 84, pos := "l08_thing.go:28", after := #[], guard := none }) (v := ?_) rfl (by kernel_rfl) (by kernel_rfl) (by kernel_rfl) (fun _ _ _ h => h) (Or.inl ⟨by rfl, ?_⟩) (by assumption) ?_
  rotate_left
  · intro w' hSw; (try dsimp only at hSw); first | (go_simp; done) | (go_simp; with_reducible rfl)
  (try simp only [Act.put, List.setIfInBounds_toArray, List.set_cons_zero, List.set_cons_succ])
  refine wpAnyH_take (i := 12) (oi := { dst := some 15, op := Op.nilCheck (Operand.tmp 14), type := 0, pos := "l08_thing.go:28", after := #[{ on := 11, ground := Ground.data }], guard := none }) (v := ?_) rfl (by kernel_rfl) (by kernel_rfl) (by kernel_rfl) (fun _ _ _ h => h) (Or.inl ⟨by rfl, ?_⟩) (by assumption) ?_
  rotate_left
  · intro w' hSw; (try dsimp only at hSw); first | (go_simp; done) | (go_simp; with_reducible rfl)
  (try simp only [Act.put, List.setIfInBounds_toArray, List.set_cons_zero, List.set_cons_succ])
  refine wpAnyH_take (i := 13) (oi := { dst := some 16, op := Op.fieldAddr 28 (Operand.tmp 15) 2, type := 0, pos := "l08_thing.go:28", after := #[{ on := 12, ground := Ground.data }], guard := none }) (v := ?_) rfl (by kernel_rfl) (by kernel_rfl) (by kernel_rfl) (fun _ _ _ h => h) (Or.inl ⟨by rfl, ?_⟩) (by assumption) ?_
  rotate_left
  · intro w' hSw; (try dsimp only at hSw); first | (go_simp; done) | (go_simp; with_reducible rfl)
  (try simp only [Act.put, List.setIfInBounds_toArray, List.set_cons_zero, List.set_cons_succ])
  refine wpAnyH_take (i := 14) (oi := { dst := some 17, op := Op.load 26 (Operand.tmp 16), type := 26, pos := "l08_thing.go:28", after := #[{ on := 13, ground := Ground.data }], guard := none }) (v := ?_) rfl (by kernel_rfl) (by kernel_rfl) (by kernel_rfl) (fun _ _ _ h => h) (Or.inl ⟨by rfl, ?_⟩) (by assumption) ?_
  rotate_left
  · intro w' hSw; (try dsimp only at hSw); first | (go_simp; done) | (go_simp; with_reducible rfl)
  (try simp only [Act.put, List.setIfInBounds_toArray, List.set_cons_zero, List.set_cons_succ])
  refine wpAnyH_take (i := 17) (oi := { dst := some 20, op := Op.move (Operand.tmp 0), type := 84, pos := "l08_thing.go:28", after := #[], guard := none }) (v := ?_) rfl (by kernel_rfl) (by kernel_rfl) (by kernel_rfl) (fun _ _ _ h => h) (Or.inl ⟨by rfl, ?_⟩) (by assumption) ?_
  rotate_left
  · intro w' hSw; (try dsimp only at hSw); first | (go_simp; done) | (go_simp; with_reducible rfl)
  (try simp only [Act.put, List.setIfInBounds_toArray, List.set_cons_zero, List.set_cons_succ])
  refine wpAnyH_take (i := 18) (oi := { dst := some 21, op := Op.nilCheck (Operand.tmp 20), type := 0, pos := "l08_thing.go:28", after := #[{ on := 17, ground := Ground.data }], guard := none }) (v := ?_) rfl (by kernel_rfl) (by kernel_rfl) (by kernel_rfl) (fun _ _ _ h => h) (Or.inl ⟨by rfl, ?_⟩) (by assumption) ?_
  rotate_left
  · intro w' hSw; (try dsimp only at hSw); first | (go_simp; done) | (go_simp; with_reducible rfl)
  (try simp only [Act.put, List.setIfInBounds_toArray, List.set_cons_zero, List.set_cons_succ])
  refine wpAnyH_take (i := 19) (oi := { dst := some 22, op := Op.fieldAddr 28 (Operand.tmp 21) 3, type := 0, pos := "l08_thing.go:28", after := #[{ on := 18, ground := Ground.data }], guard := none }) (v := ?_) rfl (by kernel_rfl) (by kernel_rfl) (by kernel_rfl) (fun _ _ _ h => h) (Or.inl ⟨by rfl, ?_⟩) (by assumption) ?_
  rotate_left
  · intro w' hSw; (try dsimp only at hSw); first | (go_simp; done) | (go_simp; with_reducible rfl)
  (try simp only [Act.put, List.setIfInBounds_toArray, List.set_cons_zero, List.set_cons_succ])
  refine wpAnyH_take (i := 20) (oi := { dst := some 23, op := Op.load 3 (Operand.tmp 22), type := 3, pos := "l08_thing.go:28", after := #[{ on := 19, ground := Ground.data }], guard := none }) (v := ?_) rfl (by kernel_rfl) (by kernel_rfl) (by kernel_rfl) (fun _ _ _ h => h) (Or.inl ⟨by rfl, ?_⟩) (by assumption) ?_
  rotate_left
  · intro w' hSw; (try dsimp only at hSw); first | (go_simp; done) | (go_simp; with_reducible rfl)
  (try simp only [Act.put, List.setIfInBounds_toArray, List.set_cons_zero, List.set_cons_succ])
  refine wpAnyH_ready (rs := [4, 21]) (by kernel_rfl) (by simp) ?_
  refine AllReadyH.cons (o := { dst := some 7, op := Op.call { callee := Callee.value (Operand.func 34), args := #[Operand.const (Value.slice none 0 0), Operand.tmp 6], argTypes := #[22, 26] }, type := 22, pos := "l08_thing.go:29", after := #[{ on := 3, ground := Ground.data }], guard := none }) rfl (fun K hK => ?_) ?_
  ·
    go_simp
    refine (implAppendName (.slice none 0 0) _ [] la _ (Sl.Holds.nil _ _) (H_a.out.on BB.out) (by simp) HLA.out).mono ?_
    rintro e wn1 ⟨v7, rfl, ho, hb⟩
    have H_v7 := Lib.hid ho.holds; clear ho
    replace BB := Lib.hid (BB.out.trans (hb.mono BB.out.size))
    clear hb
    (try go_wp2_with fail)
    clear hHeld
    refine hK.out _ _ ?_ (fun hHeld => ?_)
    · (try dsimp only); exact ⟨kc K0.out BB.out, kc K1.out BB.out, kc K2.out BB.out, kc K3.out BB.out, kc K4.out BB.out⟩
    clear hK K
    (try simp only [Act.put, List.setIfInBounds_toArray, List.set_cons_zero, List.set_cons_succ])
    refine wpAnyH_ready (rs := [5, 21]) (by kernel_rfl) (by simp) ?_
    refine AllReadyH.cons (o := { dst := some 8, op := Op.call { callee := Callee.value (Operand.func 92), args := #[Operand.tmp 7], argTypes := #[22] }, type := 47, pos := "l08_thing.go:29", after := #[{ on := 4, ground := Ground.data }, { on := 4, ground := Ground.chain }], guard := none }) rfl (fun K hK => ?_) ?_
    ·
      go_simp
      refine (Sl.implBytesToInts _ (appName [] la) _ (H_v7.out) (pbyt_app la pbyt_nil) (by have h1 := pname_len [] la; have h2 := HLA.out; simp only [List.length_nil] at h1; omega)).mono ?_
      rintro e wn2 ⟨v8, rfl, ho, hb⟩
      obtain ⟨g_v8, n_v8, c_v8, rfl, ho⟩ := own_some ho (b2i_pos _)
      have O_v8 := Lib.hid (ho.holds)
      clear ho
      replace H_v7 := Lib.hid (H_v7.out.on hb)
      replace BB := Lib.hid (BB.out.trans (hb.mono BB.out.size))
      clear hb
      (try go_wp2_with fail)
      clear hHeld
      refine hK.out _ _ ?_ (fun hHeld => ?_)
      · (try dsimp only); exact ⟨kc K0.out BB.out, kc K1.out BB.out, kc K2.out BB.out, kc K3.out BB.out, kc K4.out BB.out⟩
      clear hK K
      (try simp only [Act.put, List.setIfInBounds_toArray, List.set_cons_zero, List.set_cons_succ])
      refine wpAnyH_ready (rs := [10, 21]) (by kernel_rfl) (by simp) ?_
      refine AllReadyH.cons (o := { dst := some 13, op := Op.call { callee := Callee.value (Operand.func 92), args := #[Operand.tmp 12], argTypes := #[22] }, type := 47, pos := "l08_thing.go:30", after := #[{ on := 9, ground := Ground.data }, { on := 5, ground := Ground.chain }], guard := none }) rfl (fun K hK => ?_) ?_
      ·
        go_simp
        refine (Sl.implBytesToInts _ (lb) _ (H_b.out.on BB.out) HBY.out (by have h2 := HLB.out; omega)).mono ?_
        rintro e wn3 ⟨v13, rfl, ho, hb⟩
        obtain ⟨g_v13, n_v13, c_v13, rfl, ho⟩ := own_some ho (b2i_pos _)
        have O_v13 := Lib.hid (ho.holds)
        clear ho
        replace H_v7 := Lib.hid (H_v7.out.on hb)
        replace O_v8 := Lib.hid (O_v8.out.on hb)
        replace BB := Lib.hid (BB.out.trans (hb.mono BB.out.size))
        clear hb
        (try go_wp2_with fail)
        clear hHeld
        refine hK.out _ _ ?_ (fun hHeld => ?_)
        · (try dsimp only); exact ⟨kc K0.out BB.out, kc K1.out BB.out, kc K2.out BB.out, kc K3.out BB.out, kc K4.out BB.out⟩
        clear hK K
        (try simp only [Act.put, List.setIfInBounds_toArray, List.set_cons_zero, List.set_cons_succ])
        refine wpAnyH_ready (rs := [15, 21]) (by kernel_rfl) (by simp) ?_
        refine AllReadyH.cons (o := { dst := some 18, op := Op.call { callee := Callee.value (Operand.func 34), args := #[Operand.const (Value.slice none 0 0), Operand.tmp 17], argTypes := #[22, 26] }, type := 22, pos := "l08_thing.go:31", after := #[{ on := 14, ground := Ground.data }, { on := 10, ground := Ground.chain }], guard := none }) rfl (fun K hK => ?_) ?_
        ·
          go_simp
          refine (implAppendName (.slice none 0 0) _ [] lc _ (Sl.Holds.nil _ _) (H_c.out.on BB.out) (by simp) HLC.out).mono ?_
          rintro e wn4 ⟨v18, rfl, ho, hb⟩
          have H_v18 := Lib.hid ho.holds; clear ho
          replace H_v7 := Lib.hid (H_v7.out.on hb)
          replace O_v8 := Lib.hid (O_v8.out.on hb)
          replace O_v13 := Lib.hid (O_v13.out.on hb)
          replace BB := Lib.hid (BB.out.trans (hb.mono BB.out.size))
          clear hb
          (try go_wp2_with fail)
          clear hHeld
          refine hK.out _ _ ?_ (fun hHeld => ?_)
          · (try dsimp only); exact ⟨kc K0.out BB.out, kc K1.out BB.out, kc K2.out BB.out, kc K3.out BB.out, kc K4.out BB.out⟩
          clear hK K
          (try simp only [Act.put, List.setIfInBounds_toArray, List.set_cons_zero, List.set_cons_succ])
          refine wpAnyH_ready (rs := [16, 21]) (by kernel_rfl) (by simp) ?_
          refine AllReadyH.cons (o := { dst := some 19, op := Op.call { callee := Callee.value (Operand.func 92), args := #[Operand.tmp 18], argTypes := #[22] }, type := 47, pos := "l08_thing.go:31", after := #[{ on := 15, ground := Ground.data }, { on := 15, ground := Ground.chain }], guard := none }) rfl (fun K hK => ?_) ?_
          ·
            go_simp
            refine (Sl.implBytesToInts _ (appName [] lc) _ (H_v18.out) (pbyt_app lc pbyt_nil) (by have h1 := pname_len [] lc; have h2 := HLC.out; simp only [List.length_nil] at h1; omega)).mono ?_
            rintro e wn5 ⟨v19, rfl, ho, hb⟩
            obtain ⟨g_v19, n_v19, c_v19, rfl, ho⟩ := own_some ho (b2i_pos _)
            have O_v19 := Lib.hid (ho.holds)
            clear ho
            replace H_v7 := Lib.hid (H_v7.out.on hb)
            replace O_v8 := Lib.hid (O_v8.out.on hb)
            replace O_v13 := Lib.hid (O_v13.out.on hb)
            replace H_v18 := Lib.hid (H_v18.out.on hb)
            replace BB := Lib.hid (BB.out.trans (hb.mono BB.out.size))
            clear hb
            (try go_wp2_with fail)
            clear hHeld
            refine hK.out _ _ ?_ (fun hHeld => ?_)
            · (try dsimp only); exact ⟨kc K0.out BB.out, kc K1.out BB.out, kc K2.out BB.out, kc K3.out BB.out, kc K4.out BB.out⟩
            clear hK K
            (try simp only [Act.put, List.setIfInBounds_toArray, List.set_cons_zero, List.set_cons_succ])
            refine wpAnyH_ready (rs := [21]) (by kernel_rfl) (by simp) ?_
            refine AllReadyH.cons (o := { dst := some 24, op := Op.buildSlice 47 1 #[(0, Operand.tmp 23)], type := 47, pos := "l08_thing.go:28", after := #[{ on := 20, ground := Ground.data }], guard := none }) rfl (fun K hK => ?_) AllReadyH.nil
            go_simp
            have hb : Below wn5.heap.size wn5 (wn5.alloc (.cells #[.int .i64 f] 3)) := (Below.refl _ _).alloc (Nat.le_refl _) _
            obtain ⟨bf, hbf⟩ : ∃ b, b = wn5.heap.size := ⟨_, rfl⟩
            have HF := Lib.hid (hold_one wn5 f bf hbf)
            rw [← hbf]
            clear hbf
            replace H_v7 := Lib.hid (H_v7.out.on hb)
            replace O_v8 := Lib.hid (O_v8.out.on hb)
            replace O_v13 := Lib.hid (O_v13.out.on hb)
            replace H_v18 := Lib.hid (H_v18.out.on hb)
            replace O_v19 := Lib.hid (O_v19.out.on hb)
            replace BB := Lib.hid (BB.out.trans (hb.mono BB.out.size))
            clear hb
            generalize wn5.alloc (.cells #[.int .i64 f] 3) = wn6 at *
            clear hHeld
            refine hK.out _ _ ?_ (fun hHeld => ?_)
            · (try dsimp only); exact ⟨kc K0.out BB.out, kc K1.out BB.out, kc K2.out BB.out, kc K3.out BB.out, kc K4.out BB.out⟩
            clear hK K
            (try simp only [Act.put, List.setIfInBounds_toArray, List.set_cons_zero, List.set_cons_succ])
            refine wpAnyH_ready (rs := [22]) (by kernel_rfl) (by simp) ?_
            refine AllReadyH.cons (o := { dst := some 25, op := Op.buildSlice 102 4 #[(0, Operand.tmp 8), (1, Operand.tmp 13), (2, Operand.tmp 19), (3, Operand.tmp 24)], type := 102, pos := "l08_thing.go:28", after := #[{ on := 5, ground := Ground.data }, { on := 10, ground := Ground.data }, { on := 16, ground := Ground.data }, { on := 21, ground := Ground.data }], guard := none }) rfl (fun K hK => ?_) AllReadyH.nil
            go_simp
            have hb : Below wn6.heap.size wn6 (wn6.alloc (.cells #[.slice (some ⟨g_v8, 0, none⟩) n_v8 c_v8, .slice (some ⟨g_v13, 0, none⟩) n_v13 c_v13, .slice (some ⟨g_v19, 0, none⟩) n_v19 c_v19, .slice (some ⟨bf, 0, none⟩) 1 1] 47)) := (Below.refl _ _).alloc (Nat.le_refl _) _
            have HK4 := Lib.hid (Ret.Blk.new wn6 #[.slice (some ⟨g_v8, 0, none⟩) n_v8 c_v8, .slice (some ⟨g_v13, 0, none⟩) n_v13 c_v13, .slice (some ⟨g_v19, 0, none⟩) n_v19 c_v19, .slice (some ⟨bf, 0, none⟩) 1 1] 47)
            replace H_v7 := Lib.hid (H_v7.out.on hb)
            replace O_v8 := Lib.hid (O_v8.out.on hb)
            replace O_v13 := Lib.hid (O_v13.out.on hb)
            replace H_v18 := Lib.hid (H_v18.out.on hb)
            replace O_v19 := Lib.hid (O_v19.out.on hb)
            replace HF := Lib.hid (HF.out.on hb)
            replace BB := Lib.hid (BB.out.trans (hb.mono BB.out.size))
            clear hb
            generalize wn6.alloc (.cells #[.slice (some ⟨g_v8, 0, none⟩) n_v8 c_v8, .slice (some ⟨g_v13, 0, none⟩) n_v13 c_v13, .slice (some ⟨g_v19, 0, none⟩) n_v19 c_v19, .slice (some ⟨bf, 0, none⟩) 1 1] 47) = wn7 at *
            clear hHeld
            refine hK.out _ _ ?_ (fun hHeld => ?_)
            · (try dsimp only); exact ⟨kc K0.out BB.out, kc K1.out BB.out, kc K2.out BB.out, kc K3.out BB.out, kc K4.out BB.out⟩
            clear hK K
            (try simp only [Act.put, List.setIfInBounds_toArray, List.set_cons_zero, List.set_cons_succ])
            refine wpAnyH_ready (rs := [23]) (by kernel_rfl) (by simp) ?_
            refine AllReadyH.cons (o := { dst := some 26, op := Op.call { callee := Callee.value (Operand.func 91), args := #[Operand.tmp 25], argTypes := #[102] }, type := 47, pos := "l08_thing.go:28", after := #[{ on := 22, ground := Ground.data }, { on := 16, ground := Ground.chain }], guard := none }) rfl (fun K hK => ?_) AllReadyH.nil
            go_simp
            refine (concat4 HK4.out O_v8.out O_v13.out O_v19.out HF.out HLT.out).mono ?_
            rintro e wn8 ⟨v26, rfl, ho, hb⟩
            have O_v26 := Lib.hid (Sl.Own.mono ho BB.out.size); clear ho
            replace H_v7 := Lib.hid (H_v7.out.on hb)
            replace O_v8 := Lib.hid (O_v8.out.on hb)
            replace O_v13 := Lib.hid (O_v13.out.on hb)
            replace H_v18 := Lib.hid (H_v18.out.on hb)
            replace O_v19 := Lib.hid (O_v19.out.on hb)
            replace HF := Lib.hid (HF.out.on hb)
            replace BB := Lib.hid (BB.out.trans (hb.mono BB.out.size))
            clear hb
            (try go_wp2_with fail)
            clear hHeld
            refine hK.out _ _ ?_ (fun hHeld => ?_)
            · (try dsimp only); exact ⟨kc K0.out BB.out, kc K1.out BB.out, kc K2.out BB.out, kc K3.out BB.out, kc K4.out BB.out⟩
            clear hK K
            (try simp only [Act.put, List.setIfInBounds_toArray, List.set_cons_zero, List.set_cons_succ])
            refine wpAnyH_take (i := 24) (oi := { dst := some 2, op := Op.assign (Operand.tmp 26), type := 47, pos := "l08_thing.go:28", after := #[{ on := 23, ground := Ground.data }, { on := 23, ground := Ground.chain }, { on := 0, ground := Ground.phase }, { on := 1, ground := Ground.phase }, { on := 2, ground := Ground.phase }, { on := 3, ground := Ground.phase }, { on := 4, ground := Ground.phase }, { on := 5, ground := Ground.phase }, { on := 6, ground := Ground.phase }, { on := 7, ground := Ground.phase }, { on := 8, ground := Ground.phase }, { on := 9, ground := Ground.phase }, { on := 10, ground := Ground.phase }, { on := 11, ground := Ground.phase }, { on := 12, ground := Ground.phase }, { on := 13, ground := Ground.phase }, { on := 14, ground := Ground.phase }, { on := 15, ground := Ground.phase }, { on := 16, ground := Ground.phase }, { on := 17, ground := Ground.phase }, { on := 18, ground := Ground.phase }, { on := 19, ground := Ground.phase }, { on := 20, ground := Ground.phase }, { on := 21, ground := Ground.phase }, { on := 22, ground := Ground.phase }, { on := 23, ground := Ground.phase }], guard := none }) (v := ?_) rfl (by kernel_rfl) (by kernel_rfl) (by kernel_rfl) (fun _ _ _ h => h) (Or.inl ⟨by rfl, ?_⟩) (by assumption) ?_
            rotate_left
            · intro w' hSw; (try dsimp only at hSw); first | (go_simp; done) | (go_simp; with_reducible rfl)
            (try simp only [Act.put, List.setIfInBounds_toArray, List.set_cons_zero, List.set_cons_succ])
            refine wpAnyH_done (by kernel_rfl) ?_ _
            exact NoPanic.normal (HQ.out _ _ _ _ _ _ _ _ _ _ _ _ _ _ _ _ _ _ _ _ _ _ _ _ _ _ O_v26.out BB.out)
          refine AllReadyH.cons (o := { dst := some 24, op := Op.buildSlice 47 1 #[(0, Operand.tmp 23)], type := 47, pos := "l08_thing.go:28", after := #[{ on := 20, ground := Ground.data }], guard := none }) rfl (fun K hK => ?_) AllReadyH.nil
          go_simp
          have hb : Below wn4.heap.size wn4 (wn4.alloc (.cells #[.int .i64 f] 3)) := (Below.refl _ _).alloc (Nat.le_refl _) _
          obtain ⟨bf, hbf⟩ : ∃ b, b = wn4.heap.size := ⟨_, rfl⟩
          have HF := Lib.hid (hold_one wn4 f bf hbf)
          rw [← hbf]
          clear hbf
          replace H_v7 := Lib.hid (H_v7.out.on hb)
          replace O_v8 := Lib.hid (O_v8.out.on hb)
          replace O_v13 := Lib.hid (O_v13.out.on hb)
          replace H_v18 := Lib.hid (H_v18.out.on hb)
          replace BB := Lib.hid (BB.out.trans (hb.mono BB.out.size))
          clear hb
          generalize wn4.alloc (.cells #[.int .i64 f] 3) = wn9 at *
          clear hHeld
          refine hK.out _ _ ?_ (fun hHeld => ?_)
          · (try dsimp only); exact ⟨kc K0.out BB.out, kc K1.out BB.out, kc K2.out BB.out, kc K3.out BB.out, kc K4.out BB.out⟩
          clear hK K
          (try simp only [Act.put, List.setIfInBounds_toArray, List.set_cons_zero, List.set_cons_succ])
          refine wpAnyH_ready (rs := [16]) (by kernel_rfl) (by simp) ?_
          refine AllReadyH.cons (o := { dst := some 19, op := Op.call { callee := Callee.value (Operand.func 92), args := #[Operand.tmp 18], argTypes := #[22] }, type := 47, pos := "l08_thing.go:31", after := #[{ on := 15, ground := Ground.data }, { on := 15, ground := Ground.chain }], guard := none }) rfl (fun K hK => ?_) AllReadyH.nil
          go_simp
          refine (Sl.implBytesToInts _ (appName [] lc) _ (H_v18.out) (pbyt_app lc pbyt_nil) (by have h1 := pname_len [] lc; have h2 := HLC.out; simp only [List.length_nil] at h1; omega)).mono ?_
          rintro e wn10 ⟨v19, rfl, ho, hb⟩
          obtain ⟨g_v19, n_v19, c_v19, rfl, ho⟩ := own_some ho (b2i_pos _)
          have O_v19 := Lib.hid (ho.holds)
          clear ho
          replace H_v7 := Lib.hid (H_v7.out.on hb)
          replace O_v8 := Lib.hid (O_v8.out.on hb)
          replace O_v13 := Lib.hid (O_v13.out.on hb)
          replace H_v18 := Lib.hid (H_v18.out.on hb)
          replace HF := Lib.hid (HF.out.on hb)
          replace BB := Lib.hid (BB.out.trans (hb.mono BB.out.size))
          clear hb
          (try go_wp2_with fail)
          clear hHeld
          refine hK.out _ _ ?_ (fun hHeld => ?_)
          · (try dsimp only); exact ⟨kc K0.out BB.out, kc K1.out BB.out, kc K2.out BB.out, kc K3.out BB.out, kc K4.out BB.out⟩
          clear hK K
          (try simp only [Act.put, List.setIfInBounds_toArray, List.set_cons_zero, List.set_cons_succ])
          refine wpAnyH_ready (rs := [22]) (by kernel_rfl) (by simp) ?_
          refine AllReadyH.cons (o := { dst := some 25, op := Op.buildSlice 102 4 #[(0, Operand.tmp 8), (1, Operand.tmp 13), (2, Operand.tmp 19), (3, Operand.tmp 24)], type := 102, pos := "l08_thing.go:28", after := #[{ on := 5, ground := Ground.data }, { on := 10, ground := Ground.data }, { on := 16, ground := Ground.data }, { on := 21, ground := Ground.data }], guard := none }) rfl (fun K hK => ?_) AllReadyH.nil
          go_simp
          have hb : Below wn10.heap.size wn10 (wn10.alloc (.cells #[.slice (some ⟨g_v8, 0, none⟩) n_v8 c_v8, .slice (some ⟨g_v13, 0, none⟩) n_v13 c_v13, .slice (some ⟨g_v19, 0, none⟩) n_v19 c_v19, .slice (some ⟨bf, 0, none⟩) 1 1] 47)) := (Below.refl _ _).alloc (Nat.le_refl _) _
          have HK4 := Lib.hid (Ret.Blk.new wn10 #[.slice (some ⟨g_v8, 0, none⟩) n_v8 c_v8, .slice (some ⟨g_v13, 0, none⟩) n_v13 c_v13, .slice (some ⟨g_v19, 0, none⟩) n_v19 c_v19, .slice (some ⟨bf, 0, none⟩) 1 1] 47)
          replace H_v7 := Lib.hid (H_v7.out.on hb)
          replace O_v8 := Lib.hid (O_v8.out.on hb)
          replace O_v13 := Lib.hid (O_v13.out.on hb)
          replace H_v18 := Lib.hid (H_v18.out.on hb)
          replace HF := Lib.hid (HF.out.on hb)
          replace O_v19 := Lib.hid (O_v19.out.on hb)
          replace BB := Lib.hid (BB.out.trans (hb.mono BB.out.size))
          clear hb
          generalize wn10.alloc (.cells #[.slice (some ⟨g_v8, 0, none⟩) n_v8 c_v8, .slice (some ⟨g_v13, 0, none⟩) n_v13 c_v13, .slice (some ⟨g_v19, 0, none⟩) n_v19 c_v19, .slice (some ⟨bf, 0, none⟩) 1 1] 47) = wn11 at *
          clear hHeld
          refine hK.out _ _ ?_ (fun hHeld => ?_)
          · (try dsimp only); exact ⟨kc K0.out BB.out, kc K1.out BB.out, kc K2.out BB.out, kc K3.out BB.out, kc K4.out BB.out⟩
          clear hK K
          (try simp only [Act.put, List.setIfInBounds_toArray, List.set_cons_zero, List.set_cons_succ])
          refine wpAnyH_ready (rs := [23]) (by kernel_rfl) (by simp) ?_
          refine AllReadyH.cons (o := { dst := some 26, op := Op.call { callee := Callee.value (Operand.func 91), args := #[Operand.tmp 25], argTypes := #[102] }, type := 47, pos := "l08_thing.go:28", after := #[{ on := 22, ground := Ground.data }, { on := 16, ground := Ground.chain }], guard := none }) rfl (fun K hK => ?_) AllReadyH.nil
          go_simp
          refine (concat4 HK4.out O_v8.out O_v13.out O_v19.out HF.out HLT.out).mono ?_
          rintro e wn12 ⟨v26, rfl, ho, hb⟩
          have O_v26 := Lib.hid (Sl.Own.mono ho BB.out.size); clear ho
          replace H_v7 := Lib.hid (H_v7.out.on hb)
          replace O_v8 := Lib.hid (O_v8.out.on hb)
          replace O_v13 := Lib.hid (O_v13.out.on hb)
          replace H_v18 := Lib.hid (H_v18.out.on hb)
          replace HF := Lib.hid (HF.out.on hb)
          replace O_v19 := Lib.hid (O_v19.out.on hb)
          replace BB := Lib.hid (BB.out.trans (hb.mono BB.out.size))
          clear hb
          (try go_wp2_with fail)
          clear hHeld
          refine hK.out _ _ ?_ (fun hHeld => ?_)
          · (try dsimp only); exact ⟨kc K0.out BB.out, kc K1.out BB.out, kc K2.out BB.out, kc K3.out BB.out, kc K4.out BB.out⟩
          clear hK K
          (try simp only [Act.put, List.setIfInBounds_toArray, List.set_cons_zero, List.set_cons_succ])
          refine wpAnyH_take (i := 24) (oi := { dst := some 2, op := Op.assign (Operand.tmp 26), type := 47, pos := "l08_thing.go:28", after := #[{ on := 23, ground := Ground.data }, { on := 23, ground := Ground.chain }, { on := 0, ground := Ground.phase }, { on := 1, ground := Ground.phase }, { on := 2, ground := Ground.phase }, { on := 3, ground := Ground.phase }, { on := 4, ground := Ground.phase }, { on := 5, ground := Ground.phase }, { on := 6, ground := Ground.phase }, { on := 7, ground := Ground.phase }, { on := 8, ground := Ground.phase }, { on := 9, ground := Ground.phase }, { on := 10, ground := Ground.phase }, { on := 11, ground := Ground.phase }, { on := 12, ground := Ground.phase }, { on := 13, ground := Ground.phase }, { on := 14, ground := Ground.phase }, { on := 15, ground := Ground.phase }, { on := 16, ground := Ground.phase }, { on := 17, ground := Ground.phase }, { on := 18, ground := Ground.phase }, { on := 19, ground := Ground.phase }, { on := 20, ground := Ground.phase }, { on := 21, ground := Ground.phase }, { on := 22, ground := Ground.phase }, { on := 23, ground := Ground.phase }], guard := none }) (v := ?_) rfl (by kernel_rfl) (by kernel_rfl) (by kernel_rfl) (fun _ _ _ h => h) (Or.inl ⟨by rfl, ?_⟩) (by assumption) ?_
          rotate_left
          · intro w' hSw; (try dsimp only at hSw); first | (go_simp; done) | (go_simp; with_reducible rfl)
          (try simp only [Act.put, List.setIfInBounds_toArray, List.set_cons_zero, List.set_cons_succ])
          refine wpAnyH_done (by kernel_rfl) ?_ _
          exact NoPanic.normal (HQ.out _ _ _ _ _ _ _ _ _ _ _ _ _ _ _ _ _ _ _ _ _ _ _ _ _ _ O_v26.out BB.out)
        refine AllReadyH.cons (o := { dst := some 24, op := Op.buildSlice 47 1 #[(0, Operand.tmp 23)], type := 47, pos := "l08_thing.go:28", after := #[{ on := 20, ground := Ground.data }], guard := none }) rfl (fun K hK => ?_) AllReadyH.nil
        go_simp
        have hb : Below wn3.heap.size wn3 (wn3.alloc (.cells #[.int .i64 f] 3)) := (Below.refl _ _).alloc (Nat.le_refl _) _
        obtain ⟨bf, hbf⟩ : ∃ b, b = wn3.heap.size := ⟨_, rfl⟩
        have HF := Lib.hid (hold_one wn3 f bf hbf)
        rw [← hbf]
        clear hbf
        replace H_v7 := Lib.hid (H_v7.out.on hb)
        replace O_v8 := Lib.hid (O_v8.out.on hb)
        replace O_v13 := Lib.hid (O_v13.out.on hb)
        replace BB := Lib.hid (BB.out.trans (hb.mono BB.out.size))
        clear hb
        generalize wn3.alloc (.cells #[.int .i64 f] 3) = wn13 at *
        clear hHeld
        refine hK.out _ _ ?_ (fun hHeld => ?_)
        · (try dsimp only); exact ⟨kc K0.out BB.out, kc K1.out BB.out, kc K2.out BB.out, kc K3.out BB.out, kc K4.out BB.out⟩
        clear hK K
        (try simp only [Act.put, List.setIfInBounds_toArray, List.set_cons_zero, List.set_cons_succ])
        refine wpAnyH_ready (rs := [15]) (by kernel_rfl) (by simp) ?_
        refine AllReadyH.cons (o := { dst := some 18, op := Op.call { callee := Callee.value (Operand.func 34), args := #[Operand.const (Value.slice none 0 0), Operand.tmp 17], argTypes := #[22, 26] }, type := 22, pos := "l08_thing.go:31", after := #[{ on := 14, ground := Ground.data }, { on := 10, ground := Ground.chain }], guard := none }) rfl (fun K hK => ?_) AllReadyH.nil
        go_simp
        refine (implAppendName (.slice none 0 0) _ [] lc _ (Sl.Holds.nil _ _) (H_c.out.on BB.out) (by simp) HLC.out).mono ?_
        rintro e wn14 ⟨v18, rfl, ho, hb⟩
        have H_v18 := Lib.hid ho.holds; clear ho
        replace H_v7 := Lib.hid (H_v7.out.on hb)
        replace O_v8 := Lib.hid (O_v8.out.on hb)
        replace O_v13 := Lib.hid (O_v13.out.on hb)
        replace HF := Lib.hid (HF.out.on hb)
        replace BB := Lib.hid (BB.out.trans (hb.mono BB.out.size))
        clear hb
        (try go_wp2_with fail)
        clear hHeld
        refine hK.out _ _ ?_ (fun hHeld => ?_)
        · (try dsimp only); exact ⟨kc K0.out BB.out, kc K1.out BB.out, kc K2.out BB.out, kc K3.out BB.out, kc K4.out BB.out⟩
        clear hK K
        (try simp only [Act.put, List.setIfInBounds_toArray, List.set_cons_zero, List.set_cons_succ])
        refine wpAnyH_ready (rs := [16]) (by kernel_rfl) (by simp) ?_
        refine AllReadyH.cons (o := { dst := some 19, op := Op.call { callee := Callee.value (Operand.func 92), args := #[Operand.tmp 18], argTypes := #[22] }, type := 47, pos := "l08_thing.go:31", after := #[{ on := 15, ground := Ground.data }, { on := 15, ground := Ground.chain }], guard := none }) rfl (fun K hK => ?_) AllReadyH.nil
        go_simp
        refine (Sl.implBytesToInts _ (appName [] lc) _ (H_v18.out) (pbyt_app lc pbyt_nil) (by have h1 := pname_len [] lc; have h2 := HLC.out; simp only [List.length_nil] at h1; omega)).mono ?_
        rintro e wn15 ⟨v19, rfl, ho, hb⟩
        obtain ⟨g_v19, n_v19, c_v19, rfl, ho⟩ := own_some ho (b2i_pos _)
        have O_v19 := Lib.hid (ho.holds)
        clear ho
        replace H_v7 := Lib.hid (H_v7.out.on hb)
        replace O_v8 := Lib.hid (O_v8.out.on hb)
        replace O_v13 := Lib.hid (O_v13.out.on hb)
        replace HF := Lib.hid (HF.out.on hb)
        replace H_v18 := Lib.hid (H_v18.out.on hb)
        replace BB := Lib.hid (BB.out.trans (hb.mono BB.out.size))
        clear hb
        (try go_wp2_with fail)
        clear hHeld
        refine hK.out _ _ ?_ (fun hHeld => ?_)
        · (try dsimp only); exact ⟨kc K0.out BB.out, kc K1.out BB.out, kc K2.out BB.out, kc K3.out BB.out, kc K4.out BB.out⟩
        clear hK K
        (try simp only [Act.put, List.setIfInBounds_toArray, List.set_cons_zero, List.set_cons_succ])
        refine wpAnyH_ready (rs := [22]) (by kernel_rfl) (by simp) ?_
        refine AllReadyH.cons (o := { dst := some 25, op := Op.buildSlice 102 4 #[(0, Operand.tmp 8), (1, Operand.tmp 13), (2, Operand.tmp 19), (3, Operand.tmp 24)], type := 102, pos := "l08_thing.go:28", after := #[{ on := 5, ground := Ground.data }, { on := 10, ground := Ground.data }, { on := 16, ground := Ground.data }, { on := 21, ground := Ground.data }], guard := none }) rfl (fun K hK => ?_) AllReadyH.nil
        go_simp
        have hb : Below wn15.heap.size wn15 (wn15.alloc (.cells #[.slice (some ⟨g_v8, 0, none⟩) n_v8 c_v8, .slice (some ⟨g_v13, 0, none⟩) n_v13 c_v13, .slice (some ⟨g_v19, 0, none⟩) n_v19 c_v19, .slice (some ⟨bf, 0, none⟩) 1 1] 47)) := (Below.refl _ _).alloc (Nat.le_refl _) _
        have HK4 := Lib.hid (Ret.Blk.new wn15 #[.slice (some ⟨g_v8, 0, none⟩) n_v8 c_v8, .slice (some ⟨g_v13, 0, none⟩) n_v13 c_v13, .slice (some ⟨g_v19, 0, none⟩) n_v19 c_v19, .slice (some ⟨bf, 0, none⟩) 1 1] 47)
        replace H_v7 := Lib.hid (H_v7.out.on hb)
        replace O_v8 := Lib.hid (O_v8.out.on hb)
        replace O_v13 := Lib.hid (O_v13.out.on hb)
        replace HF := Lib.hid (HF.out.on hb)
        replace H_v18 := Lib.hid (H_v18.out.on hb)
        replace O_v19 := Lib.hid (O_v19.out.on hb)
        replace BB := Lib.hid (BB.out.trans (hb.mono BB.out.size))
        clear hb
        generalize wn15.alloc (.cells #[.slice (some ⟨g_v8, 0, none⟩) n_v8 c_v8, .slice (some ⟨g_v13, 0, none⟩) n_v13 c_v13, .slice (some ⟨g_v19, 0, none⟩) n_v19 c_v19, .slice (some ⟨bf, 0, none⟩) 1 1] 47) = wn16 at *
        clear hHeld
        refine hK.out _ _ ?_ (fun hHeld => ?_)
        · (try dsimp only); exact ⟨kc K0.out BB.out, kc K1.out BB.out, kc K2.out BB.out, kc K3.out BB.out, kc K4.out BB.out⟩
        clear hK K
        (try simp only [Act.put, List.setIfInBounds_toArray, List.set_cons_zero, List.set_cons_succ])
        refine wpAnyH_ready (rs := [23]) (by kernel_rfl) (by simp) ?_
        refine AllReadyH.cons (o := { dst := some 26, op := Op.call { callee := Callee.value (Operand.func 91), args := #[Operand.tmp 25], argTypes := #[102] }, type := 47, pos := "l08_thing.go:28", after := #[{ on := 22, ground := Ground.data }, { on := 16, ground := Ground.chain }], guard := none }) rfl (fun K hK => ?_) AllReadyH.nil
        go_simp
        refine (concat4 HK4.out O_v8.out O_v13.out O_v19.out HF.out HLT.out).mono ?_
        rintro e wn17 ⟨v26, rfl, ho, hb⟩
        have O_v26 := Lib.hid (Sl.Own.mono ho BB.out.size); clear ho
        replace H_v7 := Lib.hid (H_v7.out.on hb)
        replace O_v8 := Lib.hid (O_v8.out.on hb)
        replace O_v13 := Lib.hid (O_v13.out.on hb)
        replace HF := Lib.hid (HF.out.on hb)
        replace H_v18 := Lib.hid (H_v18.out.on hb)
        replace O_v19 := Lib.hid (O_v19.out.on hb)
        replace BB := Lib.hid (BB.out.trans (hb.mono BB.out.size))
        clear hb
        (try go_wp2_with fail)
        clear hHeld
        refine hK.out _ _ ?_ (fun hHeld => ?_)
        · (try dsimp only); exact ⟨kc K0.out BB.out, kc K1.out BB.out, kc K2.out BB.out, kc K3.out BB.out, kc K4.out BB.out⟩
        clear hK K
        (try simp only [Act.put, List.setIfInBounds_toArray, List.set_cons_zero, List.set_cons_succ])
        refine wpAnyH_take (i := 24) (oi := { dst := some 2, op := Op.assign (Operand.tmp 26), type := 47, pos := "l08_thing.go:28", after := #[{ on := 23, ground := Ground.data }, { on := 23, ground := Ground.chain }, { on := 0, ground := Ground.phase }, { on := 1, ground := Ground.phase }, { on := 2, ground := Ground.phase }, { on := 3, ground := Ground.phase }, { on := 4, ground := Ground.phase }, { on := 5, ground := Ground.phase }, { on := 6, ground := Ground.phase }, { on := 7, ground := Ground.phase }, { on := 8, ground := Ground.phase }, { on := 9, ground := Ground.phase }, { on := 10, ground := Ground.phase }, { on := 11, ground := Ground.phase }, { on := 12, ground := Ground.phase }, { on := 13, ground := Ground.phase }, { on := 14, ground := Ground.phase }, { on := 15, ground := Ground.phase }, { on := 16, ground := Ground.phase }, { on := 17, ground := Ground.phase }, { on := 18, ground := Ground.phase }, { on := 19, ground := Ground.phase }, { on := 20, ground := Ground.phase }, { on := 21, ground := Ground.phase }, { on := 22, ground := Ground.phase }, { on := 23, ground := Ground.phase }], guard := none }) (v := ?_) rfl (by kernel_rfl) (by kernel_rfl) (by kernel_rfl) (fun _ _ _ h => h) (Or.inl ⟨by rfl, ?_⟩) (by assumption) ?_
        rotate_left
        · intro w' hSw; (try dsimp only at hSw); first | (go_simp; done) | (go_simp; with_reducible rfl)
        (try simp only [Act.put, List.setIfInBounds_toArray, List.set_cons_zero, List.set_cons_succ])
        refine wpAnyH_done (by kernel_rfl) ?_ _
        exact NoPanic.normal (HQ.out _ _ _ _ _ _ _ _ _ _ _ _ _ _ _ _ _ _ _ _ _ _ _ _ _ _ O_v26.out BB.out)
      refine AllReadyH.cons (o := { dst := some 24, op := Op.buildSlice 47 1 #[(0, Operand.tmp 23)], type := 47, pos := "l08_thing.go:28", after := #[{ on := 20, ground := Ground.data }], guard := none }) rfl (fun K hK => ?_) AllReadyH.nil
      go_simp
      have hb : Below wn2.heap.size wn2 (wn2.alloc (.cells #[.int .i64 f] 3)) := (Below.refl _ _).alloc (Nat.le_refl _) _
      obtain ⟨bf, hbf⟩ : ∃ b, b = wn2.heap.size := ⟨_, rfl⟩
      have HF := Lib.hid (hold_one wn2 f bf hbf)
      rw [← hbf]
      clear hbf
      replace H_v7 := Lib.hid (H_v7.out.on hb)
      replace O_v8 := Lib.hid (O_v8.out.on hb)
      replace BB := Lib.hid (BB.out.trans (hb.mono BB.out.size))
      clear hb
      generalize wn2.alloc (.cells #[.int .i64 f] 3) = wn18 at *
      clear hHeld
      refine hK.out _ _ ?_ (fun hHeld => ?_)
      · (try dsimp only); exact ⟨kc K0.out BB.out, kc K1.out BB.out, kc K2.out BB.out, kc K3.out BB.out, kc K4.out BB.out⟩
      clear hK K
      (try simp only [Act.put, List.setIfInBounds_toArray, List.set_cons_zero, List.set_cons_succ])
      refine wpAnyH_ready (rs := [10]) (by kernel_rfl) (by simp) ?_
      refine AllReadyH.cons (o := { dst := some 13, op := Op.call { callee := Callee.value (Operand.func 92), args := #[Operand.tmp 12], argTypes := #[22] }, type := 47, pos := "l08_thing.go:30", after := #[{ on := 9, ground := Ground.data }, { on := 5, ground := Ground.chain }], guard := none }) rfl (fun K hK => ?_) AllReadyH.nil
      go_simp
      refine (Sl.implBytesToInts _ (lb) _ (H_b.out.on BB.out) HBY.out (by have h2 := HLB.out; omega)).mono ?_
      rintro e wn19 ⟨v13, rfl, ho, hb⟩
      obtain ⟨g_v13, n_v13, c_v13, rfl, ho⟩ := own_some ho (b2i_pos _)
      have O_v13 := Lib.hid (ho.holds)
      clear ho
      replace H_v7 := Lib.hid (H_v7.out.on hb)
      replace O_v8 := Lib.hid (O_v8.out.on hb)
      replace HF := Lib.hid (HF.out.on hb)
      replace BB := Lib.hid (BB.out.trans (hb.mono BB.out.size))
      clear hb
      (try go_wp2_with fail)
      clear hHeld
      refine hK.out _ _ ?_ (fun hHeld => ?_)
      · (try dsimp only); exact ⟨kc K0.out BB.out, kc K1.out BB.out, kc K2.out BB.out, kc K3.out BB.out, kc K4.out BB.out⟩
      clear hK K
      (try simp only [Act.put, List.setIfInBounds_toArray, List.set_cons_zero, List.set_cons_succ])
      refine wpAnyH_ready (rs := [15]) (by kernel_rfl) (by simp) ?_
      refine AllReadyH.cons (o := { dst := some 18, op := Op.call { callee := Callee.value (Operand.func 34), args := #[Operand.const (Value.slice none 0 0), Operand.tmp 17], argTypes := #[22, 26] }, type := 22, pos := "l08_thing.go:31", after := #[{ on := 14, ground := Ground.data }, { on := 10, ground := Ground.chain }], guard := none }) rfl (fun K hK => ?_) AllReadyH.nil
      go_simp
      refine (implAppendName (.slice none 0 0) _ [] lc _ (Sl.Holds.nil _ _) (H_c.out.on BB.out) (by simp) HLC.out).mono ?_
      rintro e wn20 ⟨v18, rfl, ho, hb⟩
      have H_v18 := Lib.hid ho.holds; clear ho
      replace H_v7 := Lib.hid (H_v7.out.on hb)
      replace O_v8 := Lib.hid (O_v8.out.on hb)
      replace HF := Lib.hid (HF.out.on hb)
      replace O_v13 := Lib.hid (O_v13.out.on hb)
      replace BB := Lib.hid (BB.out.trans (hb.mono BB.out.size))
      clear hb
      (try go_wp2_with fail)
      clear hHeld
      refine hK.out _ _ ?_ (fun hHeld => ?_)
      · (try dsimp only); exact ⟨kc K0.out BB.out, kc K1.out BB.out, kc K2.out BB.out, kc K3.out BB.out, kc K4.out BB.out⟩
      clear hK K
      (try simp only [Act.put, List.setIfInBounds_toArray, List.set_cons_zero, List.set_cons_succ])
      refine wpAnyH_ready (rs := [16]) (by kernel_rfl) (by simp) ?_
      refine AllReadyH.cons (o := { dst := some 19, op := Op.call { callee := Callee.value (Operand.func 92), args := #[Operand.tmp 18], argTypes := #[22] }, type := 47, pos := "l08_thing.go:31", after := #[{ on := 15, ground := Ground.data }, { on := 15, ground := Ground.chain }], guard := none }) rfl (fun K hK => ?_) AllReadyH.nil
      go_simp
      refine (Sl.implBytesToInts _ (appName [] lc) _ (H_v18.out) (pbyt_app lc pbyt_nil) (by have h1 := pname_len [] lc; have h2 := HLC.out; simp only [List.length_nil] at h1; omega)).mono ?_
      rintro e wn21 ⟨v19, rfl, ho, hb⟩
      obtain ⟨g_v19, n_v19, c_v19, rfl, ho⟩ := own_some ho (b2i_pos _)
      have O_v19 := Lib.hid (ho.holds)
      clear ho
      replace H_v7 := Lib.hid (H_v7.out.on hb)
      replace O_v8 := Lib.hid (O_v8.out.on hb)
      replace HF := Lib.hid (HF.out.on hb)
      replace O_v13 := Lib.hid (O_v13.out.on hb)
      replace H_v18 := Lib.hid (H_v18.out.on hb)
      replace BB := Lib.hid (BB.out.trans (hb.mono BB.out.size))
      clear hb
      (try go_wp2_with fail)
      clear hHeld
      refine hK.out _ _ ?_ (fun hHeld => ?_)
      · (try dsimp only); exact ⟨kc K0.out BB.out, kc K1.out BB.out, kc K2.out BB.out, kc K3.out BB.out, kc K4.out BB.out⟩
      clear hK K
      (try simp only [Act.put, List.setIfInBounds_toArray, List.set_cons_zero, List.set_cons_succ])
      refine wpAnyH_ready (rs := [22]) (by kernel_rfl) (by simp) ?_
      refine AllReadyH.cons (o := { dst := some 25, op := Op.buildSlice 102 4 #[(0, Operand.tmp 8), (1, Operand.tmp 13), (2, Operand.tmp 19), (3, Operand.tmp 24)], type := 102, pos := "l08_thing.go:28", after := #[{ on := 5, ground := Ground.data }, { on := 10, ground := Ground.data }, { on := 16, ground := Ground.data }, { on := 21, ground := Ground.data }], guard := none }) rfl (fun K hK => ?_) AllReadyH.nil
      go_simp
      have hb : Below wn21.heap.size wn21 (wn21.alloc (.cells #[.slice (some ⟨g_v8, 0, none⟩) n_v8 c_v8, .slice (some ⟨g_v13, 0, none⟩) n_v13 c_v13, .slice (some ⟨g_v19, 0, none⟩) n_v19 c_v19, .slice (some ⟨bf, 0, none⟩) 1 1] 47)) := (Below.refl _ _).alloc (Nat.le_refl _) _
      have HK4 := Lib.hid (Ret.Blk.new wn21 #[.slice (some ⟨g_v8, 0, none⟩) n_v8 c_v8, .slice (some ⟨g_v13, 0, none⟩) n_v13 c_v13, .slice (some ⟨g_v19, 0, none⟩) n_v19 c_v19, .slice (some ⟨bf, 0, none⟩) 1 1] 47)
      replace H_v7 := Lib.hid (H_v7.out.on hb)
      replace O_v8 := Lib.hid (O_v8.out.on hb)
      replace HF := Lib.hid (HF.out.on hb)
      replace O_v13 := Lib.hid (O_v13.out.on hb)
      replace H_v18 := Lib.hid (H_v18.out.on hb)
      replace O_v19 := Lib.hid (O_v19.out.on hb)
      replace BB := Lib.hid (BB.out.trans (hb.mono BB.out.size))
      clear hb
      generalize wn21.alloc (.cells #[.slice (some ⟨g_v8, 0, none⟩) n_v8 c_v8, .slice (some ⟨g_v13, 0, none⟩) n_v13 c_v13, .slice (some ⟨g_v19, 0, none⟩) n_v19 c_v19, .slice (some ⟨bf, 0, none⟩) 1 1] 47) = wn22 at *
      clear hHeld
      refine hK.out _ _ ?_ (fun hHeld => ?_)
      · (try dsimp only); exact ⟨kc K0.out BB.out, kc K1.out BB.out, kc K2.out BB.out, kc K3.out BB.out, kc K4.out BB.out⟩
      clear hK K
      (try simp only [Act.put, List.setIfInBounds_toArray, List.set_cons_zero, List.set_cons_succ])
      refine wpAnyH_ready (rs := [23]) (by kernel_rfl) (by simp) ?_
      refine AllReadyH.cons (o := { dst := some 26, op := Op.call { callee := Callee.value (Operand.func 91), args := #[Operand.tmp 25], argTypes := #[102] }, type := 47, pos := "l08_thing.go:28", after := #[{ on := 22, ground := Ground.data }, { on := 16, ground := Ground.chain }], guard := none }) rfl (fun K hK => ?_) AllReadyH.nil
      go_simp
      refine (concat4 HK4.out O_v8.out O_v13.out O_v19.out HF.out HLT.out).mono ?_
      rintro e wn23 ⟨v26, rfl, ho, hb⟩
      have O_v26 := Lib.hid (Sl.Own.mono ho BB.out.size); clear ho
      replace H_v7 := Lib.hid (H_v7.out.on hb)
      replace O_v8 := Lib.hid (O_v8.out.on hb)
      replace HF := Lib.hid (HF.out.on hb)
      replace O_v13 := Lib.hid (O_v13.out.on hb)
      replace H_v18 := Lib.hid (H_v18.out.on hb)
      replace O_v19 := Lib.hid (O_v19.out.on hb)
      replace BB := Lib.hid (BB.out.trans (hb.mono BB.out.size))
      clear hb
      (try go_wp2_with fail)
      clear hHeld
      refine hK.out _ _ ?_ (fun hHeld => ?_)
      · (try dsimp only); exact ⟨kc K0.out BB.out, kc K1.out BB.out, kc K2.out BB.out, kc K3.out BB.out, kc K4.out BB.out⟩
      clear hK K
      (try simp only [Act.put, List.setIfInBounds_toArray, List.set_cons_zero, List.set_cons_succ])
      refine wpAnyH_take (i := 24) (oi := { dst := some 2, op := Op.assign (Operand.tmp 26), type := 47, pos := "l08_thing.go:28", after := #[{ on := 23, ground := Ground.data }, { on := 23, ground := Ground.chain }, { on := 0, ground := Ground.phase }, { on := 1, ground := Ground.phase }, { on := 2, ground := Ground.phase }, { on := 3, ground := Ground.phase }, { on := 4, ground := Ground.phase }, { on := 5, ground := Ground.phase }, { on := 6, ground := Ground.phase }, { on := 7, ground := Ground.phase }, { on := 8, ground := Ground.phase }, { on := 9, ground := Ground.phase }, { on := 10, ground := Ground.phase }, { on := 11, ground := Ground.phase }, { on := 12, ground := Ground.phase }, { on := 13, ground := Ground.phase }, { on := 14, ground := Ground.phase }, { on := 15, ground := Ground.phase }, { on := 16, ground := Ground.phase }, { on := 17, ground := Ground.phase }, { on := 18, ground := Ground.phase }, { on := 19, ground := Ground.phase }, { on := 20, ground := Ground.phase }, { on := 21, ground := Ground.phase }, { on := 22, ground := Ground.phase }, { on := 23, ground := Ground.phase }], guard := none }) (v := ?_) rfl (by kernel_rfl) (by kernel_rfl) (by kernel_rfl) (fun _ _ _ h => h) (Or.inl ⟨by rfl, ?_⟩) (by assumption) ?_
      rotate_left
      · intro w' hSw; (try dsimp only at hSw); first | (go_simp; done) | (go_simp; with_reducible rfl)
      (try simp only [Act.put, List.setIfInBounds_toArray, List.set_cons_zero, List.set_cons_succ])
      refine wpAnyH_done (by kernel_rfl) ?_ _
      exact NoPanic.normal (HQ.out _ _ _ _ _ _ _ _ _ _ _ _ _ _ _ _ _ _ _ _ _ _ _ _ _ _ O_v26.out BB.out)
    refine AllReadyH.cons (o := { dst := some 24, op := Op.buildSlice 47 1 #[(0, Operand.tmp 23)], type := 47, pos := "l08_thing.go:28", after := #[{ on := 20, ground := Ground.data }], guard := none }) rfl (fun K hK => ?_) AllReadyH.nil
    go_simp
    have hb : Below wn1.heap.size wn1 (wn1.alloc (.cells #[.int .i64 f] 3)) := (Below.refl _ _).alloc (Nat.le_refl _) _
    obtain ⟨bf, hbf⟩ : ∃ b, b = wn1.heap.size := ⟨_, rfl⟩
    have HF := Lib.hid (hold_one wn1 f bf hbf)
    rw [← hbf]
    clear hbf
    replace H_v7 := Lib.hid (H_v7.out.on hb)
    replace BB := Lib.hid (BB.out.trans (hb.mono BB.out.size))
    clear hb
    generalize wn1.alloc (.cells #[.int .i64 f] 3) = wn24 at *
    clear hHeld
    refine hK.out _ _ ?_ (fun hHeld => ?_)
    · (try dsimp only); exact ⟨kc K0.out BB.out, kc K1.out BB.out, kc K2.out BB.out, kc K3.out BB.out, kc K4.out BB.out⟩
    clear hK K
    (try simp only [Act.put, List.setIfInBounds_toArray, List.set_cons_zero, List.set_cons_succ])
    refine wpAnyH_ready (rs := [5]) (by kernel_rfl) (by simp) ?_
    refine AllReadyH.cons (o := { dst := some 8, op := Op.call { callee := Callee.value (Operand.func 92), args := #[Operand.tmp 7], argTypes := #[22] }, type := 47, pos := "l08_thing.go:29", after := #[{ on := 4, ground := Ground.data }, { on := 4, ground := Ground.chain }], guard := none }) rfl (fun K hK => ?_) AllReadyH.nil
    go_simp
    refine (Sl.implBytesToInts _ (appName [] la) _ (H_v7.out) (pbyt_app la pbyt_nil) (by have h1 := pname_len [] la; have h2 := HLA.out; simp only [List.length_nil] at h1; omega)).mono ?_
    rintro e wn25 ⟨v8, rfl, ho, hb⟩
    obtain ⟨g_v8, n_v8, c_v8, rfl, ho⟩ := own_some ho (b2i_pos _)
    have O_v8 := Lib.hid (ho.holds)
    clear ho
    replace H_v7 := Lib.hid (H_v7.out.on hb)
    replace HF := Lib.hid (HF.out.on hb)
    replace BB := Lib.hid (BB.out.trans (hb.mono BB.out.size))
    clear hb
    (try go_wp2_with fail)
    clear hHeld
    refine hK.out _ _ ?_ (fun hHeld => ?_)
    · (try dsimp only); exact ⟨kc K0.out BB.out, kc K1.out BB.out, kc K2.out BB.out, kc K3.out BB.out, kc K4.out BB.out⟩
    clear hK K
    (try simp only [Act.put, List.setIfInBounds_toArray, List.set_cons_zero, List.set_cons_succ])
    refine wpAnyH_ready (rs := [10]) (by kernel_rfl) (by simp) ?_
    refine AllReadyH.cons (o := { dst := some 13, op := Op.call { callee := Callee.value (Operand.func 92), args := #[Operand.tmp 12], argTypes := #[22] }, type := 47, pos := "l08_thing.go:30", after := #[{ on := 9, ground := Ground.data }, { on := 5, ground := Ground.chain }], guard := none }) rfl (fun K hK => ?_) AllReadyH.nil
    go_simp
    refine (Sl.implBytesToInts _ (lb) _ (H_b.out.on BB.out) HBY.out (by have h2 := HLB.out; omega)).mono ?_
    rintro e wn26 ⟨v13, rfl, ho, hb⟩
    obtain ⟨g_v13, n_v13, c_v13, rfl, ho⟩ := own_some ho (b2i_pos _)
    have O_v13 := Lib.hid (ho.holds)
    clear ho
    replace H_v7 := Lib.hid (H_v7.out.on hb)
    replace HF := Lib.hid (HF.out.on hb)
    replace O_v8 := Lib.hid (O_v8.out.on hb)
    replace BB := Lib.hid (BB.out.trans (hb.mono BB.out.size))
    clear hb
    (try go_wp2_with fail)
    clear hHeld
    refine hK.out _ _ ?_ (fun hHeld => ?_)
    · (try dsimp only); exact ⟨kc K0.out BB.out, kc K1.out BB.out, kc K2.out BB.out, kc K3.out BB.out, kc K4.out BB.out⟩
    clear hK K
    (try simp only [Act.put, List.setIfInBounds_toArray, List.set_cons_zero, List.set_cons_succ])
    refine wpAnyH_ready (rs := [15]) (by kernel_rfl) (by simp) ?_
    refine AllReadyH.cons (o := { dst := some 18, op := Op.call { callee := Callee.value (Operand.func 34), args := #[Operand.const (Value.slice none 0 0), Operand.tmp 17], argTypes := #[22, 26] }, type := 22, pos := "l08_thing.go:31", after := #[{ on := 14, ground := Ground.data }, { on := 10, ground := Ground.chain }], guard := none }) rfl (fun K hK => ?_) AllReadyH.nil
    go_simp
    refine (implAppendName (.slice none 0 0) _ [] lc _ (Sl.Holds.nil _ _) (H_c.out.on BB.out) (by simp) HLC.out).mono ?_
    rintro e wn27 ⟨v18, rfl, ho, hb⟩
    have H_v18 := Lib.hid ho.holds; clear ho
    replace H_v7 := Lib.hid (H_v7.out.on hb)
    replace HF := Lib.hid (HF.out.on hb)
    replace O_v8 := Lib.hid (O_v8.out.on hb)
    replace O_v13 := Lib.hid (O_v13.out.on hb)
    replace BB := Lib.hid (BB.out.trans (hb.mono BB.out.size))
    clear hb
    (try go_wp2_with fail)
    clear hHeld
    refine hK.out _ _ ?_ (fun hHeld => ?_)
    · (try dsimp only); exact ⟨kc K0.out BB.out, kc K1.out BB.out, kc K2.out BB.out, kc K3.out BB.out, kc K4.out BB.out⟩
    clear hK K
    (try simp only [Act.put, List.setIfInBounds_toArray, List.set_cons_zero, List.set_cons_succ])
    refine wpAnyH_ready (rs := [16]) (by kernel_rfl) (by simp) ?_
    refine AllReadyH.cons (o := { dst := some 19, op := Op.call { callee := Callee.value (Operand.func 92), args := #[Operand.tmp 18], argTypes := #[22] }, type := 47, pos := "l08_thing.go:31", after := #[{ on := 15, ground := Ground.data }, { on := 15, ground := Ground.chain }], guard := none }) rfl (fun K hK => ?_) AllReadyH.nil
    go_simp
    refine (Sl.implBytesToInts _ (appName [] lc) _ (H_v18.out) (pbyt_app lc pbyt_nil) (by have h1 := pname_len [] lc; have h2 := HLC.out; simp only [List.length_nil] at h1; omega)).mono ?_
    rintro e wn28 ⟨v19, rfl, ho, hb⟩
    obtain ⟨g_v19, n_v19, c_v19, rfl, ho⟩ := own_some ho (b2i_pos _)
    have O_v19 := Lib.hid (ho.holds)
    clear ho
    replace H_v7 := Lib.hid (H_v7.out.on hb)
    replace HF := Lib.hid (HF.out.on hb)
    replace O_v8 := Lib.hid (O_v8.out.on hb)
    replace O_v13 := Lib.hid (O_v13.out.on hb)
    replace H_v18 := Lib.hid (H_v18.out.on hb)
    replace BB := Lib.hid (BB.out.trans (hb.mono BB.out.size))
    clear hb
    (try go_wp2_with fail)
    clear hHeld
    refine hK.out _ _ ?_ (fun hHeld => ?_)
    · (try dsimp only); exact ⟨kc K0.out BB.out, kc K1.out BB.out, kc K2.out BB.out, kc K3.out BB.out, kc K4.out BB.out⟩
    clear hK K
    (try simp only [Act.put, List.setIfInBounds_toArray, List.set_cons_zero, List.set_cons_succ])
    refine wpAnyH_ready (rs := [22]) (by kernel_rfl) (by simp) ?_
    refine AllReadyH.cons (o := { dst := some 25, op := Op.buildSlice 102 4 #[(0, Operand.tmp 8), (1, Operand.tmp 13), (2, Operand.tmp 19), (3, Operand.tmp 24)], type := 102, pos := "l08_thing.go:28", after := #[{ on := 5, ground := Ground.data }, { on := 10, ground := Ground.data }, { on := 16, ground := Ground.data }, { on := 21, ground := Ground.data }], guard := none }) rfl (fun K hK => ?_) AllReadyH.nil
    go_simp
    have hb : Below wn28.heap.size wn28 (wn28.alloc (.cells #[.slice (some ⟨g_v8, 0, none⟩) n_v8 c_v8, .slice (some ⟨g_v13, 0, none⟩) n_v13 c_v13, .slice (some ⟨g_v19, 0, none⟩) n_v19 c_v19, .slice (some ⟨bf, 0, none⟩) 1 1] 47)) := (Below.refl _ _).alloc (Nat.le_refl _) _
    have HK4 := Lib.hid (Ret.Blk.new wn28 #[.slice (some ⟨g_v8, 0, none⟩) n_v8 c_v8, .slice (some ⟨g_v13, 0, none⟩) n_v13 c_v13, .slice (some ⟨g_v19, 0, none⟩) n_v19 c_v19, .slice (some ⟨bf, 0, none⟩) 1 1] 47)
    replace H_v7 := Lib.hid (H_v7.out.on hb)
    replace HF := Lib.hid (HF.out.on hb)
    replace O_v8 := Lib.hid (O_v8.out.on hb)
    replace O_v13 := Lib.hid (O_v13.out.on hb)
    replace H_v18 := Lib.hid (H_v18.out.on hb)
    replace O_v19 := Lib.hid (O_v19.out.on hb)
    replace BB := Lib.hid (BB.out.trans (hb.mono BB.out.size))
    clear hb
    generalize wn28.alloc (.cells #[.slice (some ⟨g_v8, 0, none⟩) n_v8 c_v8, .slice (some ⟨g_v13, 0, none⟩) n_v13 c_v13, .slice (some ⟨g_v19, 0, none⟩) n_v19 c_v19, .slice (some ⟨bf, 0, none⟩) 1 1] 47) = wn29 at *
    clear hHeld
    refine hK.out _ _ ?_ (fun hHeld => ?_)
    · (try dsimp only); exact ⟨kc K0.out BB.out, kc K1.out BB.out, kc K2.out BB.out, kc K3.out BB.out, kc K4.out BB.out⟩
    clear hK K
    (try simp only [Act.put, List.setIfInBounds_toArray, List.set_cons_zero, List.set_cons_succ])
    refine wpAnyH_ready (rs := [23]) (by kernel_rfl) (by simp) ?_
    refine AllReadyH.cons (o := { dst := some 26, op := Op.call { callee := Callee.value (Operand.func 91), args := #[Operand.tmp 25], argTypes := #[102] }, type := 47, pos := "l08_thing.go:28", after := #[{ on := 22, ground := Ground.data }, { on := 16, ground := Ground.chain }], guard := none }) rfl (fun K hK => ?_) AllReadyH.nil
    go_simp
    refine (concat4 HK4.out O_v8.out O_v13.out O_v19.out HF.out HLT.out).mono ?_
    rintro e wn30 ⟨v26, rfl, ho, hb⟩
    have O_v26 := Lib.hid (Sl.Own.mono ho BB.out.size); clear ho
    replace H_v7 := Lib.hid (H_v7.out.on hb)
    replace HF := Lib.hid (HF.out.on hb)
    replace O_v8 := Lib.hid (O_v8.out.on hb)
    replace O_v13 := Lib.hid (O_v13.out.on hb)
    replace H_v18 := Lib.hid (H_v18.out.on hb)
    replace O_v19 := Lib.hid (O_v19.out.on hb)
    replace BB := Lib.hid (BB.out.trans (hb.mono BB.out.size))
    clear hb
    (try go_wp2_with fail)
    clear hHeld
    refine hK.out _ _ ?_ (fun hHeld => ?_)
    · (try dsimp only); exact ⟨kc K0.out BB.out, kc K1.out BB.out, kc K2.out BB.out, kc K3.out BB.out, kc K4.out BB.out⟩
    clear hK K
    (try simp only [Act.put, List.setIfInBounds_toArray, List.set_cons_zero, List.set_cons_succ])
    refine wpAnyH_take (i := 24) (oi := { dst := some 2, op := Op.assign (Operand.tmp 26), type := 47, pos := "l08_thing.go:28", after := #[{ on := 23, ground := Ground.data }, { on := 23, ground := Ground.chain }, { on := 0, ground := Ground.phase }, { on := 1, ground := Ground.phase }, { on := 2, ground := Ground.phase }, { on := 3, ground := Ground.phase }, { on := 4, ground := Ground.phase }, { on := 5, ground := Ground.phase }, { on := 6, ground := Ground.phase }, { on := 7, ground := Ground.phase }, { on := 8, ground := Ground.phase }, { on := 9, ground := Ground.phase }, { on := 10, ground := Ground.phase }, { on := 11, ground := Ground.phase }, { on := 12, ground := Ground.phase }, { on := 13, ground := Ground.phase }, { on := 14, ground := Ground.phase }, { on := 15, ground := Ground.phase }, { on := 16, ground := Ground.phase }, { on := 17, ground := Ground.phase }, { on := 18, ground := Ground.phase }, { on := 19, ground := Ground.phase }, { on := 20, ground := Ground.phase }, { on := 21, ground := Ground.phase }, { on := 22, ground := Ground.phase }, { on := 23, ground := Ground.phase }], guard := none }) (v := ?_) rfl (by kernel_rfl) (by kernel_rfl) (by kernel_rfl) (fun _ _ _ h => h) (Or.inl ⟨by rfl, ?_⟩) (by assumption) ?_
    rotate_left
    · intro w' hSw; (try dsimp only at hSw); first | (go_simp; done) | (go_simp; with_reducible rfl)
    (try simp only [Act.put, List.setIfInBounds_toArray, List.set_cons_zero, List.set_cons_succ])
    refine wpAnyH_done (by kernel_rfl) ?_ _
    exact NoPanic.normal (HQ.out _ _ _ _ _ _ _ _ _ _ _ _ _ _ _ _ _ _ _ _ _ _ _ _ _ _ O_v26.out BB.out)
  refine AllReadyH.cons (o := { dst := some 24, op := Op.buildSlice 47 1 #[(0, Operand.tmp 23)], type := 47, pos := "l08_thing.go:28", after := #[{ on := 20, ground := Ground.data }], guard := none }) rfl (fun K hK => ?_) AllReadyH.nil
  go_simp
  have hb : Below wd.heap.size wd (wd.alloc (.cells #[.int .i64 f] 3)) := (Below.refl _ _).alloc (Nat.le_refl _) _
  obtain ⟨bf, hbf⟩ : ∃ b, b = wd.heap.size := ⟨_, rfl⟩
  have HF := Lib.hid (hold_one wd f bf hbf)
  rw [← hbf]
  clear hbf
  replace BB := Lib.hid (BB.out.trans (hb.mono BB.out.size))
  clear hb
  generalize wd.alloc (.cells #[.int .i64 f] 3) = wn31 at *
  clear hHeld
  refine hK.out _ _ ?_ (fun hHeld => ?_)
  · (try dsimp only); exact ⟨kc K0.out BB.out, kc K1.out BB.out, kc K2.out BB.out, kc K3.out BB.out, kc K4.out BB.out⟩
  clear hK K
  (try simp only [Act.put, List.setIfInBounds_toArray, List.set_cons_zero, List.set_cons_succ])
  refine wpAnyH_ready (rs := [4]) (by kernel_rfl) (by simp) ?_
  refine AllReadyH.cons (o := { dst := some 7, op := Op.call { callee := Callee.value (Operand.func 34), args := #[Operand.const (Value.slice none 0 0), Operand.tmp 6], argTypes := #[22, 26] }, type := 22, pos := "l08_thing.go:29", after := #[{ on := 3, ground := Ground.data }], guard := none }) rfl (fun K hK => ?_) AllReadyH.nil
  go_simp
  refine (implAppendName (.slice none 0 0) _ [] la _ (Sl.Holds.nil _ _) (H_a.out.on BB.out) (by simp) HLA.out).mono ?_
  rintro e wn32 ⟨v7, rfl, ho, hb⟩
  have H_v7 := Lib.hid ho.holds; clear ho
  replace HF := Lib.hid (HF.out.on hb)
  replace BB := Lib.hid (BB.out.trans (hb.mono BB.out.size))
  clear hb
  (try go_wp2_with fail)
  clear hHeld
  refine hK.out _ _ ?_ (fun hHeld => ?_)
  · (try dsimp only); exact ⟨kc K0.out BB.out, kc K1.out BB.out, kc K2.out BB.out, kc K3.out BB.out, kc K4.out BB.out⟩
  clear hK K
  (try simp only [Act.put, List.setIfInBounds_toArray, List.set_cons_zero, List.set_cons_succ])
  refine wpAnyH_ready (rs := [5]) (by kernel_rfl) (by simp) ?_
  refine AllReadyH.cons (o := { dst := some 8, op := Op.call { callee := Callee.value (Operand.func 92), args := #[Operand.tmp 7], argTypes := #[22] }, type := 47, pos := "l08_thing.go:29", after := #[{ on := 4, ground := Ground.data }, { on := 4, ground := Ground.chain }], guard := none }) rfl (fun K hK => ?_) AllReadyH.nil
  go_simp
  refine (Sl.implBytesToInts _ (appName [] la) _ (H_v7.out) (pbyt_app la pbyt_nil) (by have h1 := pname_len [] la; have h2 := HLA.out; simp only [List.length_nil] at h1; omega)).mono ?_
  rintro e wn33 ⟨v8, rfl, ho, hb⟩
  obtain ⟨g_v8, n_v8, c_v8, rfl, ho⟩ := own_some ho (b2i_pos _)
  have O_v8 := Lib.hid (ho.holds)
  clear ho
  replace HF := Lib.hid (HF.out.on hb)
  replace H_v7 := Lib.hid (H_v7.out.on hb)
  replace BB := Lib.hid (BB.out.trans (hb.mono BB.out.size))
  clear hb
  (try go_wp2_with fail)
  clear hHeld
  refine hK.out _ _ ?_ (fun hHeld => ?_)
  · (try dsimp only); exact ⟨kc K0.out BB.out, kc K1.out BB.out, kc K2.out BB.out, kc K3.out BB.out, kc K4.out BB.out⟩
  clear hK K
  (try simp only [Act.put, List.setIfInBounds_toArray, List.set_cons_zero, List.set_cons_succ])
  refine wpAnyH_ready (rs := [10]) (by kernel_rfl) (by simp) ?_
  refine AllReadyH.cons (o := { dst := some 13, op := Op.call { callee := Callee.value (Operand.func 92), args := #[Operand.tmp 12], argTypes := #[22] }, type := 47, pos := "l08_thing.go:30", after := #[{ on := 9, ground := Ground.data }, { on := 5, ground := Ground.chain }], guard := none }) rfl (fun K hK => ?_) AllReadyH.nil
  go_simp
  refine (Sl.implBytesToInts _ (lb) _ (H_b.out.on BB.out) HBY.out (by have h2 := HLB.out; omega)).mono ?_
  rintro e wn34 ⟨v13, rfl, ho, hb⟩
  obtain ⟨g_v13, n_v13, c_v13, rfl, ho⟩ := own_some ho (b2i_pos _)
  have O_v13 := Lib.hid (ho.holds)
  clear ho
  replace HF := Lib.hid (HF.out.on hb)
  replace H_v7 := Lib.hid (H_v7.out.on hb)
  replace O_v8 := Lib.hid (O_v8.out.on hb)
  replace BB := Lib.hid (BB.out.trans (hb.mono BB.out.size))
  clear hb
  (try go_wp2_with fail)
  clear hHeld
  refine hK.out _ _ ?_ (fun hHeld => ?_)
  · (try dsimp only); exact ⟨kc K0.out BB.out, kc K1.out BB.out, kc K2.out BB.out, kc K3.out BB.out, kc K4.out BB.out⟩
  clear hK K
  (try simp only [Act.put, List.setIfInBounds_toArray, List.set_cons_zero, List.set_cons_succ])
  refine wpAnyH_ready (rs := [15]) (by kernel_rfl) (by simp) ?_
  refine AllReadyH.cons (o := { dst := some 18, op := Op.call { callee := Callee.value (Operand.func 34), args := #[Operand.const (Value.slice none 0 0), Operand.tmp 17], argTypes := #[22, 26] }, type := 22, pos := "l08_thing.go:31", after := #[{ on := 14, ground := Ground.data }, { on := 10, ground := Ground.chain }], guard := none }) rfl (fun K hK => ?_) AllReadyH.nil
  go_simp
  refine (implAppendName (.slice none 0 0) _ [] lc _ (Sl.Holds.nil _ _) (H_c.out.on BB.out) (by simp) HLC.out).mono ?_
  rintro e wn35 ⟨v18, rfl, ho, hb⟩
  have H_v18 := Lib.hid ho.holds; clear ho
  replace HF := Lib.hid (HF.out.on hb)
  replace H_v7 := Lib.hid (H_v7.out.on hb)
  replace O_v8 := Lib.hid (O_v8.out.on hb)
  replace O_v13 := Lib.hid (O_v13.out.on hb)
  replace BB := Lib.hid (BB.out.trans (hb.mono BB.out.size))
  clear hb
  (try go_wp2_with fail)
  clear hHeld
  refine hK.out _ _ ?_ (fun hHeld => ?_)
  · (try dsimp only); exact ⟨kc K0.out BB.out, kc K1.out BB.out, kc K2.out BB.out, kc K3.out BB.out, kc K4.out BB.out⟩
  clear hK K
  (try simp only [Act.put, List.setIfInBounds_toArray, List.set_cons_zero, List.set_cons_succ])
  refine wpAnyH_ready (rs := [16]) (by kernel_rfl) (by simp) ?_
  refine AllReadyH.cons (o := { dst := some 19, op := Op.call { callee := Callee.value (Operand.func 92), args := #[Operand.tmp 18], argTypes := #[22] }, type := 47, pos := "l08_thing.go:31", after := #[{ on := 15, ground := Ground.data }, { on := 15, ground := Ground.chain }], guard := none }) rfl (fun K hK => ?_) AllReadyH.nil
  go_simp
  refine (Sl.implBytesToInts _ (appName [] lc) _ (H_v18.out) (pbyt_app lc pbyt_nil) (by have h1 := pname_len [] lc; have h2 := HLC.out; simp only [List.length_nil] at h1; omega)).mono ?_
  rintro e wn36 ⟨v19, rfl, ho, hb⟩
  obtain ⟨g_v19, n_v19, c_v19, rfl, ho⟩ := own_some ho (b2i_pos _)
  have O_v19 := Lib.hid (ho.holds)
  clear ho
  replace HF := Lib.hid (HF.out.on hb)
  replace H_v7 := Lib.hid (H_v7.out.on hb)
  replace O_v8 := Lib.hid (O_v8.out.on hb)
  replace O_v13 := Lib.hid (O_v13.out.on hb)
  replace H_v18 := Lib.hid (H_v18.out.on hb)
  replace BB := Lib.hid (BB.out.trans (hb.mono BB.out.size))
  clear hb
  (try go_wp2_with fail)
  clear hHeld
  refine hK.out _ _ ?_ (fun hHeld => ?_)
  · (try dsimp only); exact ⟨kc K0.out BB.out, kc K1.out BB.out, kc K2.out BB.out, kc K3.out BB.out, kc K4.out BB.out⟩
  clear hK K
  (try simp only [Act.put, List.setIfInBounds_toArray, List.set_cons_zero, List.set_cons_succ])
  refine wpAnyH_ready (rs := [22]) (by kernel_rfl) (by simp) ?_
  refine AllReadyH.cons (o := { dst := some 25, op := Op.buildSlice 102 4 #[(0, Operand.tmp 8), (1, Operand.tmp 13), (2, Operand.tmp 19), (3, Operand.tmp 24)], type := 102, pos := "l08_thing.go:28", after := #[{ on := 5, ground := Ground.data }, { on := 10, ground := Ground.data }, { on := 16, ground := Ground.data }, { on := 21, ground := Ground.data }], guard := none }) rfl (fun K hK => ?_) AllReadyH.nil
  go_simp
  have hb : Below wn36.heap.size wn36 (wn36.alloc (.cells #[.slice (some ⟨g_v8, 0, none⟩) n_v8 c_v8, .slice (some ⟨g_v13, 0, none⟩) n_v13 c_v13, .slice (some ⟨g_v19, 0, none⟩) n_v19 c_v19, .slice (some ⟨bf, 0, none⟩) 1 1] 47)) := (Below.refl _ _).alloc (Nat.le_refl _) _
  have HK4 := Lib.hid (Ret.Blk.new wn36 #[.slice (some ⟨g_v8, 0, none⟩) n_v8 c_v8, .slice (some ⟨g_v13, 0, none⟩) n_v13 c_v13, .slice (some ⟨g_v19, 0, none⟩) n_v19 c_v19, .slice (some ⟨bf, 0, none⟩) 1 1] 47)
  replace HF := Lib.hid (HF.out.on hb)
  replace H_v7 := Lib.hid (H_v7.out.on hb)
  replace O_v8 := Lib.hid (O_v8.out.on hb)
  replace O_v13 := Lib.hid (O_v13.out.on hb)
  replace H_v18 := Lib.hid (H_v18.out.on hb)
  replace O_v19 := Lib.hid (O_v19.out.on hb)
  replace BB := Lib.hid (BB.out.trans (hb.mono BB.out.size))
  clear hb
  generalize wn36.alloc (.cells #[.slice (some ⟨g_v8, 0, none⟩) n_v8 c_v8, .slice (some ⟨g_v13, 0, none⟩) n_v13 c_v13, .slice (some ⟨g_v19, 0, none⟩) n_v19 c_v19, .slice (some ⟨bf, 0, none⟩) 1 1] 47) = wn37 at *
  clear hHeld
  refine hK.out _ _ ?_ (fun hHeld => ?_)
  · (try dsimp only); exact ⟨kc K0.out BB.out, kc K1.out BB.out, kc K2.out BB.out, kc K3.out BB.out, kc K4.out BB.out⟩
  clear hK K
  (try simp only [Act.put, List.setIfInBounds_toArray, List.set_cons_zero, List.set_cons_succ])
  refine wpAnyH_ready (rs := [23]) (by kernel_rfl) (by simp) ?_
  refine AllReadyH.cons (o := { dst := some 26, op := Op.call { callee := Callee.value (Operand.func 91), args := #[Operand.tmp 25], argTypes := #[102] }, type := 47, pos := "l08_thing.go:28", after := #[{ on := 22, ground := Ground.data }, { on := 16, ground := Ground.chain }], guard := none }) rfl (fun K hK => ?_) AllReadyH.nil
  go_simp
  refine (concat4 HK4.out O_v8.out O_v13.out O_v19.out HF.out HLT.out).mono ?_
  rintro e wn38 ⟨v26, rfl, ho, hb⟩
  have O_v26 := Lib.hid (Sl.Own.mono ho BB.out.size); clear ho
  replace HF := Lib.hid (HF.out.on hb)
  replace H_v7 := Lib.hid (H_v7.out.on hb)
  replace O_v8 := Lib.hid (O_v8.out.on hb)
  replace O_v13 := Lib.hid (O_v13.out.on hb)
  replace H_v18 := Lib.hid (H_v18.out.on hb)
  replace O_v19 := Lib.hid (O_v19.out.on hb)
  replace BB := Lib.hid (BB.out.trans (hb.mono BB.out.size))
  clear hb
  (try go_wp2_with fail)
  clear hHeld
  refine hK.out _ _ ?_ (fun hHeld => ?_)
  · (try dsimp only); exact ⟨kc K0.out BB.out, kc K1.out BB.out, kc K2.out BB.out, kc K3.out BB.out, kc K4.out BB.out⟩
  clear hK K
  (try simp only [Act.put, List.setIfInBounds_toArray, List.set_cons_zero, List.set_cons_succ])
  refine wpAnyH_take (i := 24) (oi := { dst := some 2, op := Op.assign (Operand.tmp 26), type := 47, pos := "l08_thing.go:28", after := #[{ on := 23, ground := Ground.data }, { on := 23, ground := Ground.chain }, { on := 0, ground := Ground.phase }, { on := 1, ground := Ground.phase }, { on := 2, ground := Ground.phase }, { on := 3, ground := Ground.phase }, { on := 4, ground := Ground.phase }, { on := 5, ground := Ground.phase }, { on := 6, ground := Ground.phase }, { on := 7, ground := Ground.phase }, { on := 8, ground := Ground.phase }, { on := 9, ground := Ground.phase }, { on := 10, ground := Ground.phase }, { on := 11, ground := Ground.phase }, { on := 12, ground := Ground.phase }, { on := 13, ground := Ground.phase }, { on := 14, ground := Ground.phase }, { on := 15, ground := Ground.phase }, { on := 16, ground := Ground.phase }, { on := 17, ground := Ground.phase }, { on := 18, ground := Ground.phase }, { on := 19, ground := Ground.phase }, { on := 20, ground := Ground.phase }, { on := 21, ground := Ground.phase }, { on := 22, ground := Ground.phase }, { on := 23, ground := Ground.phase }], guard := none }) (v := ?_) rfl (by kernel_rfl) (by kernel_rfl) (by kernel_rfl) (fun _ _ _ h => h) (Or.inl ⟨by rfl, ?_⟩) (by assumption) ?_
  rotate_left
  · intro w' hSw; (try dsimp only at hSw); first | (go_simp; done) | (go_simp; with_reducible rfl)
  (try simp only [Act.put, List.setIfInBounds_toArray, List.set_cons_zero, List.set_cons_succ])
  refine wpAnyH_done (by kernel_rfl) ?_ _
  exact NoPanic.normal (HQ.out _ _ _ _ _ _ _ _ _ _ _ _ _ _ _ _ _ _ _ _ _ _ _ _ _ _ O_v26.out BB.out)

end Go.Proofs.YtbooamnlocobfaaGreat.Row
/- Contracts of chapter 3's Encrypt, Decrypt and DeriveSecret, the reference model's, and the program's DeriveSecret. No conditions but that lengths fit and that the elements are bytes. -/
namespace Go.Proofs.YtbooamnlocobfaaGreat.Sl
open Go.ChangeShapes Go.WideShapes Go.ChangeAt Go.RowKit Go.Instr
open Seal (digest mac b2i derive dstep chg encF decF enc dec)
set_option linter.unusedVariables false
set_option maxRecDepth 100000

end Go.Proofs.YtbooamnlocobfaaGreat.Sl
/- SignedPortion of the model and of the program; the program's mac, clone and sign. No conditions but that lengths fit. -/
namespace Go.Proofs.YtbooamnlocobfaaGreat.Row
open Go.ChangeShapes Go.WideShapes Go.ChangeAt Go.RowKit Go.Instr
set_option linter.unusedVariables false
set_option maxRecDepth 100000

set_option maxHeartbeats 4000000 in
theorem specSignedPortion (a b c : Value) (x : Dt) (w : World) (h : DHold w a b c x) (hB : Sl.Byt x.2.1) (hl : bulkD x ≤ 1200000) :
    Calls Tryz.prog 28 #[.agg (dc a b c x.2.2.2.1 x.2.2.2.2)] w (Sl.GivesI w (portD x)) := by
  obtain ⟨l, m, k, f, s⟩ := x
  simp only at hB ⊢
  have hl1 : bulk l ≤ 1200000 := by unfold bulkD at hl; simp only at hl; omega
  have hl2 : m.length ≤ 1200000 := by unfold bulkD at hl; simp only at hl; omega
  have hl3 : bulk k ≤ 1200000 := by unfold bulkD at hl; simp only at hl; omega
  obtain ⟨xa, na, ca, xb, nb, cb, xc, nc, cc, rfl, rfl, rfl⟩ := h.shape
  have HY := Lib.hid hB; have HL1 := Lib.hid hl1; have HL2 := Lib.hid hl2; have HL3 := Lib.hid hl3
  have HB := Lib.hid ((Below.refl w.heap.size w).alloc (Nat.le_refl _) (.cells (dc (.slice xa na ca) (.slice xb nb cb) (.slice xc nc cc) f s) 28))
  have H0 := Lib.hid (h.on HB.out)
  have HX := Lib.hid (Ret.Blk.new w (dc (.slice xa na ca) (.slice xb nb cb) (.slice xc nc cc) f s) 28)
  have HLT := Lib.hid (show (Seal.b2i (appName [] l) ++ Seal.b2i m).length ≤ 12000000 by
    have h1 := pname_len [] l
    simp only [List.length_nil] at h1
    simp only [List.length_append, Seal.b2i_length]; omega)
  clear h hB hl hl1 hl2 hl3
  go_enter Tryz.func28, Tryz.ntmps28
  go_wp2_with fail
  refine portS1 (Lib.hid H0.out.1) (Lib.hid H0.out.2.1) HY HL1 HL2 (Lib.hid (HX.out.cell 0)) (Lib.hid (HX.out.cell 1)) (Lib.hid (HX.out.cell 2)) (Lib.hid (HX.out.cell 3)) (Lib.hid (HX.out.cell 4)) ?_
  intro u4 u5 u6 u7 u8 u9 u10 u11 u12 v12 wx ho hb
  have HO := Lib.hid ho
  have HB2 := Lib.hid (HB.out.trans (hb.mono HB.out.size))
  have HX2 := Lib.hid (HX.out.on hb)
  have H2 := Lib.hid (H0.out.on hb)
  have HW := Lib.hid hb.size
  have HP := Lib.hid (show w.heap.size < (w.alloc (.cells (dc (.slice xa na ca) (.slice xb nb cb) (.slice xc nc cc) f s) 28)).heap.size by simp)
  clear ho hb
  go_wp2_with fail
  refine portS2 (Lib.hid H2.out.2.2) HL3 HLT HO HW HP (Lib.hid (HX2.out.cell 0)) (Lib.hid (HX2.out.cell 1)) (Lib.hid (HX2.out.cell 2)) (Lib.hid (HX2.out.cell 3)) (Lib.hid (HX2.out.cell 4)) ?_
  intro u13 u14 u15 u16 u17 u18 u19 u20 u21 u22 u23 v23 w2 ho hb
  have HO2 := Lib.hid ho
  have HB3 := Lib.hid ((HB.out.trans ((Below.refl _ _).mono (Nat.le_refl _))))
  have HBX := Lib.hid hb
  clear ho hb
  go_wp2_with fail
  go_ret
  exact ⟨_, rfl, HO2.out.mono HB.out.size, HB2.out.trans (HBX.out.mono HB.out.size)⟩

set_option maxHeartbeats 4000000 in
theorem implPortion (g : Nat) (a b c : Value) (x : Dt) (w : World) (hx : Ret.Blk w g (dc a b c x.2.2.2.1 x.2.2.2.2) 28) (h : DHold w a b c x) (hB : Sl.Byt x.2.1) (hl : bulkD x ≤ 1200000) :
    Calls Tryz.prog 65 #[.pointer (some ⟨g, 0, none⟩)] w (Sl.GivesI w (portD x)) := by
  obtain ⟨l, m, k, f, s⟩ := x
  simp only at hB hx ⊢
  have hl1 : bulk l ≤ 1200000 := by unfold bulkD at hl; simp only at hl; omega
  have hl2 : m.length ≤ 1200000 := by unfold bulkD at hl; simp only at hl; omega
  have hl3 : bulk k ≤ 1200000 := by unfold bulkD at hl; simp only at hl; omega
  obtain ⟨xa, na, ca, xb, nb, cb, xc, nc, cc, rfl, rfl, rfl⟩ := h.shape
  have HY := Lib.hid hB; have HL1 := Lib.hid hl1; have HL2 := Lib.hid hl2; have HL3 := Lib.hid hl3
  have H0 := Lib.hid h
  have HX := Lib.hid hx
  have HLT := Lib.hid (show (Seal.b2i (appName [] l) ++ Seal.b2i m ++ Seal.b2i (appName [] k) ++ [f]).length ≤ 10000000 from Nat.le_trans (portD_len (l, m, k, f, s)) (by omega))
  clear h hx hB hl hl1 hl2 hl3
  go_enter Tryz.func65, Tryz.ntmps65
  go_wp2_with fail
  refine portI (Lib.hid H0.out.1) (Lib.hid H0.out.2.1) HY HL1 HL2 (Lib.hid H0.out.2.2) HL3 HLT (Lib.hid (HX.out.cell 0)) (Lib.hid (HX.out.cell 1)) (Lib.hid (HX.out.cell 2)) (Lib.hid (HX.out.cell 3)) (Lib.hid (HX.out.cell 4)) ?_
  intro u3 u4 u5 u6 u7 u8 u9 u10 u11 u12 u13 u14 u15 u16 u17 u18 u19 u20 u21 u22 u23 u24 u25 u26 v26 w2 ho hb
  have HO2 := Lib.hid ho
  have HB2 := Lib.hid hb
  clear ho hb
  go_wp2_with fail
  go_ret
  exact ⟨_, rfl, HO2.out, HB2.out⟩

set_option maxHeartbeats 4000000 in
theorem implSignedPortion (a b c : Value) (x : Dt) (w : World) (h : DHold w a b c x) (hB : Sl.Byt x.2.1) (hl : bulkD x ≤ 1200000) :
    Calls Tryz.prog 27 #[.agg (dc a b c x.2.2.2.1 x.2.2.2.2)] w (Sl.GivesI w (portD x)) := by
  obtain ⟨l, m, k, f, s⟩ := x
  simp only at hB ⊢
  obtain ⟨xa, na, ca, xb, nb, cb, xc, nc, cc, rfl, rfl, rfl⟩ := h.shape
  have HB := Lib.hid ((Below.refl w.heap.size w).alloc (Nat.le_refl _) (.cells (dc (.slice xa na ca) (.slice xb nb cb) (.slice xc nc cc) f s) 28))
  have HC := Lib.hid (implPortion w.heap.size _ _ _ (l, m, k, f, s) _ (Ret.Blk.new w (dc (.slice xa na ca) (.slice xb nb cb) (.slice xc nc cc) f s) 28) (h.on HB.out) hB hl)
  clear h hB hl
  go_enter Tryz.func27, Tryz.ntmps27
  go_wp2_with fail
  refine HC.out.mono ?_
  rintro e w1 ⟨v1, rfl, ho, hb⟩
  have HO := Lib.hid ho; have HB2 := Lib.hid (HB.out.trans (hb.mono HB.out.size))
  clear ho hb
  go_wp2_with fail
  go_ret
  exact ⟨_, rfl, HO.out.mono HB.out.size, HB2.out⟩

set_option maxHeartbeats 4000000 in
theorem implMac (g : Nat) (a b c : Value) (x : Dt) (w : World) (hx : Ret.Blk w g (dc a b c x.2.2.2.1 x.2.2.2.2) 28) (h : DHold w a b c x) (hB : Sl.Byt x.2.1) (hl : bulkD x ≤ 1200000) (t : Int) :
    Calls Tryz.prog 56 #[.pointer (some ⟨g, 0, none⟩), .int .i64 t] w (Sl.GivesN w (Seal.mac t (portD x))) := by
  have HC := Lib.hid (implPortion g a b c x w hx h hB hl)
  have HLN := Lib.hid (show (portD x).length ≤ 9000000 from Nat.le_trans (portD_len x) (by omega))
  clear h hB hx hl
  go_enter Tryz.func56, Tryz.ntmps56
  go_wp2_with fail
  refine HC.out.mono ?_
  rintro e w1 ⟨v1, rfl, ho, hb⟩
  have HO := Lib.hid ho.holds; have HB2 := Lib.hid hb
  clear ho hb
  go_wp2_with fail
  refine (Sl.implComputeMAC t _ (portD x) _ HO.out HLN.out).mono ?_
  rintro e w2 ⟨rfl, hb⟩
  have HB3 := Lib.hid (HB2.out.trans (hb.mono HB2.out.size)); clear hb
  go_wp2_with fail
  go_ret
  exact ⟨rfl, HB3.out⟩

set_option maxHeartbeats 1000000 in
theorem cloneBs (v : Value) (l : List Int) (w : World) (h : Sl.Holds .u8 w v l) (hl : l.length ≤ 9000000) :
    Calls Tryz.prog 83 #[v] w (Sl.GivesB w l) := by
  obtain ⟨x, cx, rfl, hcx, hh⟩ := h.shape
  cases x with
  | none =>
    have hl0 : l = [] := by
      obtain ⟨x', cap', hv, hc', hh'⟩ := hh
      cases hv
      rcases hh' with h1 | ⟨b, off, h1, _⟩
      · exact h1
      · cases h1
    subst hl0
    have hq : ∀ w : World, (binOp .eql 22 (.slice none 0 cx) (.slice none 0 0)).run Tryz.prog w = .ok (.bool true) w := fun w => by
      exact Lib.run_eql_slice_nil w _ _ _ _ _ _ _ Tryz.underlying22
    clear hh h
    simp only [List.length_nil]
    go_enter Tryz.func83, Tryz.ntmps83
    go_wp2
    go_ret
    exact ⟨_, rfl, Sl.Own.nil _ _ _ _, Below.refl _ _⟩
  | some ad =>
    have HB := Lib.hid ((Below.refl w.heap.size w).alloc (Nat.le_refl _) (.cells #[] 5))
    have HH := Lib.hid (hh.on HB.out)
    have HO := Lib.hid (Sl.own_empty .u8 5 w)
    have hq : ∀ w : World, (binOp .eql 22 (.slice (some ad) l.length cx) (.slice none 0 0)).run Tryz.prog w = .ok (.bool false) w := fun w => by
      exact Lib.run_eql_slice_nil w _ _ _ _ _ _ _ Tryz.underlying22
    clear hh h
    go_enter Tryz.func83, Tryz.ntmps83
    go_wp2_with (at_builtin; refine Sl.wpList_app (k := .u8) (B := w.heap.size) (l := []) (m := l) rfl _ _ rfl Tryz.underlying22 Sl.elemBYTE rfl rfl rfl HO.out HH.out (by simp; omega) (by decide) (by simp) ?_)
    intro v2 w2 ho hg
    have HO2 := Lib.hid ho; have HB2 := Lib.hid (HB.out.grown hg (by simp) (fun g hh => (HO.out.lt g hh).1))
    clear ho hg
    go_wp2_with fail
    go_ret
    exact ⟨_, rfl, HO2.out, HB2.out⟩

set_option maxHeartbeats 4000000 in
theorem cloneD (g : Nat) (a b c : Value) (x : Dt) (w : World) (hx : Ret.Blk w g (dc a b c x.2.2.2.1 x.2.2.2.2) 28) (h : DHold w a b c x) (h1 : x.1.length ≤ 9000000) (h2 : x.2.1.length ≤ 9000000) (h3 : x.2.2.1.length ≤ 9000000) :
    Calls Tryz.prog 53 #[.pointer (some ⟨g, 0, none⟩)] w (GivesD w x) := by
  obtain ⟨l, m, k, f, s⟩ := x
  unfold GivesD
  simp only at h1 h2 h3 hx ⊢
  obtain ⟨xa, na, ca, xb, nb, cb, xc, nc, cc, rfl, rfl, rfl⟩ := h.shape
  have hg0 := hx.lt
  have hb1 := (Below.refl w.heap.size w).alloc (Nat.le_refl _) (.cells (dc nil nil nil 0 0) 28)
  have hb2 := hb1.alloc (by simp) (.cells (dc (.slice xa na ca) (.slice xb nb cb) (.slice xc nc cc) f s) 28)
  have HB := Lib.hid hb2
  have H0 := Lib.hid h
  have HX := Lib.hid (hx.on hb2)
  have HR := Lib.hid ((Ret.Blk.new w (dc nil nil nil 0 0) 28).on ((Below.refl _ _).alloc (Nat.le_refl _) (.cells (dc (.slice xa na ca) (.slice xb nb cb) (.slice xc nc cc) f s) 28)))
  have HL := Lib.hid (Ret.Blk.new' (w := w.alloc (.cells (dc nil nil nil 0 0) 28)) (n := w.heap.size + 1) (dc (.slice xa na ca) (.slice xb nb cb) (.slice xc nc cc) f s) 28 (by simp))
  have hz0 : ((w.alloc (.cells (dc nil nil nil 0 0) 28)).alloc (.cells (dc (.slice xa na ca) (.slice xb nb cb) (.slice xc nc cc) f s) 28)).heap.size = w.heap.size + 2 := by simp
  have q0 : w.cell? ⟨g, 0, none⟩ = some (.slice xa na ca) := hx.cell 0
  have q1 : w.cell? ⟨g, 1, none⟩ = some (.slice xb nb cb) := hx.cell 1
  have q2 : w.cell? ⟨g, 2, none⟩ = some (.slice xc nc cc) := hx.cell 2
  have q3 : w.cell? ⟨g, 3, none⟩ = some (.int .i64 f) := hx.cell 3
  have q4 : w.cell? ⟨g, 4, none⟩ = some (.int .i64 s) := hx.cell 4
  clear h hx hb1 hb2
  go_enter Tryz.func53, Tryz.ntmps53
  go_wp2_with fail
  clear q0 q1 q2 q3 q4
  refine (cloneName _ l _ (H0.out.on HB.out).1 (by omega)).mono ?_
  rintro e w1 ⟨a1, rfl, ho1, hb1⟩
  obtain ⟨ya, ma, da, rfl, -, -, ho1⟩ := ho1.shapeN
  have hs1 := hb1.size
  rw [hz0] at ho1 hs1
  replace HX := Lib.hid (HX.out.on hb1); replace HR := Lib.hid (HR.out.on hb1); replace HL := Lib.hid (HL.out.on hb1)
  replace HB := Lib.hid (HB.out.trans (hb1.mono HB.out.size))
  have HO1 := Lib.hid ho1
  have HLA := Lib.hid (fun g hg => (ho1.lt g hg).2)
  clear ho1 hb1 hz0
  have q0 : w1.cell? ⟨g, 0, none⟩ = some (.slice xa na ca) := HX.out.cell 0
  have q1 : w1.cell? ⟨g, 1, none⟩ = some (.slice xb nb cb) := HX.out.cell 1
  have q2 : w1.cell? ⟨g, 2, none⟩ = some (.slice xc nc cc) := HX.out.cell 2
  have q3 : w1.cell? ⟨g, 3, none⟩ = some (.int .i64 f) := HX.out.cell 3
  have q4 : w1.cell? ⟨g, 4, none⟩ = some (.int .i64 s) := HX.out.cell 4
  have p0 : w1.cell? ⟨w.heap.size + 1, 0, none⟩ = some (.slice xa na ca) := HL.out.cell 0
  have p1 : w1.cell? ⟨w.heap.size + 1, 1, none⟩ = some (.slice xb nb cb) := HL.out.cell 1
  have p2 : w1.cell? ⟨w.heap.size + 1, 2, none⟩ = some (.slice xc nc cc) := HL.out.cell 2
  have p3 : w1.cell? ⟨w.heap.size + 1, 3, none⟩ = some (.int .i64 f) := HL.out.cell 3
  have p4 : w1.cell? ⟨w.heap.size + 1, 4, none⟩ = some (.int .i64 s) := HL.out.cell 4
  have t0 := HL.out.frozen 0; have t1 := HL.out.frozen 1; have t2 := HL.out.frozen 2; have t3 := HL.out.frozen 3; have t4 := HL.out.frozen 4
  go_wp2_with fail
  clear q0 q1 q2 q3 q4 p0 p1 p2 p3 p4 t0 t1 t2 t3 t4
  replace HX := Lib.hid (HX.out.other (a := ⟨w.heap.size + 1, 0, none⟩) (by show w.heap.size + 1 ≠ g; omega) (.slice ya ma da))
  replace HR := Lib.hid (HR.out.other (a := ⟨w.heap.size + 1, 0, none⟩) (by show w.heap.size + 1 ≠ w.heap.size; omega) (.slice ya ma da))
  replace HL := Lib.hid (HL.out.set 0 (.slice ya ma da))
  replace HB := Lib.hid (HB.out.setCell (p := ⟨w.heap.size + 1, 0, none⟩) (by show w.heap.size ≤ w.heap.size + 1; omega) (.slice ya ma da))
  replace HO1 := Lib.hid (own_set (g := w.heap.size + 1) (i := 0) (u := .slice ya ma da) HO1.out (by omega))
  refine (cloneBs _ m _ (H0.out.on HB.out).2.1 (by omega)).mono ?_
  rintro e w2 ⟨b1, rfl, ho2, hb2⟩
  obtain ⟨yb, mb, db, rfl, -, -, ho2⟩ := Own.shapeN (enc := Value.int .u8) ho2
  replace ho2 : Sl.Own 5 .u8 _ w2 (.slice yb mb db) m := ho2
  have hs2 := hb2.size
  simp only [World.size_setCell] at hs2 ho2
  replace HX := Lib.hid (HX.out.on hb2); replace HR := Lib.hid (HR.out.on hb2); replace HL := Lib.hid (HL.out.on hb2)
  replace HO1 := Lib.hid (HO1.out.on hb2)
  replace HB := Lib.hid (HB.out.trans (hb2.mono HB.out.size))
  have HO2 := Lib.hid ho2
  have HLB := Lib.hid (fun g hg => (ho2.lt g hg).2)
  clear ho2 hb2
  have q0 : w2.cell? ⟨g, 0, none⟩ = some (.slice xa na ca) := HX.out.cell 0
  have q1 : w2.cell? ⟨g, 1, none⟩ = some (.slice xb nb cb) := HX.out.cell 1
  have q2 : w2.cell? ⟨g, 2, none⟩ = some (.slice xc nc cc) := HX.out.cell 2
  have q3 : w2.cell? ⟨g, 3, none⟩ = some (.int .i64 f) := HX.out.cell 3
  have q4 : w2.cell? ⟨g, 4, none⟩ = some (.int .i64 s) := HX.out.cell 4
  have p0 : w2.cell? ⟨w.heap.size + 1, 0, none⟩ = some (.slice ya ma da) := HL.out.cell 0
  have p1 : w2.cell? ⟨w.heap.size + 1, 1, none⟩ = some (.slice xb nb cb) := HL.out.cell 1
  have p2 : w2.cell? ⟨w.heap.size + 1, 2, none⟩ = some (.slice xc nc cc) := HL.out.cell 2
  have p3 : w2.cell? ⟨w.heap.size + 1, 3, none⟩ = some (.int .i64 f) := HL.out.cell 3
  have p4 : w2.cell? ⟨w.heap.size + 1, 4, none⟩ = some (.int .i64 s) := HL.out.cell 4
  have t0 := HL.out.frozen 0; have t1 := HL.out.frozen 1; have t2 := HL.out.frozen 2; have t3 := HL.out.frozen 3; have t4 := HL.out.frozen 4
  go_wp2_with fail
  clear q0 q1 q2 q3 q4 p0 p1 p2 p3 p4 t0 t1 t2 t3 t4
  replace HX := Lib.hid (HX.out.other (a := ⟨w.heap.size + 1, 1, none⟩) (by show w.heap.size + 1 ≠ g; omega) (.slice yb mb db))
  replace HR := Lib.hid (HR.out.other (a := ⟨w.heap.size + 1, 1, none⟩) (by show w.heap.size + 1 ≠ w.heap.size; omega) (.slice yb mb db))
  replace HL := Lib.hid (HL.out.set 1 (.slice yb mb db))
  replace HB := Lib.hid (HB.out.setCell (p := ⟨w.heap.size + 1, 1, none⟩) (by show w.heap.size ≤ w.heap.size + 1; omega) (.slice yb mb db))
  replace HO1 := Lib.hid (own_set (g := w.heap.size + 1) (i := 1) (u := .slice yb mb db) HO1.out (by omega))
  replace HO2 := Lib.hid (sl_own_set (g := w.heap.size + 1) (i := 1) (u := .slice yb mb db) HO2.out (by omega))
  refine (cloneName _ k _ (H0.out.on HB.out).2.2 (by omega)).mono ?_
  rintro e w3 ⟨c1, rfl, ho3, hb3⟩
  obtain ⟨yc, mc, dc_, rfl, -, -, ho3⟩ := ho3.shapeN
  have hs3 := hb3.size
  simp only [World.size_setCell] at hs3 ho3
  replace HX := Lib.hid (HX.out.on hb3); replace HR := Lib.hid (HR.out.on hb3); replace HL := Lib.hid (HL.out.on hb3)
  replace HO1 := Lib.hid (HO1.out.on hb3); replace HO2 := Lib.hid (HO2.out.on hb3)
  replace HB := Lib.hid (HB.out.trans (hb3.mono HB.out.size))
  have HO3 := Lib.hid ho3
  clear ho3 hb3
  have q0 : w3.cell? ⟨g, 0, none⟩ = some (.slice xa na ca) := HX.out.cell 0
  have q1 : w3.cell? ⟨g, 1, none⟩ = some (.slice xb nb cb) := HX.out.cell 1
  have q2 : w3.cell? ⟨g, 2, none⟩ = some (.slice xc nc cc) := HX.out.cell 2
  have q3 : w3.cell? ⟨g, 3, none⟩ = some (.int .i64 f) := HX.out.cell 3
  have q4 : w3.cell? ⟨g, 4, none⟩ = some (.int .i64 s) := HX.out.cell 4
  have p0 : w3.cell? ⟨w.heap.size + 1, 0, none⟩ = some (.slice ya ma da) := HL.out.cell 0
  have p1 : w3.cell? ⟨w.heap.size + 1, 1, none⟩ = some (.slice yb mb db) := HL.out.cell 1
  have p2 : w3.cell? ⟨w.heap.size + 1, 2, none⟩ = some (.slice xc nc cc) := HL.out.cell 2
  have p3 : w3.cell? ⟨w.heap.size + 1, 3, none⟩ = some (.int .i64 f) := HL.out.cell 3
  have p4 : w3.cell? ⟨w.heap.size + 1, 4, none⟩ = some (.int .i64 s) := HL.out.cell 4
  have t0 := HL.out.frozen 0; have t1 := HL.out.frozen 1; have t2 := HL.out.frozen 2; have t3 := HL.out.frozen 3; have t4 := HL.out.frozen 4
  have r0 : w3.cell? ⟨w.heap.size, 0, none⟩ = some (.slice none 0 0) := HR.out.cell 0
  have r1 : w3.cell? ⟨w.heap.size, 1, none⟩ = some (.slice none 0 0) := HR.out.cell 1
  have r2 : w3.cell? ⟨w.heap.size, 2, none⟩ = some (.slice none 0 0) := HR.out.cell 2
  have r3 : w3.cell? ⟨w.heap.size, 3, none⟩ = some (.int .i64 0) := HR.out.cell 3
  have r4 : w3.cell? ⟨w.heap.size, 4, none⟩ = some (.int .i64 0) := HR.out.cell 4
  have z0 := HR.out.frozen 0; have z1 := HR.out.frozen 1; have z2 := HR.out.frozen 2; have z3 := HR.out.frozen 3; have z4 := HR.out.frozen 4
  have Z1 := Lib.hid ((((((HR.out.other (a := ⟨w.heap.size + 1, 2, none⟩) (by show w.heap.size + 1 ≠ w.heap.size; omega) (.slice yc mc dc_)).set 0 (.slice ya ma da)).set 1 (.slice yb mb db)).set 2 (.slice yc mc dc_)).set 3 (.int .i64 f)).set 4 (.int .i64 s))
  have Z2 := Lib.hid (own_set (g := w.heap.size) (i := 4) (u := .int .i64 s) (own_set (g := w.heap.size) (i := 3) (u := .int .i64 f) (own_set (g := w.heap.size) (i := 2) (u := .slice yc mc dc_) (own_set (g := w.heap.size) (i := 1) (u := .slice yb mb db) (own_set (g := w.heap.size) (i := 0) (u := .slice ya ma da) (own_set (g := w.heap.size + 1) (i := 2) (u := .slice yc mc dc_) HO1.out (by omega)) (by omega)) (by omega)) (by omega)) (by omega)) (by omega))
  have Z3 := Lib.hid (sl_own_set (g := w.heap.size) (i := 4) (u := .int .i64 s) (sl_own_set (g := w.heap.size) (i := 3) (u := .int .i64 f) (sl_own_set (g := w.heap.size) (i := 2) (u := .slice yc mc dc_) (sl_own_set (g := w.heap.size) (i := 1) (u := .slice yb mb db) (sl_own_set (g := w.heap.size) (i := 0) (u := .slice ya ma da) (sl_own_set (g := w.heap.size + 1) (i := 2) (u := .slice yc mc dc_) HO2.out (by omega)) (by omega)) (by omega)) (by omega)) (by omega)) (by omega))
  have Z4 := Lib.hid (own_set (g := w.heap.size) (i := 4) (u := .int .i64 s) (own_set (g := w.heap.size) (i := 3) (u := .int .i64 f) (own_set (g := w.heap.size) (i := 2) (u := .slice yc mc dc_) (own_set (g := w.heap.size) (i := 1) (u := .slice yb mb db) (own_set (g := w.heap.size) (i := 0) (u := .slice ya ma da) (own_set (g := w.heap.size + 1) (i := 2) (u := .slice yc mc dc_) HO3.out (by omega)) (by omega)) (by omega)) (by omega)) (by omega)) (by omega))
  have Z5 := Lib.hid ((((((HB.out.setCell (p := ⟨w.heap.size + 1, 2, none⟩) (by show w.heap.size ≤ w.heap.size + 1; omega) (.slice yc mc dc_)).setCell (p := ⟨w.heap.size, 0, none⟩) (by show w.heap.size ≤ w.heap.size; omega) (.slice ya ma da)).setCell (p := ⟨w.heap.size, 1, none⟩) (by show w.heap.size ≤ w.heap.size; omega) (.slice yb mb db)).setCell (p := ⟨w.heap.size, 2, none⟩) (by show w.heap.size ≤ w.heap.size; omega) (.slice yc mc dc_)).setCell (p := ⟨w.heap.size, 3, none⟩) (by show w.heap.size ≤ w.heap.size; omega) (.int .i64 f)).setCell (p := ⟨w.heap.size, 4, none⟩) (by show w.heap.size ≤ w.heap.size; omega) (.int .i64 s))
  go_wp2_with fail
  refine bodyPost_ret (Ret.results_c rfl _ _ w.heap.size (dc (.slice ya ma da) (.slice yb mb db) (.slice yc mc dc_) f s).toList rfl aggD Z1.out.cells) rfl ?_
  have hlb := fun g hg => (Sl.Own.lt Z3.out g hg).1
  have hlc := fun g hg => (Own.lt Z4.out g hg).1
  exact ⟨_, _, _, rfl, ⟨Z2.out.mono (by omega), Sl.Own.mono Z3.out (by omega), Z4.out.mono (by omega), fun g e1 e2 => by have h5 := HLA.out g e1; have h6 := hlb g e2; omega, fun g e1 e2 => by have h5 := HLA.out g e1; have h6 := hlc g e2; omega, fun g e1 e2 => by have h5 := HLB.out g e1; have h6 := hlc g e2; omega⟩, Z5.out⟩

end Go.Proofs.YtbooamnlocobfaaGreat.Row
