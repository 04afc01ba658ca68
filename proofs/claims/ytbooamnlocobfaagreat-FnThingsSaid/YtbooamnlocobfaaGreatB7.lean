/- Contracts and mathematics, joined: ThingE, ThingQ, WantQ, ThingD0, ThingD. No conditions but those that each states. -/
import Derived.Test.YtbooamnlocobfaaGreatB5
import Derived.Test.YtbooamnlocobfaaGreatB6
import Derived.Test.YtbooamnlocobfaaGreatB3
import Derived.Test.YtbooamnlocobfaaGreatB4
/- EncodeData, model and program; the program's numbers. No conditions but that lengths fit. -/
namespace Go.Proofs.YtbooamnlocobfaaGreat.Row
open Go.ChangeShapes Go.WideShapes Go.ChangeAt Go.RowKit Go.Instr
set_option linter.unusedVariables false
set_option maxRecDepth 100000

def encD (x : Dt) : List Int := if validD x = true then appName (appName [] x.1 ++ Var.var x.2.1.length ++ x.2.1) x.2.2.1 ++ Sl.encs [x.2.2.2.1, x.2.2.2.2] else []
theorem own_two (e : TypeId) (w : World) (x y : Int) (b : Nat) (hb : b = w.heap.size) : Sl.Own e .i64 w.heap.size (w.alloc (.cells #[.int .i64 x, .int .i64 y] e)) (.slice (some ⟨b, 0, none⟩) 2 2) [x, y] := by
  subst hb
  exact World.ownsRow_lit w #[.int .i64 x, .int .i64 y] 2 (Nat.le_refl _) (by unfold maxLen; omega) rfl
theorem encs2_pos {f s : Int} (h : 0 ≤ f ∧ f ≤ 100000) : 0 < (Sl.encs [f, s]).length := by
  have h2 := Var.enc_pos f.toNat
  have h3 : Sl.encs [f, s] = Var.var f ++ Var.var s := by simp [Sl.encs]
  rw [h3, Var.var_in h.1 (by omega), List.length_append]
  omega
theorem encs2_len (f s : Int) : (Sl.encs [f, s]).length ≤ 12 := Sl.encs_len [f, s]
theorem encB_len (la : List ByteArray) (lb : List Int) : (appName [] la ++ Var.var lb.length ++ lb).length ≤ 12 + 6 * bulk la + lb.length := by
  have h1 := pname_len [] la
  have h2 := Var.var_len lb.length
  simp only [List.length_nil] at h1
  simp only [List.length_append]; omega
theorem encD_len (x : Dt) : (encD x).length ≤ 30 + 6 * bulkD x := by
  have h1 := encB_len x.1 x.2.1
  have h2 := pname_len (appName [] x.1 ++ Var.var x.2.1.length ++ x.2.1) x.2.2.1
  have h3 := encs2_len x.2.2.2.1 x.2.2.2.2
  unfold encD bulkD
  split
  · rw [List.length_append]; omega
  · simp
theorem pbyt_encs (l : List Int) : Sl.Byt (Sl.encs l) := fun x hx => by
  unfold Sl.encs at hx
  obtain ⟨y, _, hx⟩ := List.mem_flatMap.1 hx
  exact pbyt_var y x hx
theorem encD_byt (x : Dt) (hB : Sl.Byt x.2.1) : Sl.Byt (encD x) := by
  unfold encD
  split
  · exact pbyt_two (pbyt_app _ (pbyt_two (pbyt_two (pbyt_app _ pbyt_nil) (pbyt_var _)) hB)) (pbyt_encs _)
  · exact pbyt_nil

set_option maxRecDepth 100000 in
set_option maxHeartbeats 4000000 in
theorem numsR {Q : Exit → Act → World → Prop} {v1 v2 v3 v4 v5 v6 v7 v8 v9 v10 v11 : Value} {w : World} {p : Nat} {f s : Int} (K3 : Hid (w.cell? ⟨p, 3, none⟩ = some (.int .i64 f))) (K4 : Hid (w.cell? ⟨p, 4, none⟩ = some (.int .i64 s)))
    (hQ : ∀ (u3 u4 u5 u6 u7 u8 u9 u10 : Value) (bb : Nat) (wx : World), Sl.Own 3 .i64 w.heap.size wx (.slice (some ⟨bb, 0, none⟩) 2 2) [f, s] → Below w.heap.size w wx → Q .normal ⟨#[.pointer (some ⟨p, 0, none⟩), v1, .slice (some ⟨bb, 0, none⟩) 2 2, u3, u4, u5, u6, u7, u8, u9, u10, .slice (some ⟨bb, 0, none⟩) 2 2], []⟩ wx) :
    (Code.region 1 #[{ dst := some 3, op := Op.move (Operand.tmp 0), type := 84, pos := "l08_thing.go:67", after := #[], guard := none },
      { dst := some 4, op := Op.nilCheck (Operand.tmp 3), type := 0, pos := "l08_thing.go:67", after := #[{ on := 0, ground := Ground.data }], guard := none },
      { dst := some 5, op := Op.fieldAddr 28 (Operand.tmp 4) 3, type := 0, pos := "l08_thing.go:67", after := #[{ on := 1, ground := Ground.data }], guard := none },
      { dst := some 6, op := Op.load 3 (Operand.tmp 5), type := 3, pos := "l08_thing.go:67", after := #[{ on := 2, ground := Ground.data }], guard := none },
      { dst := some 7, op := Op.move (Operand.tmp 0), type := 84, pos := "l08_thing.go:67", after := #[], guard := none },
      { dst := some 8, op := Op.nilCheck (Operand.tmp 7), type := 0, pos := "l08_thing.go:67", after := #[{ on := 4, ground := Ground.data }], guard := none },
      { dst := some 9, op := Op.fieldAddr 28 (Operand.tmp 8) 4, type := 0, pos := "l08_thing.go:67", after := #[{ on := 5, ground := Ground.data }], guard := none },
      { dst := some 10, op := Op.load 3 (Operand.tmp 9), type := 3, pos := "l08_thing.go:67", after := #[{ on := 6, ground := Ground.data }], guard := none },
      { dst := some 11, op := Op.buildSlice 47 2 #[(0, Operand.tmp 6), (1, Operand.tmp 10)], type := 47, pos := "l08_thing.go:67", after := #[{ on := 3, ground := Ground.data }, { on := 7, ground := Ground.data }], guard := none },
      { dst := some 2, op := Op.assign (Operand.tmp 11), type := 47, pos := "l08_thing.go:67", after := #[{ on := 8, ground := Ground.data }, { on := 0, ground := Ground.phase }, { on := 1, ground := Ground.phase }, { on := 2, ground := Ground.phase }, { on := 3, ground := Ground.phase }, { on := 4, ground := Ground.phase }, { on := 5, ground := Ground.phase }, { on := 6, ground := Ground.phase }, { on := 7, ground := Ground.phase }, { on := 8, ground := Ground.phase }], guard := none }] true).wp Tryz.prog Q ⟨#[.pointer (some ⟨p, 0, none⟩), v1, v2, v3, v4, v5, v6, v7, v8, v9, v10, v11], []⟩ w := by
  have HQ := Lib.hid hQ; clear hQ
  have hdr : Below w.heap.size w w.drew := (Below.refl _ _).drew
  have BB := Lib.hid hdr
  refine wp_region_noPanic ?_
  refine wp_region_held_drew (S := (fun w' => w'.cell? ⟨p, 3, none⟩ = some (.int .i64 f) ∧ w'.cell? ⟨p, 4, none⟩ = some (.int .i64 s))) (by kernel_rfl) ?_ (fun hHeld => ?_)
  · exact ⟨kc K3.out BB.out, kc K4.out BB.out⟩
  clear hdr
  generalize w.drew = wd at *
  refine wpAnyH_take (i := 0) (oi := { dst := some 3, op := Op.move (Operand.tmp 0), type := 84, pos := "l08_thing.go:67", after := #[], guard := none }) (v := ?_) rfl (by kernel_rfl) (by kernel_rfl) (by kernel_rfl) (fun _ _ _ h => h) (Or.inl ⟨by rfl, ?_⟩) (by assumption) ?_
  rotate_left
  · intro w' hSw; (try dsimp only at hSw); first | (go_simp; done) | (go_simp; with_reducible rfl)
  (try simp only [Act.put, List.setIfInBounds_toArray, List.set_cons_zero, List.set_cons_succ])
  refine wpAnyH_take (i := 1) (oi := { dst := some 4, op := Op.nilCheck (Operand.tmp 3), type := 0, pos := "l08_thing.go:67", after := #[{ on := 0, ground := Ground.data }], guard := none }) (v := ?_) rfl (by kernel_rfl) (by kernel_rfl) (by kernel_rfl) (fun _ _ _ h => h) (Or.inl ⟨by rfl, ?_⟩) (by assumption) ?_
  rotate_left
  · intro w' hSw; (try dsimp only at hSw); first | (go_simp; done) | (go_simp; with_reducible rfl)
  (try simp only [Act.put, List.setIfInBounds_toArray, List.set_cons_zero, List.set_cons_succ])
  refine wpAnyH_take (i := 2) (oi := { dst := some 5, op := Op.fieldAddr 28 (Operand.tmp 4) 3, type := 0, pos := "l08_thing.go:67", after := #[{ on := 1, ground := Ground.data }], guard := none }) (v := ?_) rfl (by kernel_rfl) (by kernel_rfl) (by kernel_rfl) (fun _ _ _ h => h) (Or.inl ⟨by rfl, ?_⟩) (by assumption) ?_
  rotate_left
  · intro w' hSw; (try dsimp only at hSw); first | (go_simp; done) | (go_simp; with_reducible rfl)
  (try simp only [Act.put, List.setIfInBounds_toArray, List.set_cons_zero, List.set_cons_succ])
  refine wpAnyH_take (i := 3) (oi := { dst := some 6, op := Op.load 3 (Operand.tmp 5), type := 3, pos := "l08_thing.go:67", after := #[{ on := 2, ground := Ground.data }], guard := none }) (v := ?_) rfl (by kernel_rfl) (by kernel_rfl) (by kernel_rfl) (fun _ _ _ h => h) (Or.inl ⟨by rfl, ?_⟩) (by assumption) ?_
  rotate_left
  · intro w' hSw; (try dsimp only at hSw); first | (go_simp; done) | (go_simp; with_reducible rfl)
  (try simp only [Act.put, List.setIfInBounds_toArray, List.set_cons_zero, List.set_cons_succ])
  refine wpAnyH_take (i := 4) (oi := { dst := some 7, op := Op.move (Operand.tmp 0), type := 84, pos := "l08_thing.go:67", after := #[], guard := none }) (v := ?_) rfl (by kernel_rfl) (by kernel_rfl) (by kernel_rfl) (fun _ _ _ h => h) (Or.inl ⟨by rfl, ?_⟩) (by assumption) ?_
  rotate_left
  · intro w' hSw; (try dsimp only at hSw); first | (go_simp; done) | (go_simp; with_reducible rfl)
  (try simp only [Act.put, List.setIfInBounds_toArray, List.set_cons_zero, List.set_cons_succ])
  refine wpAnyH_take (i := 5) (oi := { dst := some 8, op := Op.nilCheck (Operand.tmp 7), type := 0, pos := "l08_thing.go:67", after := #[{ on := 4, ground := Ground.data }], guard := none }) (v := ?_) rfl (by kernel_rfl) (by kernel_rfl) (by kernel_rfl) (fun _ _ _ h => h) (Or.inl ⟨by rfl, ?_⟩) (by assumption) ?_
  rotate_left
  · intro w' hSw; (try dsimp only at hSw); first | (go_simp; done) | (go_simp; with_reducible rfl)
  (try simp only [Act.put, List.setIfInBounds_toArray, List.set_cons_zero, List.set_cons_succ])
  refine wpAnyH_take (i := 6) (oi := { dst := some 9, op := Op.fieldAddr 28 (Operand.tmp 8) 4, type := 0, pos := "l08_thing.go:67", after := #[{ on := 5, ground := Ground.data }], guard := none }) (v := ?_) rfl (by kernel_rfl) (by kernel_rfl) (by kernel_rfl) (fun _ _ _ h => h) (Or.inl ⟨by rfl, ?_⟩) (by assumption) ?_
  rotate_left
  · intro w' hSw; (try dsimp only at hSw); first | (go_simp; done) | (go_simp; with_reducible rfl)
  (try simp only [Act.put, List.setIfInBounds_toArray, List.set_cons_zero, List.set_cons_succ])
  refine wpAnyH_take (i := 7) (oi := { dst := some 10, op := Op.load 3 (Operand.tmp 9), type := 3, pos := "l08_thing.go:67", after := #[{ on := 6, ground := Ground.data }], guard := none }) (v := ?_) rfl (by kernel_rfl) (by kernel_rfl) (by kernel_rfl) (fun _ _ _ h => h) (Or.inl ⟨by rfl, ?_⟩) (by assumption) ?_
  rotate_left
  · intro w' hSw; (try dsimp only at hSw); first | (go_simp; done) | (go_simp; with_reducible rfl)
  (try simp only [Act.put, List.setIfInBounds_toArray, List.set_cons_zero, List.set_cons_succ])
  refine wpAnyH_ready (rs := [8]) (by kernel_rfl) (by simp) ?_
  refine AllReadyH.cons (o := { dst := some 11, op := Op.buildSlice 47 2 #[(0, Operand.tmp 6), (1, Operand.tmp 10)], type := 47, pos := "l08_thing.go:67", after := #[{ on := 3, ground := Ground.data }, { on := 7, ground := Ground.data }], guard := none }) rfl (fun K hK => ?_) AllReadyH.nil
  go_simp
  have hb : Below wd.heap.size wd (wd.alloc (.cells #[.int .i64 f, .int .i64 s] 3)) := (Below.refl _ _).alloc (Nat.le_refl _) _
  obtain ⟨bb, hbb⟩ : ∃ b, b = wd.heap.size := ⟨_, rfl⟩
  have HF := Lib.hid (Sl.Own.mono (own_two 3 wd f s bb hbb) BB.out.size)
  rw [← hbb]
  clear hbb
  replace BB := Lib.hid (BB.out.trans (hb.mono BB.out.size))
  clear hb
  generalize wd.alloc (.cells #[.int .i64 f, .int .i64 s] 3) = wn1 at *
  clear hHeld
  refine hK.out _ _ ?_ (fun hHeld => ?_)
  · (try dsimp only); exact ⟨kc K3.out BB.out, kc K4.out BB.out⟩
  clear hK K
  (try simp only [Act.put, List.setIfInBounds_toArray, List.set_cons_zero, List.set_cons_succ])
  refine wpAnyH_take (i := 9) (oi := { dst := some 2, op := Op.assign (Operand.tmp 11), type := 47, pos := "l08_thing.go:67", after := #[{ on := 8, ground := Ground.data }, { on := 0, ground := Ground.phase }, { on := 1, ground := Ground.phase }, { on := 2, ground := Ground.phase }, { on := 3, ground := Ground.phase }, { on := 4, ground := Ground.phase }, { on := 5, ground := Ground.phase }, { on := 6, ground := Ground.phase }, { on := 7, ground := Ground.phase }, { on := 8, ground := Ground.phase }], guard := none }) (v := ?_) rfl (by kernel_rfl) (by kernel_rfl) (by kernel_rfl) (fun _ _ _ h => h) (Or.inl ⟨by rfl, ?_⟩) (by assumption) ?_
  rotate_left
  · intro w' hSw; (try dsimp only at hSw); first | (go_simp; done) | (go_simp; with_reducible rfl)
  (try simp only [Act.put, List.setIfInBounds_toArray, List.set_cons_zero, List.set_cons_succ])
  refine wpAnyH_done (by kernel_rfl) ?_ _
  exact NoPanic.normal (HQ.out _ _ _ _ _ _ _ _ _ _ HF.out BB.out)

set_option maxHeartbeats 1000000 in
theorem numbersD (g : Nat) (a b c : Value) (f s : Int) (w : World) (hx : Ret.Blk w g (dc a b c f s) 28) :
    Calls Tryz.prog 36 #[.pointer (some ⟨g, 0, none⟩)] w fun e w' => ∃ bb, e = .returned (.slice (some ⟨bb, 0, none⟩) 2 2) ∧ Sl.Own 3 .i64 w.heap.size w' (.slice (some ⟨bb, 0, none⟩) 2 2) [f, s] ∧ Below w.heap.size w w' := by
  have HX := Lib.hid hx
  clear hx
  go_enter Tryz.func36, Tryz.ntmps36
  go_wp2_with fail
  refine numsR (Lib.hid (HX.out.cell 3)) (Lib.hid (HX.out.cell 4)) ?_
  intro u3 u4 u5 u6 u7 u8 u9 u10 bb wx ho hb
  have HO := Lib.hid ho; have HB := Lib.hid hb
  clear ho hb
  go_wp2_with fail
  go_ret
  exact ⟨_, rfl, HO.out, HB.out⟩

set_option maxRecDepth 100000 in
set_option maxHeartbeats 4000000 in
theorem encspec3 {Q : Exit → Act → World → Prop} {v0 v2 v3 v4 v5 v6 v7 v8 v9 v10 v11 v12 v13 v14 v15 v16 v17 v18 v19 v20 v21 v22 v23 v24 v25 : Value} {w : World} {p na ca nb cb nc cc : Nat} {xa xb xc : Option Addr} {f s : Int} {la : List ByteArray} {lb : List Int} (H_a : Hid (Holds Value.string w (.slice xa na ca) la)) (H_b : Hid (Sl.Holds .u8 w (.slice xb nb cb) lb)) (HLA : Hid (bulk la ≤ 1200000)) (HLB : Hid (lb.length ≤ 1200000)) (K0 : Hid (w.cell? ⟨p, 0, none⟩ = some (.slice xa na ca))) (K1 : Hid (w.cell? ⟨p, 1, none⟩ = some (.slice xb nb cb))) (K2 : Hid (w.cell? ⟨p, 2, none⟩ = some (.slice xc nc cc))) (K3 : Hid (w.cell? ⟨p, 3, none⟩ = some (.int .i64 f))) (K4 : Hid (w.cell? ⟨p, 4, none⟩ = some (.int .i64 s)))
    (hQ : ∀ (u8 u9 u10 u11 u12 u13 u14 : Value) (vB : Value) (wx : World), Sl.Holds .u8 wx vB (appName [] la ++ Var.var lb.length ++ lb) → Below w.heap.size w wx → Q .normal ⟨#[v0, .pointer (some ⟨p, 0, none⟩), v2, vB, v4, v5, v6, v7, u8, u9, u10, u11, u12, u13, u14, v15, v16, v17, v18, v19, v20, v21, v22, v23, v24, v25], []⟩ wx) :
    (Code.region 3 #[{ dst := some 8, op := Op.buildSlice 22 0 #[], type := 22, pos := "l08_thing.go:28", after := #[], guard := none },
      { dst := some 9, op := Op.fieldAddr 28 (Operand.tmp 1) 0, type := 0, pos := "l08_thing.go:28", after := #[], guard := none },
      { dst := some 10, op := Op.load 26 (Operand.tmp 9), type := 26, pos := "l08_thing.go:28", after := #[{ on := 1, ground := Ground.data }], guard := none },
      { dst := some 11, op := Op.call { callee := Callee.value (Operand.func 50), args := #[Operand.tmp 8, Operand.tmp 10], argTypes := #[22, 26] }, type := 22, pos := "l08_thing.go:28", after := #[{ on := 0, ground := Ground.data }, { on := 2, ground := Ground.data }], guard := none },
      { dst := some 12, op := Op.fieldAddr 28 (Operand.tmp 1) 1, type := 0, pos := "l08_thing.go:28", after := #[], guard := none },
      { dst := some 13, op := Op.load 22 (Operand.tmp 12), type := 22, pos := "l08_thing.go:28", after := #[{ on := 4, ground := Ground.data }], guard := none },
      { dst := some 14, op := Op.call { callee := Callee.value (Operand.func 49), args := #[Operand.tmp 11, Operand.tmp 13], argTypes := #[22, 22] }, type := 22, pos := "l08_thing.go:28", after := #[{ on := 3, ground := Ground.data }, { on := 5, ground := Ground.data }, { on := 3, ground := Ground.chain }], guard := none },
      { dst := some 3, op := Op.assign (Operand.tmp 14), type := 22, pos := "l08_thing.go:28", after := #[{ on := 6, ground := Ground.data }, { on := 6, ground := Ground.chain }, { on := 0, ground := Ground.phase }, { on := 1, ground := Ground.phase }, { on := 2, ground := Ground.phase }, { on := 3, ground := Ground.phase }, { on := 4, ground := Ground.phase }, { on := 5, ground := Ground.phase }, { on := 6, ground := Ground.phase }], guard := none }] true).wp Tryz.prog Q ⟨#[v0, .pointer (some ⟨p, 0, none⟩), v2, v3, v4, v5, v6, v7, v8, v9, v10, v11, v12, v13, v14, v15, v16, v17, v18, v19, v20, v21, v22, v23, v24, v25], []⟩ w := by
  have HQ := Lib.hid hQ; clear hQ
  have hdr : Below w.heap.size w w.drew := (Below.refl _ _).drew
  have BB := Lib.hid hdr
  refine wp_region_noPanic ?_
  refine wp_region_held_drew (S := (fun w' => w'.cell? ⟨p, 0, none⟩ = some (.slice xa na ca) ∧ w'.cell? ⟨p, 1, none⟩ = some (.slice xb nb cb) ∧ w'.cell? ⟨p, 2, none⟩ = some (.slice xc nc cc) ∧ w'.cell? ⟨p, 3, none⟩ = some (.int .i64 f) ∧ w'.cell? ⟨p, 4, none⟩ = some (.int .i64 s))) (by kernel_rfl) ?_ (fun hHeld => ?_)
  · exact ⟨kc K0.out BB.out, kc K1.out BB.out, kc K2.out BB.out, kc K3.out BB.out, kc K4.out BB.out⟩
  clear hdr
  generalize w.drew = wd at *
  refine wpAnyH_take (i := 1) (oi := { dst := some 9, op := Op.fieldAddr 28 (Operand.tmp 1) 0, type := 0, pos := "l08_thing.go:28", after := #[], guard := none }) (v := ?_) rfl (by kernel_rfl) (by kernel_rfl) (by kernel_rfl) (fun _ _ _ h => h) (Or.inl ⟨by rfl, ?_⟩) (by assumption) ?_
  rotate_left
  · intro w' hSw; (try dsimp only at hSw); first | (go_simp; done) | (go_simp; with_reducible rfl)
  (try simp only [Act.put, List.setIfInBounds_toArray, List.set_cons_zero, List.set_cons_succ])
  refine wpAnyH_take (i := 2) (oi := { dst := some 10, op := Op.load 26 (Operand.tmp 9), type := 26, pos := "l08_thing.go:28", after := #[{ on := 1, ground := Ground.data }], guard := none }) (v := ?_) rfl (by kernel_rfl) (by kernel_rfl) (by kernel_rfl) (fun _ _ _ h => h) (Or.inl ⟨by rfl, ?_⟩) (by assumption) ?_
  rotate_left
  · intro w' hSw; (try dsimp only at hSw); first | (go_simp; done) | (go_simp; with_reducible rfl)
  (try simp only [Act.put, List.setIfInBounds_toArray, List.set_cons_zero, List.set_cons_succ])
  refine wpAnyH_take (i := 4) (oi := { dst := some 12, op := Op.fieldAddr 28 (Operand.tmp 1) 1, type := 0, pos := "l08_thing.go:28", after := #[], guard := none }) (v := ?_) rfl (by kernel_rfl) (by kernel_rfl) (by kernel_rfl) (fun _ _ _ h => h) (Or.inl ⟨by rfl, ?_⟩) (by assumption) ?_
  rotate_left
  · intro w' hSw; (try dsimp only at hSw); first | (go_simp; done) | (go_simp; with_reducible rfl)
  (try simp only [Act.put, List.setIfInBounds_toArray, List.set_cons_zero, List.set_cons_succ])
  refine wpAnyH_take (i := 5) (oi := { dst := some 13, op := Op.load 22 (Operand.tmp 12), type := 22, pos := "l08_thing.go:28", after := #[{ on := 4, ground := Ground.data }], guard := none }) (v := ?_) rfl (by kernel_rfl) (by kernel_rfl) (by kernel_rfl) (fun _ _ _ h => h) (Or.inl ⟨by rfl, ?_⟩) (by assumption) ?_
  rotate_left
  · intro w' hSw; (try dsimp only at hSw); first | (go_simp; done) | (go_simp; with_reducible rfl)
  (try simp only [Act.put, List.setIfInBounds_toArray, List.set_cons_zero, List.set_cons_succ])
  refine wpAnyH_ready (rs := [0]) (by kernel_rfl) (by simp) ?_
  refine AllReadyH.cons (o := { dst := some 8, op := Op.buildSlice 22 0 #[], type := 22, pos := "l08_thing.go:28", after := #[], guard := none }) rfl (fun K hK => ?_) AllReadyH.nil
  go_simp
  have hb : Below wd.heap.size wd (wd.alloc (.cells #[] 5)) := (Below.refl _ _).alloc (Nat.le_refl _) _
  replace BB := Lib.hid (BB.out.trans (hb.mono BB.out.size))
  clear hb
  generalize wd.alloc (.cells #[] 5) = wn1 at *
  clear hHeld
  refine hK.out _ _ ?_ (fun hHeld => ?_)
  · (try dsimp only); exact ⟨kc K0.out BB.out, kc K1.out BB.out, kc K2.out BB.out, kc K3.out BB.out, kc K4.out BB.out⟩
  clear hK K
  (try simp only [Act.put, List.setIfInBounds_toArray, List.set_cons_zero, List.set_cons_succ])
  refine wpAnyH_ready (rs := [3]) (by kernel_rfl) (by simp) ?_
  refine AllReadyH.cons (o := { dst := some 11, op := Op.call { callee := Callee.value (Operand.func 50), args := #[Operand.tmp 8, Operand.tmp 10], argTypes := #[22, 26] }, type := 22, pos := "l08_thing.go:28", after := #[{ on := 0, ground := Ground.data }, { on := 2, ground := Ground.data }], guard := none }) rfl (fun K hK => ?_) AllReadyH.nil
  go_simp
  refine (specAppendName (.slice _ 0 0) _ [] la _ (Sl.holds_empty _ _ _ _) (H_a.out.on BB.out) (by simp) HLA.out).mono ?_
  rintro e wn2 ⟨vA, rfl, ho, hb⟩
  have H_vA := Lib.hid ho.holds; clear ho
  replace BB := Lib.hid (BB.out.trans (hb.mono BB.out.size))
  clear hb
  (try go_wp2_with fail)
  clear hHeld
  refine hK.out _ _ ?_ (fun hHeld => ?_)
  · (try dsimp only); exact ⟨kc K0.out BB.out, kc K1.out BB.out, kc K2.out BB.out, kc K3.out BB.out, kc K4.out BB.out⟩
  clear hK K
  (try simp only [Act.put, List.setIfInBounds_toArray, List.set_cons_zero, List.set_cons_succ])
  refine wpAnyH_ready (rs := [6]) (by kernel_rfl) (by simp) ?_
  refine AllReadyH.cons (o := { dst := some 14, op := Op.call { callee := Callee.value (Operand.func 49), args := #[Operand.tmp 11, Operand.tmp 13], argTypes := #[22, 22] }, type := 22, pos := "l08_thing.go:28", after := #[{ on := 3, ground := Ground.data }, { on := 5, ground := Ground.data }, { on := 3, ground := Ground.chain }], guard := none }) rfl (fun K hK => ?_) AllReadyH.nil
  go_simp
  refine (Sl.specAppendBytes _ _ (appName [] la) lb _ H_vA.out (H_b.out.on BB.out) (by have h1 := pname_len [] la; have h2 := HLA.out; simp only [List.length_nil] at h1; omega) (by have h2 := HLB.out; omega)).mono ?_
  rintro e wn3 ⟨vB, rfl, ho, hb⟩
  have H_vB := Lib.hid ho.holds; clear ho
  replace H_vA := Lib.hid (H_vA.out.on hb)
  replace BB := Lib.hid (BB.out.trans (hb.mono BB.out.size))
  clear hb
  (try go_wp2_with fail)
  clear hHeld
  refine hK.out _ _ ?_ (fun hHeld => ?_)
  · (try dsimp only); exact ⟨kc K0.out BB.out, kc K1.out BB.out, kc K2.out BB.out, kc K3.out BB.out, kc K4.out BB.out⟩
  clear hK K
  (try simp only [Act.put, List.setIfInBounds_toArray, List.set_cons_zero, List.set_cons_succ])
  refine wpAnyH_take (i := 7) (oi := { dst := some 3, op := Op.assign (Operand.tmp 14), type := 22, pos := "l08_thing.go:28", after := #[{ on := 6, ground := Ground.data }, { on := 6, ground := Ground.chain }, { on := 0, ground := Ground.phase }, { on := 1, ground := Ground.phase }, { on := 2, ground := Ground.phase }, { on := 3, ground := Ground.phase }, { on := 4, ground := Ground.phase }, { on := 5, ground := Ground.phase }, { on := 6, ground := Ground.phase }], guard := none }) (v := ?_) rfl (by kernel_rfl) (by kernel_rfl) (by kernel_rfl) (fun _ _ _ h => h) (Or.inl ⟨by rfl, ?_⟩) (by assumption) ?_
  rotate_left
  · intro w' hSw; (try dsimp only at hSw); first | (go_simp; done) | (go_simp; with_reducible rfl)
  (try simp only [Act.put, List.setIfInBounds_toArray, List.set_cons_zero, List.set_cons_succ])
  refine wpAnyH_done (by kernel_rfl) ?_ _
  exact NoPanic.normal (HQ.out _ _ _ _ _ _ _ _ _ H_vB.out BB.out)

set_option maxRecDepth 100000 in
set_option maxHeartbeats 4000000 in
theorem encimpl3 {Q : Exit → Act → World → Prop} {v0 v2 v3 v4 v5 v6 v7 v8 v9 v10 v11 v12 v13 v14 v15 v16 v17 v18 v19 v20 : Value} {w : World} {p na ca nb cb : Nat} {xa xb : Option Addr}  {la : List ByteArray} {lb : List Int} (H_a : Hid (Holds Value.string w (.slice xa na ca) la)) (H_b : Hid (Sl.Holds .u8 w (.slice xb nb cb) lb)) (HLA : Hid (bulk la ≤ 1200000)) (HLB : Hid (lb.length ≤ 1200000)) (K0 : Hid (w.cell? ⟨p, 0, none⟩ = some (.slice xa na ca))) (K1 : Hid (w.cell? ⟨p, 1, none⟩ = some (.slice xb nb cb)))
    (hQ : ∀ (u8 u9 u10 u11 u12 u13 : Value) (vB : Value) (wx : World), Sl.Holds .u8 wx vB (appName [] la ++ Var.var lb.length ++ lb) → Below w.heap.size w wx → Q .normal ⟨#[v0, .pointer (some ⟨p, 0, none⟩), v2, vB, v4, v5, v6, v7, u8, u9, u10, u11, u12, u13, v14, v15, v16, v17, v18, v19, v20], []⟩ wx) :
    (Code.region 3 #[{ dst := some 8, op := Op.fieldAddr 28 (Operand.tmp 1) 0, type := 0, pos := "l08_thing.go:74", after := #[], guard := none },
      { dst := some 9, op := Op.load 26 (Operand.tmp 8), type := 26, pos := "l08_thing.go:74", after := #[{ on := 0, ground := Ground.data }], guard := none },
      { dst := some 10, op := Op.call { callee := Callee.value (Operand.func 34), args := #[Operand.const (Value.slice none 0 0), Operand.tmp 9], argTypes := #[22, 26] }, type := 22, pos := "l08_thing.go:74", after := #[{ on := 1, ground := Ground.data }], guard := none },
      { dst := some 11, op := Op.fieldAddr 28 (Operand.tmp 1) 1, type := 0, pos := "l08_thing.go:74", after := #[], guard := none },
      { dst := some 12, op := Op.load 22 (Operand.tmp 11), type := 22, pos := "l08_thing.go:74", after := #[{ on := 3, ground := Ground.data }], guard := none },
      { dst := some 13, op := Op.call { callee := Callee.value (Operand.func 33), args := #[Operand.tmp 10, Operand.tmp 12], argTypes := #[22, 22] }, type := 22, pos := "l08_thing.go:74", after := #[{ on := 2, ground := Ground.data }, { on := 4, ground := Ground.data }, { on := 2, ground := Ground.chain }], guard := none },
      { dst := some 3, op := Op.assign (Operand.tmp 13), type := 22, pos := "l08_thing.go:74", after := #[{ on := 5, ground := Ground.data }, { on := 5, ground := Ground.chain }, { on := 0, ground := Ground.phase }, { on := 1, ground := Ground.phase }, { on := 2, ground := Ground.phase }, { on := 3, ground := Ground.phase }, { on := 4, ground := Ground.phase }, { on := 5, ground := Ground.phase }], guard := none }] true).wp Tryz.prog Q ⟨#[v0, .pointer (some ⟨p, 0, none⟩), v2, v3, v4, v5, v6, v7, v8, v9, v10, v11, v12, v13, v14, v15, v16, v17, v18, v19, v20], []⟩ w := by
  have HQ := Lib.hid hQ; clear hQ
  have hdr : Below w.heap.size w w.drew := (Below.refl _ _).drew
  have BB := Lib.hid hdr
  refine wp_region_noPanic ?_
  refine wp_region_held_drew (S := (fun w' => w'.cell? ⟨p, 0, none⟩ = some (.slice xa na ca) ∧ w'.cell? ⟨p, 1, none⟩ = some (.slice xb nb cb))) (by kernel_rfl) ?_ (fun hHeld => ?_)
  · exact ⟨kc K0.out BB.out, kc K1.out BB.out⟩
  clear hdr
  generalize w.drew = wd at *
  refine wpAnyH_take (i := 0) (oi := { dst := some 8, op := Op.fieldAddr 28 (Operand.tmp 1) 0, type := 0, pos := "l08_thing.go:74", after := #[], guard := none }) (v := ?_) rfl (by kernel_rfl) (by kernel_rfl) (by kernel_rfl) (fun _ _ _ h => h) (Or.inl ⟨by rfl, ?_⟩) (by assumption) ?_
  rotate_left
  · intro w' hSw; (try dsimp only at hSw); first | (go_simp; done) | (go_simp; with_reducible rfl)
  (try simp only [Act.put, List.setIfInBounds_toArray, List.set_cons_zero, List.set_cons_succ])
  refine wpAnyH_take (i := 1) (oi := { dst := some 9, op := Op.load 26 (Operand.tmp 8), type := 26, pos := "l08_thing.go:74", after := #[{ on := 0, ground := Ground.data }], guard := none }) (v := ?_) rfl (by kernel_rfl) (by kernel_rfl) (by kernel_rfl) (fun _ _ _ h => h) (Or.inl ⟨by rfl, ?_⟩) (by assumption) ?_
  rotate_left
  · intro w' hSw; (try dsimp only at hSw); first | (go_simp; done) | (go_simp; with_reducible rfl)
  (try simp only [Act.put, List.setIfInBounds_toArray, List.set_cons_zero, List.set_cons_succ])
  refine wpAnyH_take (i := 3) (oi := { dst := some 11, op := Op.fieldAddr 28 (Operand.tmp 1) 1, type := 0, pos := "l08_thing.go:74", after := #[], guard := none }) (v := ?_) rfl (by kernel_rfl) (by kernel_rfl) (by kernel_rfl) (fun _ _ _ h => h) (Or.inl ⟨by rfl, ?_⟩) (by assumption) ?_
  rotate_left
  · intro w' hSw; (try dsimp only at hSw); first | (go_simp; done) | (go_simp; with_reducible rfl)
  (try simp only [Act.put, List.setIfInBounds_toArray, List.set_cons_zero, List.set_cons_succ])
  refine wpAnyH_take (i := 4) (oi := { dst := some 12, op := Op.load 22 (Operand.tmp 11), type := 22, pos := "l08_thing.go:74", after := #[{ on := 3, ground := Ground.data }], guard := none }) (v := ?_) rfl (by kernel_rfl) (by kernel_rfl) (by kernel_rfl) (fun _ _ _ h => h) (Or.inl ⟨by rfl, ?_⟩) (by assumption) ?_
  rotate_left
  · intro w' hSw; (try dsimp only at hSw); first | (go_simp; done) | (go_simp; with_reducible rfl)
  (try simp only [Act.put, List.setIfInBounds_toArray, List.set_cons_zero, List.set_cons_succ])
  refine wpAnyH_ready (rs := [2]) (by kernel_rfl) (by simp) ?_
  refine AllReadyH.cons (o := { dst := some 10, op := Op.call { callee := Callee.value (Operand.func 34), args := #[Operand.const (Value.slice none 0 0), Operand.tmp 9], argTypes := #[22, 26] }, type := 22, pos := "l08_thing.go:74", after := #[{ on := 1, ground := Ground.data }], guard := none }) rfl (fun K hK => ?_) AllReadyH.nil
  go_simp
  refine (implAppendName (.slice none 0 0) _ [] la _ (Sl.Holds.nil _ _) (H_a.out.on BB.out) (by simp) HLA.out).mono ?_
  rintro e wn1 ⟨vA, rfl, ho, hb⟩
  have H_vA := Lib.hid ho.holds; clear ho
  replace BB := Lib.hid (BB.out.trans (hb.mono BB.out.size))
  clear hb
  (try go_wp2_with fail)
  clear hHeld
  refine hK.out _ _ ?_ (fun hHeld => ?_)
  · (try dsimp only); exact ⟨kc K0.out BB.out, kc K1.out BB.out⟩
  clear hK K
  (try simp only [Act.put, List.setIfInBounds_toArray, List.set_cons_zero, List.set_cons_succ])
  refine wpAnyH_ready (rs := [5]) (by kernel_rfl) (by simp) ?_
  refine AllReadyH.cons (o := { dst := some 13, op := Op.call { callee := Callee.value (Operand.func 33), args := #[Operand.tmp 10, Operand.tmp 12], argTypes := #[22, 22] }, type := 22, pos := "l08_thing.go:74", after := #[{ on := 2, ground := Ground.data }, { on := 4, ground := Ground.data }, { on := 2, ground := Ground.chain }], guard := none }) rfl (fun K hK => ?_) AllReadyH.nil
  go_simp
  refine (Sl.implAppendBytes _ _ (appName [] la) lb _ H_vA.out (H_b.out.on BB.out) (by have h1 := pname_len [] la; have h2 := HLA.out; simp only [List.length_nil] at h1; omega) (by have h2 := HLB.out; omega)).mono ?_
  rintro e wn2 ⟨vB, rfl, ho, hb⟩
  have H_vB := Lib.hid ho.holds; clear ho
  replace H_vA := Lib.hid (H_vA.out.on hb)
  replace BB := Lib.hid (BB.out.trans (hb.mono BB.out.size))
  clear hb
  (try go_wp2_with fail)
  clear hHeld
  refine hK.out _ _ ?_ (fun hHeld => ?_)
  · (try dsimp only); exact ⟨kc K0.out BB.out, kc K1.out BB.out⟩
  clear hK K
  (try simp only [Act.put, List.setIfInBounds_toArray, List.set_cons_zero, List.set_cons_succ])
  refine wpAnyH_take (i := 6) (oi := { dst := some 3, op := Op.assign (Operand.tmp 13), type := 22, pos := "l08_thing.go:74", after := #[{ on := 5, ground := Ground.data }, { on := 5, ground := Ground.chain }, { on := 0, ground := Ground.phase }, { on := 1, ground := Ground.phase }, { on := 2, ground := Ground.phase }, { on := 3, ground := Ground.phase }, { on := 4, ground := Ground.phase }, { on := 5, ground := Ground.phase }], guard := none }) (v := ?_) rfl (by kernel_rfl) (by kernel_rfl) (by kernel_rfl) (fun _ _ _ h => h) (Or.inl ⟨by rfl, ?_⟩) (by assumption) ?_
  rotate_left
  · intro w' hSw; (try dsimp only at hSw); first | (go_simp; done) | (go_simp; with_reducible rfl)
  (try simp only [Act.put, List.setIfInBounds_toArray, List.set_cons_zero, List.set_cons_succ])
  refine wpAnyH_done (by kernel_rfl) ?_ _
  exact NoPanic.normal (HQ.out _ _ _ _ _ _ _ _ H_vB.out BB.out)

set_option maxRecDepth 100000 in
set_option maxHeartbeats 4000000 in
theorem encS4 {Q : Exit → Act → World → Prop} {v0 v2 v4 v5 v6 v7 v8 v9 v10 v11 v12 v13 v14 v15 v16 v17 v18 v19 v20 v21 v22 v23 v24 v25 : Value} {w : World} {p nc cc : Nat} {xc : Option Addr} {f s : Int} {y3 : Value} {l3 : List Int} {lc : List ByteArray} (H_3 : Hid (Sl.Holds .u8 w y3 l3)) (H_c : Hid (Holds Value.string w (.slice xc nc cc) lc)) (HLC : Hid (bulk lc ≤ 1200000)) (HL3 : Hid (l3.length ≤ 2000000)) (HE : Hid (0 < (Sl.encs [f, s]).length)) (HLT : Hid (((appName l3 lc).length + (Sl.encs [f, s]).length) * 8 ≤ 140737488355328)) (K2 : Hid (w.cell? ⟨p, 2, none⟩ = some (.slice xc nc cc))) (K3 : Hid (w.cell? ⟨p, 3, none⟩ = some (.int .i64 f))) (K4 : Hid (w.cell? ⟨p, 4, none⟩ = some (.int .i64 s)))
    (hQ : ∀ (u15 u16 u17 u18 u19 u20 u21 u22 u23 u24 u25 : Value) (v25 : Value) (wx : World), Sl.Own 5 .u8 w.heap.size wx v25 (appName l3 lc ++ Sl.encs [f, s]) → Below w.heap.size w wx → Q .normal ⟨#[v0, .pointer (some ⟨p, 0, none⟩), v25, y3, v4, v5, v6, v7, v8, v9, v10, v11, v12, v13, v14, u15, u16, u17, u18, u19, u20, u21, u22, u23, u24, u25], []⟩ wx) :
    (Code.region 4 #[{ dst := some 15, op := Op.move (Operand.tmp 3), type := 22, pos := "l08_thing.go:29", after := #[], guard := none },
      { dst := some 16, op := Op.fieldAddr 28 (Operand.tmp 1) 2, type := 0, pos := "l08_thing.go:29", after := #[], guard := none },
      { dst := some 17, op := Op.load 26 (Operand.tmp 16), type := 26, pos := "l08_thing.go:29", after := #[{ on := 1, ground := Ground.data }], guard := none },
      { dst := some 18, op := Op.call { callee := Callee.value (Operand.func 50), args := #[Operand.tmp 15, Operand.tmp 17], argTypes := #[22, 26] }, type := 22, pos := "l08_thing.go:29", after := #[{ on := 0, ground := Ground.data }, { on := 2, ground := Ground.data }], guard := none },
      { dst := some 19, op := Op.fieldAddr 28 (Operand.tmp 1) 3, type := 0, pos := "l08_thing.go:29", after := #[], guard := none },
      { dst := some 20, op := Op.load 3 (Operand.tmp 19), type := 3, pos := "l08_thing.go:29", after := #[{ on := 4, ground := Ground.data }], guard := none },
      { dst := some 21, op := Op.fieldAddr 28 (Operand.tmp 1) 4, type := 0, pos := "l08_thing.go:29", after := #[], guard := none },
      { dst := some 22, op := Op.load 3 (Operand.tmp 21), type := 3, pos := "l08_thing.go:29", after := #[{ on := 6, ground := Ground.data }], guard := none },
      { dst := some 23, op := Op.buildSlice 47 2 #[(0, Operand.tmp 20), (1, Operand.tmp 22)], type := 47, pos := "l08_thing.go:29", after := #[{ on := 5, ground := Ground.data }, { on := 7, ground := Ground.data }], guard := none },
      { dst := some 24, op := Op.call { callee := Callee.value (Operand.func 51), args := #[Operand.tmp 23], argTypes := #[47] }, type := 22, pos := "l08_thing.go:29", after := #[{ on := 8, ground := Ground.data }, { on := 3, ground := Ground.chain }], guard := none },
      { dst := some 25, op := Op.call { callee := Callee.builtin Builtin.append, args := #[Operand.tmp 18, Operand.tmp 24], argTypes := #[22, 22] }, type := 22, pos := "l08_thing.go:29", after := #[{ on := 3, ground := Ground.data }, { on := 9, ground := Ground.data }, { on := 9, ground := Ground.chain }], guard := none },
      { dst := some 2, op := Op.assign (Operand.tmp 25), type := 22, pos := "l08_thing.go:29", after := #[{ on := 10, ground := Ground.data }, { on := 10, ground := Ground.chain }, { on := 0, ground := Ground.phase }, { on := 1, ground := Ground.phase }, { on := 2, ground := Ground.phase }, { on := 3, ground := Ground.phase }, { on := 4, ground := Ground.phase }, { on := 5, ground := Ground.phase }, { on := 6, ground := Ground.phase }, { on := 7, ground := Ground.phase }, { on := 8, ground := Ground.phase }, { on := 9, ground := Ground.phase }, { on := 10, ground := Ground.phase }], guard := none }] true).wp Tryz.prog Q ⟨#[v0, .pointer (some ⟨p, 0, none⟩), v2, y3, v4, v5, v6, v7, v8, v9, v10, v11, v12, v13, v14, v15, v16, v17, v18, v19, v20, v21, v22, v23, v24, v25], []⟩ w := by
  have HQ := Lib.hid hQ; clear hQ
  have hdr : Below w.heap.size w w.drew := (Below.refl _ _).drew
  have BB := Lib.hid hdr
  refine wp_region_noPanic ?_
  refine wp_region_held_drew (S := (fun w' => w'.cell? ⟨p, 2, none⟩ = some (.slice xc nc cc) ∧ w'.cell? ⟨p, 3, none⟩ = some (.int .i64 f) ∧ w'.cell? ⟨p, 4, none⟩ = some (.int .i64 s))) (by kernel_rfl) ?_ (fun hHeld => ?_)
  · exact ⟨kc K2.out BB.out, kc K3.out BB.out, kc K4.out BB.out⟩
  clear hdr
  generalize w.drew = wd at *
  refine wpAnyH_take (i := 0) (oi := { dst := some 15, op := Op.move (Operand.tmp 3), type := 22, pos := "l08_thing.go:29", after := #[], guard := none }) (v := ?_) rfl (by kernel_rfl) (by kernel_rfl) (by kernel_rfl) (fun _ _ _ h => h) (Or.inl ⟨by rfl, ?_⟩) (by assumption) ?_
  rotate_left
  · intro w' hSw; (try dsimp only at hSw); first | (go_simp; done) | (go_simp; with_reducible rfl)
  (try simp only [Act.put, List.setIfInBounds_toArray, List.set_cons_zero, List.set_cons_succ])
  refine wpAnyH_take (i := 1) (oi := { dst := some 16, op := Op.fieldAddr 28 (Operand.tmp 1) 2, type := 0, pos := "l08_thing.go:29", after := #[], guard := none }) (v := ?_) rfl (by kernel_rfl) (by kernel_rfl) (by kernel_rfl) (fun _ _ _ h => h) (Or.inl ⟨by rfl, ?_⟩) (by assumption) ?_
  rotate_left
  · intro w' hSw; (try dsimp only at hSw); first | (go_simp; done) | (go_simp; with_reducible rfl)
  (try simp only [Act.put, List.setIfInBounds_toArray, List.set_cons_zero, List.set_cons_succ])
  refine wpAnyH_take (i := 2) (oi := { dst := some 17, op := Op.load 26 (Operand.tmp 16), type := 26, pos := "l08_thing.go:29", after := #[{ on := 1, ground := Ground.data }], guard := none }) (v := ?_) rfl (by kernel_rfl) (by kernel_rfl) (by kernel_rfl) (fun _ _ _ h => h) (Or.inl ⟨by rfl, ?_⟩) (by assumption) ?_
  rotate_left
  · intro w' hSw; (try dsimp only at hSw); first | (go_simp; done) | (go_simp; with_reducible rfl)
  (try simp only [Act.put, List.setIfInBounds_toArray, List.set_cons_zero, List.set_cons_succ])
  refine wpAnyH_take (i := 4) (oi := { dst := some 19, op := Op.fieldAddr 28 (Operand.tmp 1) 3, type := 0, pos := "l08_thing.go:29", after := #[], guard := none }) (v := ?_) rfl (by kernel_rfl) (by kernel_rfl) (by kernel_rfl) (fun _ _ _ h => h) (Or.inl ⟨by rfl, ?_⟩) (by assumption) ?_
  rotate_left
  · intro w' hSw; (try dsimp only at hSw); first | (go_simp; done) | (go_simp; with_reducible rfl)
  (try simp only [Act.put, List.setIfInBounds_toArray, List.set_cons_zero, List.set_cons_succ])
  refine wpAnyH_take (i := 5) (oi := { dst := some 20, op := Op.load 3 (Operand.tmp 19), type := 3, pos := "l08_thing.go:29", after := #[{ on := 4, ground := Ground.data }], guard := none }) (v := ?_) rfl (by kernel_rfl) (by kernel_rfl) (by kernel_rfl) (fun _ _ _ h => h) (Or.inl ⟨by rfl, ?_⟩) (by assumption) ?_
  rotate_left
  · intro w' hSw; (try dsimp only at hSw); first | (go_simp; done) | (go_simp; with_reducible rfl)
  (try simp only [Act.put, List.setIfInBounds_toArray, List.set_cons_zero, List.set_cons_succ])
  refine wpAnyH_take (i := 6) (oi := { dst := some 21, op := Op.fieldAddr 28 (Operand.tmp 1) 4, type := 0, pos := "l08_thing.go:29", after := #[], guard := none }) (v := ?_) rfl (by kernel_rfl) (by kernel_rfl) (by kernel_rfl) (fun _ _ _ h => h) (Or.inl ⟨by rfl, ?_⟩) (by assumption) ?_
  rotate_left
  · intro w' hSw; (try dsimp only at hSw); first | (go_simp; done) | (go_simp; with_reducible rfl)
  (try simp only [Act.put, List.setIfInBounds_toArray, List.set_cons_zero, List.set_cons_succ])
  refine wpAnyH_take (i := 7) (oi := { dst := some 22, op := Op.load 3 (Operand.tmp 21), type := 3, pos := "l08_thing.go:29", after := #[{ on := 6, ground := Ground.data }], guard := none }) (v := ?_) rfl (by kernel_rfl) (by kernel_rfl) (by kernel_rfl) (fun _ _ _ h => h) (Or.inl ⟨by rfl, ?_⟩) (by assumption) ?_
  rotate_left
  · intro w' hSw; (try dsimp only at hSw); first | (go_simp; done) | (go_simp; with_reducible rfl)
  (try simp only [Act.put, List.setIfInBounds_toArray, List.set_cons_zero, List.set_cons_succ])
  refine wpAnyH_ready (rs := [3, 8]) (by kernel_rfl) (by simp) ?_
  refine AllReadyH.cons (o := { dst := some 18, op := Op.call { callee := Callee.value (Operand.func 50), args := #[Operand.tmp 15, Operand.tmp 17], argTypes := #[22, 26] }, type := 22, pos := "l08_thing.go:29", after := #[{ on := 0, ground := Ground.data }, { on := 2, ground := Ground.data }], guard := none }) rfl (fun K hK => ?_) ?_
  ·
    go_simp
    refine (specAppendName _ _ l3 lc _ (H_3.out.on BB.out) (H_c.out.on BB.out) HL3.out HLC.out).mono ?_
    rintro e wn1 ⟨v18, rfl, ho, hb⟩
    have O_v18 := Lib.hid (Sl.Own.mono ho BB.out.size); clear ho
    replace BB := Lib.hid (BB.out.trans (hb.mono BB.out.size))
    clear hb
    (try go_wp2_with fail)
    clear hHeld
    refine hK.out _ _ ?_ (fun hHeld => ?_)
    · (try dsimp only); exact ⟨kc K2.out BB.out, kc K3.out BB.out, kc K4.out BB.out⟩
    clear hK K
    (try simp only [Act.put, List.setIfInBounds_toArray, List.set_cons_zero, List.set_cons_succ])
    refine wpAnyH_ready (rs := [8]) (by kernel_rfl) (by simp) ?_
    refine AllReadyH.cons (o := { dst := some 23, op := Op.buildSlice 47 2 #[(0, Operand.tmp 20), (1, Operand.tmp 22)], type := 47, pos := "l08_thing.go:29", after := #[{ on := 5, ground := Ground.data }, { on := 7, ground := Ground.data }], guard := none }) rfl (fun K hK => ?_) AllReadyH.nil
    go_simp
    have hb : Below wn1.heap.size wn1 (wn1.alloc (.cells #[.int .i64 f, .int .i64 s] 3)) := (Below.refl _ _).alloc (Nat.le_refl _) _
    obtain ⟨bb, hbb⟩ : ∃ b, b = wn1.heap.size := ⟨_, rfl⟩
    have HF := Lib.hid (Sl.Own.holds (own_two 3 wn1 f s bb hbb))
    rw [← hbb]
    clear hbb
    replace O_v18 := Lib.hid (O_v18.out.on hb)
    replace BB := Lib.hid (BB.out.trans (hb.mono BB.out.size))
    clear hb
    generalize wn1.alloc (.cells #[.int .i64 f, .int .i64 s] 3) = wn2 at *
    clear hHeld
    refine hK.out _ _ ?_ (fun hHeld => ?_)
    · (try dsimp only); exact ⟨kc K2.out BB.out, kc K3.out BB.out, kc K4.out BB.out⟩
    clear hK K
    (try simp only [Act.put, List.setIfInBounds_toArray, List.set_cons_zero, List.set_cons_succ])
    refine wpAnyH_ready (rs := [9]) (by kernel_rfl) (by simp) ?_
    refine AllReadyH.cons (o := { dst := some 24, op := Op.call { callee := Callee.value (Operand.func 51), args := #[Operand.tmp 23], argTypes := #[47] }, type := 22, pos := "l08_thing.go:29", after := #[{ on := 8, ground := Ground.data }, { on := 3, ground := Ground.chain }], guard := none }) rfl (fun K hK => ?_) AllReadyH.nil
    go_simp
    refine (Sl.specEncodeInts _ [f, s] _ HF.out (by simp)).mono ?_
    rintro e wn3 ⟨v24, rfl, ho, hb⟩
    obtain ⟨g_24, n_24, c_24, rfl, ho⟩ := own_some ho HE.out
    have H_v24 := Lib.hid ho.holds; clear ho
    replace O_v18 := Lib.hid (O_v18.out.on hb)
    replace HF := Lib.hid (HF.out.on hb)
    replace BB := Lib.hid (BB.out.trans (hb.mono BB.out.size))
    clear hb
    (try go_wp2_with fail)
    clear hHeld
    refine hK.out _ _ ?_ (fun hHeld => ?_)
    · (try dsimp only); exact ⟨kc K2.out BB.out, kc K3.out BB.out, kc K4.out BB.out⟩
    clear hK K
    (try simp only [Act.put, List.setIfInBounds_toArray, List.set_cons_zero, List.set_cons_succ])
    refine wpAnyH_ready (rs := [10]) (by kernel_rfl) (by simp) ?_
    refine AllReadyH.cons (o := { dst := some 25, op := Op.call { callee := Callee.builtin Builtin.append, args := #[Operand.tmp 18, Operand.tmp 24], argTypes := #[22, 22] }, type := 22, pos := "l08_thing.go:29", after := #[{ on := 3, ground := Ground.data }, { on := 9, ground := Ground.data }, { on := 9, ground := Ground.chain }], guard := none }) rfl (fun K hK => ?_) AllReadyH.nil
    refine Sl.step_app2 (k := .u8) (B := w.heap.size) (v := v18) (l := (appName l3 lc)) (m := (Sl.encs [f, s])) rfl _ _ (by rfl) Tryz.underlying22 Sl.elemBYTE rfl (by rfl) (by rfl) ?_ ?_ ?_ (by decide) ?_ ?_
    · with_reducible exact O_v18.out
    · with_reducible exact H_v24.out
    · exact HLT.out
    · exact BB.out.size
    intro v25 wn4 ho hg
    replace BB := Lib.hid (BB.out.grown hg BB.out.size (fun g e => (O_v18.out.lt g e).1))
    have O_v25 := Lib.hid ho; clear ho
    clear hg
    clear hHeld
    refine hK.out _ _ ?_ (fun hHeld => ?_)
    · (try dsimp only); exact ⟨kc K2.out BB.out, kc K3.out BB.out, kc K4.out BB.out⟩
    clear hK K
    (try simp only [Act.put, List.setIfInBounds_toArray, List.set_cons_zero, List.set_cons_succ])
    refine wpAnyH_take (i := 11) (oi := { dst := some 2, op := Op.assign (Operand.tmp 25), type := 22, pos := "l08_thing.go:29", after := #[{ on := 10, ground := Ground.data }, { on := 10, ground := Ground.chain }, { on := 0, ground := Ground.phase }, { on := 1, ground := Ground.phase }, { on := 2, ground := Ground.phase }, { on := 3, ground := Ground.phase }, { on := 4, ground := Ground.phase }, { on := 5, ground := Ground.phase }, { on := 6, ground := Ground.phase }, { on := 7, ground := Ground.phase }, { on := 8, ground := Ground.phase }, { on := 9, ground := Ground.phase }, { on := 10, ground := Ground.phase }], guard := none }) (v := ?_) rfl (by kernel_rfl) (by kernel_rfl) (by kernel_rfl) (fun _ _ _ h => h) (Or.inl ⟨by rfl, ?_⟩) (by assumption) ?_
    rotate_left
    · intro w' hSw; (try dsimp only at hSw); first | (go_simp; done) | (go_simp; with_reducible rfl)
    (try simp only [Act.put, List.setIfInBounds_toArray, List.set_cons_zero, List.set_cons_succ])
    refine wpAnyH_done (by kernel_rfl) ?_ _
    exact NoPanic.normal (HQ.out _ _ _ _ _ _ _ _ _ _ _ _ _ O_v25.out BB.out)
  refine AllReadyH.cons (o := { dst := some 23, op := Op.buildSlice 47 2 #[(0, Operand.tmp 20), (1, Operand.tmp 22)], type := 47, pos := "l08_thing.go:29", after := #[{ on := 5, ground := Ground.data }, { on := 7, ground := Ground.data }], guard := none }) rfl (fun K hK => ?_) AllReadyH.nil
  go_simp
  have hb : Below wd.heap.size wd (wd.alloc (.cells #[.int .i64 f, .int .i64 s] 3)) := (Below.refl _ _).alloc (Nat.le_refl _) _
  obtain ⟨bb, hbb⟩ : ∃ b, b = wd.heap.size := ⟨_, rfl⟩
  have HF := Lib.hid (Sl.Own.holds (own_two 3 wd f s bb hbb))
  rw [← hbb]
  clear hbb
  replace BB := Lib.hid (BB.out.trans (hb.mono BB.out.size))
  clear hb
  generalize wd.alloc (.cells #[.int .i64 f, .int .i64 s] 3) = wn5 at *
  clear hHeld
  refine hK.out _ _ ?_ (fun hHeld => ?_)
  · (try dsimp only); exact ⟨kc K2.out BB.out, kc K3.out BB.out, kc K4.out BB.out⟩
  clear hK K
  (try simp only [Act.put, List.setIfInBounds_toArray, List.set_cons_zero, List.set_cons_succ])
  refine wpAnyH_ready (rs := [3]) (by kernel_rfl) (by simp) ?_
  refine AllReadyH.cons (o := { dst := some 18, op := Op.call { callee := Callee.value (Operand.func 50), args := #[Operand.tmp 15, Operand.tmp 17], argTypes := #[22, 26] }, type := 22, pos := "l08_thing.go:29", after := #[{ on := 0, ground := Ground.data }, { on := 2, ground := Ground.data }], guard := none }) rfl (fun K hK => ?_) AllReadyH.nil
  go_simp
  refine (specAppendName _ _ l3 lc _ (H_3.out.on BB.out) (H_c.out.on BB.out) HL3.out HLC.out).mono ?_
  rintro e wn6 ⟨v18, rfl, ho, hb⟩
  have O_v18 := Lib.hid (Sl.Own.mono ho BB.out.size); clear ho
  replace HF := Lib.hid (HF.out.on hb)
  replace BB := Lib.hid (BB.out.trans (hb.mono BB.out.size))
  clear hb
  (try go_wp2_with fail)
  clear hHeld
  refine hK.out _ _ ?_ (fun hHeld => ?_)
  · (try dsimp only); exact ⟨kc K2.out BB.out, kc K3.out BB.out, kc K4.out BB.out⟩
  clear hK K
  (try simp only [Act.put, List.setIfInBounds_toArray, List.set_cons_zero, List.set_cons_succ])
  refine wpAnyH_ready (rs := [9]) (by kernel_rfl) (by simp) ?_
  refine AllReadyH.cons (o := { dst := some 24, op := Op.call { callee := Callee.value (Operand.func 51), args := #[Operand.tmp 23], argTypes := #[47] }, type := 22, pos := "l08_thing.go:29", after := #[{ on := 8, ground := Ground.data }, { on := 3, ground := Ground.chain }], guard := none }) rfl (fun K hK => ?_) AllReadyH.nil
  go_simp
  refine (Sl.specEncodeInts _ [f, s] _ HF.out (by simp)).mono ?_
  rintro e wn7 ⟨v24, rfl, ho, hb⟩
  obtain ⟨g_24, n_24, c_24, rfl, ho⟩ := own_some ho HE.out
  have H_v24 := Lib.hid ho.holds; clear ho
  replace HF := Lib.hid (HF.out.on hb)
  replace O_v18 := Lib.hid (O_v18.out.on hb)
  replace BB := Lib.hid (BB.out.trans (hb.mono BB.out.size))
  clear hb
  (try go_wp2_with fail)
  clear hHeld
  refine hK.out _ _ ?_ (fun hHeld => ?_)
  · (try dsimp only); exact ⟨kc K2.out BB.out, kc K3.out BB.out, kc K4.out BB.out⟩
  clear hK K
  (try simp only [Act.put, List.setIfInBounds_toArray, List.set_cons_zero, List.set_cons_succ])
  refine wpAnyH_ready (rs := [10]) (by kernel_rfl) (by simp) ?_
  refine AllReadyH.cons (o := { dst := some 25, op := Op.call { callee := Callee.builtin Builtin.append, args := #[Operand.tmp 18, Operand.tmp 24], argTypes := #[22, 22] }, type := 22, pos := "l08_thing.go:29", after := #[{ on := 3, ground := Ground.data }, { on := 9, ground := Ground.data }, { on := 9, ground := Ground.chain }], guard := none }) rfl (fun K hK => ?_) AllReadyH.nil
  refine Sl.step_app2 (k := .u8) (B := w.heap.size) (v := v18) (l := (appName l3 lc)) (m := (Sl.encs [f, s])) rfl _ _ (by rfl) Tryz.underlying22 Sl.elemBYTE rfl (by rfl) (by rfl) ?_ ?_ ?_ (by decide) ?_ ?_
  · with_reducible exact O_v18.out
  · with_reducible exact H_v24.out
  · exact HLT.out
  · exact BB.out.size
  intro v25 wn8 ho hg
  replace BB := Lib.hid (BB.out.grown hg BB.out.size (fun g e => (O_v18.out.lt g e).1))
  have O_v25 := Lib.hid ho; clear ho
  clear hg
  clear hHeld
  refine hK.out _ _ ?_ (fun hHeld => ?_)
  · (try dsimp only); exact ⟨kc K2.out BB.out, kc K3.out BB.out, kc K4.out BB.out⟩
  clear hK K
  (try simp only [Act.put, List.setIfInBounds_toArray, List.set_cons_zero, List.set_cons_succ])
  refine wpAnyH_take (i := 11) (oi := { dst := some 2, op := Op.assign (Operand.tmp 25), type := 22, pos := "l08_thing.go:29", after := #[{ on := 10, ground := Ground.data }, { on := 10, ground := Ground.chain }, { on := 0, ground := Ground.phase }, { on := 1, ground := Ground.phase }, { on := 2, ground := Ground.phase }, { on := 3, ground := Ground.phase }, { on := 4, ground := Ground.phase }, { on := 5, ground := Ground.phase }, { on := 6, ground := Ground.phase }, { on := 7, ground := Ground.phase }, { on := 8, ground := Ground.phase }, { on := 9, ground := Ground.phase }, { on := 10, ground := Ground.phase }], guard := none }) (v := ?_) rfl (by kernel_rfl) (by kernel_rfl) (by kernel_rfl) (fun _ _ _ h => h) (Or.inl ⟨by rfl, ?_⟩) (by assumption) ?_
  rotate_left
  · intro w' hSw; (try dsimp only at hSw); first | (go_simp; done) | (go_simp; with_reducible rfl)
  (try simp only [Act.put, List.setIfInBounds_toArray, List.set_cons_zero, List.set_cons_succ])
  refine wpAnyH_done (by kernel_rfl) ?_ _
  exact NoPanic.normal (HQ.out _ _ _ _ _ _ _ _ _ _ _ _ _ O_v25.out BB.out)

set_option maxHeartbeats 4000000 in
theorem specEncodeData (a b c : Value) (x : Dt) (w : World) (h : DHold w a b c x) (hl : bulkD x ≤ 1200000) :
    Calls Tryz.prog 15 #[.agg (dc a b c x.2.2.2.1 x.2.2.2.2)] w (Sl.GivesB w (encD x)) := by
  obtain ⟨l, m, k, f, s⟩ := x
  simp only
  have hl1 : bulk l ≤ 1200000 := by unfold bulkD at hl; simp only at hl; omega
  have hl2 : m.length ≤ 1200000 := by unfold bulkD at hl; simp only at hl; omega
  have hl3 : bulk k ≤ 1200000 := by unfold bulkD at hl; simp only at hl; omega
  obtain ⟨xa, na, ca, xb, nb, cb, xc, nc, cc, rfl, rfl, rfl⟩ := h.shape
  obtain ⟨q, hq⟩ : ∃ q, validD (l, m, k, f, s) = q := ⟨_, rfl⟩
  have HQ := Lib.hid hq
  have HLT := Lib.hid (show ((appName (appName [] l ++ Var.var m.length ++ m) k).length + (Sl.encs [f, s]).length) * 8 ≤ 140737488355328 by
    have h1 := encB_len l m
    have h2 := pname_len (appName [] l ++ Var.var m.length ++ m) k
    have h3 := encs2_len f s
    omega)
  have HL1 := Lib.hid hl1; have HL2 := Lib.hid hl2; have HL3 := Lib.hid hl3
  have HB := Lib.hid ((Below.refl w.heap.size w).alloc (Nat.le_refl _) (.cells (dc (.slice xa na ca) (.slice xb nb cb) (.slice xc nc cc) f s) 28))
  have H0 := Lib.hid (h.on HB.out)
  have HX := Lib.hid (Ret.Blk.new w (dc (.slice xa na ca) (.slice xb nb cb) (.slice xc nc cc) f s) 28)
  clear h hl
  go_enter Tryz.func15, Tryz.ntmps15
  go_wp2_with fail
  refine (specValidData _ _ _ (l, m, k, f, s) _ H0.out (by simp only; omega) (by simp only; omega)).mono ?_
  rintro e w1 ⟨rfl, hb⟩
  rw [hq]
  replace HX := Lib.hid (HX.out.on hb); replace H0 := Lib.hid (H0.out.on hb)
  replace HB := Lib.hid (HB.out.trans (hb.mono HB.out.size)); clear hb hl1 hl2 hl3 hq
  cases q with
  | false =>
    have HV : Hid (encD (l, m, k, f, s) = []) := Lib.hid (if_neg (by rw [HQ.out]; simp))
    have HE := Lib.hid (Sl.own_empty .u8 5 w1)
    have HBE := Lib.hid (HB.out.alloc HB.out.size (.cells #[] 5))
    go_wp2_with fail
    go_ret
    exact ⟨_, rfl, by rw [HV.out]; exact HE.out.mono HB.out.size, HBE.out⟩
  | true =>
    have HV : Hid (encD (l, m, k, f, s) = appName (appName [] l ++ Var.var m.length ++ m) k ++ Sl.encs [f, s]) := Lib.hid (if_pos HQ.out)
    have hv := validD_iff.1 HQ.out
    have HEN := Lib.hid (encs2_pos (f := f) (s := s) hv.2.2.2.2.1)
    have HL3L := Lib.hid (show (appName [] l ++ Var.var m.length ++ m).length ≤ 2000000 by
      have h1 := encB_len l m
      have h2 := bulk_valid hv.1
      have h3 := hv.2.2.1
      simp only at h2 h3
      omega)
    clear hv
    go_wp2_with fail
    refine encspec3 (Lib.hid H0.out.1) (Lib.hid H0.out.2.1) HL1 HL2 (Lib.hid (HX.out.cell 0)) (Lib.hid (HX.out.cell 1)) (Lib.hid (HX.out.cell 2)) (Lib.hid (HX.out.cell 3)) (Lib.hid (HX.out.cell 4)) ?_
    intro u8 u9 u10 u11 u12 u13 u14 y3 w2 ho hb
    have HO3 := Lib.hid ho
    replace HX := Lib.hid (HX.out.on hb); replace H0 := Lib.hid (H0.out.on hb)
    replace HB := Lib.hid (HB.out.trans (hb.mono HB.out.size)); clear ho hb
    go_wp2_with fail
    refine encS4 HO3 (Lib.hid H0.out.2.2) HL3 HL3L HEN HLT (Lib.hid (HX.out.cell 2)) (Lib.hid (HX.out.cell 3)) (Lib.hid (HX.out.cell 4)) ?_
    intro u15 u16 u17 u18 u19 u20 u21 u22 u23 u24 u25 v25 w3 ho hb
    have HO := Lib.hid ho
    have HB3 := Lib.hid (HB.out.trans (hb.mono HB.out.size))
    clear ho hb
    go_wp2_with fail
    go_ret
    exact ⟨_, rfl, by rw [HV.out]; exact HO.out.mono HB.out.size, HB3.out⟩

set_option maxHeartbeats 4000000 in
theorem implEncodeData (a b c : Value) (x : Dt) (w : World) (h : DHold w a b c x) (hl : bulkD x ≤ 1200000) :
    Calls Tryz.prog 6 #[.agg (dc a b c x.2.2.2.1 x.2.2.2.2)] w (Sl.GivesB w (encD x)) := by
  obtain ⟨l, m, k, f, s⟩ := x
  simp only
  have hl1 : bulk l ≤ 1200000 := by unfold bulkD at hl; simp only at hl; omega
  have hl2 : m.length ≤ 1200000 := by unfold bulkD at hl; simp only at hl; omega
  have hl3 : bulk k ≤ 1200000 := by unfold bulkD at hl; simp only at hl; omega
  obtain ⟨xa, na, ca, xb, nb, cb, xc, nc, cc, rfl, rfl, rfl⟩ := h.shape
  obtain ⟨q, hq⟩ : ∃ q, validD (l, m, k, f, s) = q := ⟨_, rfl⟩
  have HQ := Lib.hid hq
  have HLT := Lib.hid (show ((appName (appName [] l ++ Var.var m.length ++ m) k).length + (Sl.encs [f, s]).length) * 8 ≤ 140737488355328 by
    have h1 := encB_len l m
    have h2 := pname_len (appName [] l ++ Var.var m.length ++ m) k
    have h3 := encs2_len f s
    omega)
  have HL1 := Lib.hid hl1; have HL2 := Lib.hid hl2; have HL3 := Lib.hid hl3
  have HB := Lib.hid ((Below.refl w.heap.size w).alloc (Nat.le_refl _) (.cells (dc (.slice xa na ca) (.slice xb nb cb) (.slice xc nc cc) f s) 28))
  have H0 := Lib.hid (h.on HB.out)
  have HX := Lib.hid (Ret.Blk.new w (dc (.slice xa na ca) (.slice xb nb cb) (.slice xc nc cc) f s) 28)
  clear h hl
  go_enter Tryz.func6, Tryz.ntmps6
  go_wp2_with fail
  refine (implValidData _ _ _ (l, m, k, f, s) _ H0.out (by simp only; omega) (by simp only; omega)).mono ?_
  rintro e w1 ⟨rfl, hb⟩
  rw [hq]
  replace HX := Lib.hid (HX.out.on hb); replace H0 := Lib.hid (H0.out.on hb)
  replace HB := Lib.hid (HB.out.trans (hb.mono HB.out.size)); clear hb hl1 hl2 hl3 hq
  cases q with
  | false =>
    have HV : Hid (encD (l, m, k, f, s) = []) := Lib.hid (if_neg (by rw [HQ.out]; simp))
    have HE := Lib.hid (Sl.own_empty .u8 5 w1)
    have HBE := Lib.hid (HB.out.alloc HB.out.size (.cells #[] 5))
    go_wp2_with fail
    go_ret
    exact ⟨_, rfl, by rw [HV.out]; exact HE.out.mono HB.out.size, HBE.out⟩
  | true =>
    have HV : Hid (encD (l, m, k, f, s) = appName (appName [] l ++ Var.var m.length ++ m) k ++ Sl.encs [f, s]) := Lib.hid (if_pos HQ.out)
    have hv := validD_iff.1 HQ.out
    have HEN := Lib.hid (encs2_pos (f := f) (s := s) hv.2.2.2.2.1)
    have HL3L := Lib.hid (show (appName [] l ++ Var.var m.length ++ m).length ≤ 2000000 by
      have h1 := encB_len l m
      have h2 := bulk_valid hv.1
      have h3 := hv.2.2.1
      simp only at h2 h3
      omega)
    clear hv
    go_wp2_with fail
    refine encimpl3 (Lib.hid H0.out.1) (Lib.hid H0.out.2.1) HL1 HL2 (Lib.hid (HX.out.cell 0)) (Lib.hid (HX.out.cell 1)) ?_
    intro u8 u9 u10 u11 u12 u13 y3 w2 ho hb
    have HO3 := Lib.hid ho
    replace HX := Lib.hid (HX.out.on hb); replace H0 := Lib.hid (H0.out.on hb)
    replace HB := Lib.hid (HB.out.trans (hb.mono HB.out.size)); clear ho hb
    have q2 : w2.cell? ⟨w.heap.size, 2, none⟩ = some (.slice xc nc cc) := HX.out.cell 2
    go_wp2_with fail
    clear q2
    refine (implAppendName _ _ _ k _ HO3.out H0.out.2.2 HL3L.out HL3.out).mono ?_
    rintro e w3 ⟨v17, rfl, ho, hb⟩
    have O17 := Lib.hid (ho.mono HB.out.size)
    replace HX := Lib.hid (HX.out.on hb)
    replace HB := Lib.hid (HB.out.trans (hb.mono HB.out.size)); clear ho hb
    go_wp2_with fail
    refine (numbersD w.heap.size _ _ _ f s _ HX.out).mono ?_
    rintro e w4 ⟨bb, rfl, ho, hb⟩
    have O18 := Lib.hid ho.holds
    replace O17 := Lib.hid (O17.out.on hb)
    replace HB := Lib.hid (HB.out.trans (hb.mono HB.out.size)); clear ho hb
    go_wp2_with fail
    refine (Sl.implEncodeInts _ [f, s] _ O18.out (by simp)).mono ?_
    rintro e w5 ⟨v19, rfl, ho, hb⟩
    obtain ⟨g19, n19, c19, rfl, ho⟩ := own_some ho HEN.out
    have O19 := Lib.hid ho.holds
    replace O17 := Lib.hid (O17.out.on hb)
    replace HB := Lib.hid (HB.out.trans (hb.mono HB.out.size)); clear ho hb
    go_wp2_with (at_builtin; refine Sl.wpList_app (k := .u8) (B := w.heap.size) (l := appName (appName [] l ++ Var.var m.length ++ m) k) (m := Sl.encs [f, s]) rfl _ _ rfl Tryz.underlying22 Sl.elemBYTE rfl rfl rfl O17.out O19.out HLT.out (by decide) HB.out.size ?_)
    intro v20 w6 ho hg
    have HO := Lib.hid ho
    have HB3 := Lib.hid (HB.out.grown hg HB.out.size (fun g e => (O17.out.lt g e).1))
    clear ho hg
    go_wp2_with fail
    go_ret
    exact ⟨_, rfl, by rw [HV.out, List.append_assoc (appName [] l)]; exact HO.out, HB3.out⟩
end Go.Proofs.YtbooamnlocobfaaGreat.Row
/- Contract of the program's EqualData. No conditions but that lengths fit. -/
namespace Go.Proofs.YtbooamnlocobfaaGreat.Row
open Go.ChangeShapes Go.WideShapes Go.ChangeAt Go.RowKit Go.Instr
set_option linter.unusedVariables false
set_option maxRecDepth 100000

set_option maxHeartbeats 4000000 in
theorem implEqualData (a b c a2 b2 c2 : Value) (x y : Dt) (w : World) (q : Bool) (hq : decide (x = y) = q) (h : DHold w a b c x) (g : DHold w a2 b2 c2 y) (hB : Sl.Byt x.2.1) (gB : Sl.Byt y.2.1) (h1 : x.1.length ≤ 9000000) (h2 : x.2.1.length ≤ 9000000) (h3 : x.2.2.1.length ≤ 9000000) (g1 : y.1.length ≤ 9000000) (g2 : y.2.1.length ≤ 9000000) (g3 : y.2.2.1.length ≤ 9000000) :
    Calls Tryz.prog 21 #[.agg (dc a b c x.2.2.2.1 x.2.2.2.2), .agg (dc a2 b2 c2 y.2.2.2.1 y.2.2.2.2)] w fun e w' => e = .returned (.bool q) ∧ Below w.heap.size w w' := by
  obtain ⟨l, m, k, f, s⟩ := x
  obtain ⟨l2, m2, k2, f2, s2⟩ := y
  simp only at h1 h2 h3 g1 g2 g3 hB gB ⊢
  obtain ⟨xa, na, ca, xb, nb, cb, xc, nc, cc, rfl, rfl, rfl⟩ := h.shape
  obtain ⟨ua, va, oa, ub, vb, ob, uc, vc, oc, rfl, rfl, rfl⟩ := g.shape
  have hb0 := (Below.refl w.heap.size w).alloc (Nat.le_refl _) (.cells (dc (.slice xa na ca) (.slice xb nb cb) (.slice xc nc cc) f s) 28)
  have HB := Lib.hid (hb0.alloc (by simp) (.cells (dc (.slice ua va oa) (.slice ub vb ob) (.slice uc vc oc) f2 s2) 28))
  have H0 := Lib.hid h; have G0 := Lib.hid g; have HY1 := Lib.hid hB; have HY2 := Lib.hid gB
  have HX := Lib.hid ((Ret.Blk.new w (dc (.slice xa na ca) (.slice xb nb cb) (.slice xc nc cc) f s) 28).on ((Below.refl _ _).alloc (Nat.le_refl _) (.cells (dc (.slice ua va oa) (.slice ub vb ob) (.slice uc vc oc) f2 s2) 28)))
  have HY := Lib.hid (Ret.Blk.new' (w := w.alloc (.cells (dc (.slice xa na ca) (.slice xb nb cb) (.slice xc nc cc) f s) 28)) (n := w.heap.size + 1) (dc (.slice ua va oa) (.slice ub vb ob) (.slice uc vc oc) f2 s2) 28 (by simp))
  have HQ := Lib.hid hq
  clear h g hq hb0 hB gB
  go_enter Tryz.func21, Tryz.ntmps21
  go_wp2_with fail
  refine (implEqualNames _ _ l l2 _ (H0.out.on HB.out).1 (G0.out.on HB.out).1 (by omega) (by omega)).mono ?_
  rintro e w1 ⟨rfl, hb⟩
  replace HX := Lib.hid (HX.out.on hb); replace HY := Lib.hid (HY.out.on hb)
  replace HB := Lib.hid (HB.out.trans (hb.mono HB.out.size)); clear hb
  have q0 : w1.cell? ⟨w.heap.size, 0, none⟩ = some (.slice xa na ca) := HX.out.cell 0
  have q1 : w1.cell? ⟨w.heap.size, 1, none⟩ = some (.slice xb nb cb) := HX.out.cell 1
  have q2 : w1.cell? ⟨w.heap.size, 2, none⟩ = some (.slice xc nc cc) := HX.out.cell 2
  have q3 : w1.cell? ⟨w.heap.size, 3, none⟩ = some (.int .i64 f) := HX.out.cell 3
  have q4 : w1.cell? ⟨w.heap.size, 4, none⟩ = some (.int .i64 s) := HX.out.cell 4
  have p0 : w1.cell? ⟨w.heap.size + 1, 0, none⟩ = some (.slice ua va oa) := HY.out.cell 0
  have p1 : w1.cell? ⟨w.heap.size + 1, 1, none⟩ = some (.slice ub vb ob) := HY.out.cell 1
  have p2 : w1.cell? ⟨w.heap.size + 1, 2, none⟩ = some (.slice uc vc oc) := HY.out.cell 2
  have p3 : w1.cell? ⟨w.heap.size + 1, 3, none⟩ = some (.int .i64 f2) := HY.out.cell 3
  have p4 : w1.cell? ⟨w.heap.size + 1, 4, none⟩ = some (.int .i64 s2) := HY.out.cell 4
  by_cases e1 : l = l2
  · rw [eqB_true e1]
    go_wp2_with fail
    clear q0 q1 q2 q3 q4 p0 p1 p2 p3 p4
    refine (Sl.implEqualBytes _ _ m m2 _ (H0.out.on HB.out).2.1 (G0.out.on HB.out).2.1 HY1.out HY2.out).mono ?_
    rintro e w2 ⟨rfl, rfl⟩
    have q0 : w1.cell? ⟨w.heap.size, 0, none⟩ = some (.slice xa na ca) := HX.out.cell 0
    have q1 : w1.cell? ⟨w.heap.size, 1, none⟩ = some (.slice xb nb cb) := HX.out.cell 1
    have q2 : w1.cell? ⟨w.heap.size, 2, none⟩ = some (.slice xc nc cc) := HX.out.cell 2
    have q3 : w1.cell? ⟨w.heap.size, 3, none⟩ = some (.int .i64 f) := HX.out.cell 3
    have q4 : w1.cell? ⟨w.heap.size, 4, none⟩ = some (.int .i64 s) := HX.out.cell 4
    have p0 : w1.cell? ⟨w.heap.size + 1, 0, none⟩ = some (.slice ua va oa) := HY.out.cell 0
    have p1 : w1.cell? ⟨w.heap.size + 1, 1, none⟩ = some (.slice ub vb ob) := HY.out.cell 1
    have p2 : w1.cell? ⟨w.heap.size + 1, 2, none⟩ = some (.slice uc vc oc) := HY.out.cell 2
    have p3 : w1.cell? ⟨w.heap.size + 1, 3, none⟩ = some (.int .i64 f2) := HY.out.cell 3
    have p4 : w1.cell? ⟨w.heap.size + 1, 4, none⟩ = some (.int .i64 s2) := HY.out.cell 4
    by_cases e2 : m = m2
    · rw [Sl.eqB_true e2]
      go_wp2_with fail
      clear q0 q1 q2 q3 q4 p0 p1 p2 p3 p4
      refine (implEqualNames _ _ k k2 _ (H0.out.on HB.out).2.2 (G0.out.on HB.out).2.2 (by omega) (by omega)).mono ?_
      rintro e w3 ⟨rfl, hb⟩
      replace HX := Lib.hid (HX.out.on hb); replace HY := Lib.hid (HY.out.on hb)
      replace HB := Lib.hid (HB.out.trans (hb.mono HB.out.size)); clear hb
      have q0 : w3.cell? ⟨w.heap.size, 0, none⟩ = some (.slice xa na ca) := HX.out.cell 0
      have q1 : w3.cell? ⟨w.heap.size, 1, none⟩ = some (.slice xb nb cb) := HX.out.cell 1
      have q2 : w3.cell? ⟨w.heap.size, 2, none⟩ = some (.slice xc nc cc) := HX.out.cell 2
      have q3 : w3.cell? ⟨w.heap.size, 3, none⟩ = some (.int .i64 f) := HX.out.cell 3
      have q4 : w3.cell? ⟨w.heap.size, 4, none⟩ = some (.int .i64 s) := HX.out.cell 4
      have p0 : w3.cell? ⟨w.heap.size + 1, 0, none⟩ = some (.slice ua va oa) := HY.out.cell 0
      have p1 : w3.cell? ⟨w.heap.size + 1, 1, none⟩ = some (.slice ub vb ob) := HY.out.cell 1
      have p2 : w3.cell? ⟨w.heap.size + 1, 2, none⟩ = some (.slice uc vc oc) := HY.out.cell 2
      have p3 : w3.cell? ⟨w.heap.size + 1, 3, none⟩ = some (.int .i64 f2) := HY.out.cell 3
      have p4 : w3.cell? ⟨w.heap.size + 1, 4, none⟩ = some (.int .i64 s2) := HY.out.cell 4
      by_cases e3 : k = k2
      · rw [eqB_true e3]
        go_wp2_with fail
        clear q0 q1 q2 q3 q4 p0 p1 p2 p3 p4
        refine (numbersD w.heap.size _ _ _ f s _ HX.out).mono ?_
        rintro e w4 ⟨b4, rfl, ho, hb⟩
        have O4 := Lib.hid ho.holds
        replace HX := Lib.hid (HX.out.on hb); replace HY := Lib.hid (HY.out.on hb)
        replace HB := Lib.hid (HB.out.trans (hb.mono HB.out.size)); clear ho hb
        go_wp2_with fail
        refine (numbersD (w.heap.size + 1) _ _ _ f2 s2 _ HY.out).mono ?_
        rintro e w5 ⟨b5, rfl, ho, hb⟩
        have O5 := Lib.hid ho.holds
        replace O4 := Lib.hid (O4.out.on hb)
        replace HB := Lib.hid (HB.out.trans (hb.mono HB.out.size)); clear ho hb
        obtain ⟨z, hz⟩ : ∃ z, Sl.eqB [f, s] [f2, s2] = z := ⟨_, rfl⟩
        have HE : Hid (q = z) := Lib.hid (by rw [← HQ.out, ← hz]; simp [e1, e2, e3, Sl.eqB])
        have HZ := Lib.hid hz
        clear e1 e2 e3 hz
        go_wp2_with fail
        refine (Sl.implEqualInts _ _ [f, s] [f2, s2] _ O4.out O5.out (by simp) (by simp)).mono ?_
        rintro e w6 ⟨rfl, hb⟩
        rw [HZ.out]
        replace HB := Lib.hid (HB.out.trans (hb.mono HB.out.size)); clear hb
        go_wp2_with fail
        go_ret
        exact ⟨ret_bool HE.out.symm, HB.out⟩
      · rw [eqB_false e3]
        have HE : Hid (q = false) := Lib.hid (by rw [← HQ.out]; simp [e3])
        clear e3
        go_wp2
        go_ret
        exact ⟨ret_bool HE.out.symm, HB.out⟩
    · rw [Sl.eqB_false e2]
      have HE : Hid (q = false) := Lib.hid (by rw [← HQ.out]; simp [e2])
      clear e2
      go_wp2
      go_ret
      exact ⟨ret_bool HE.out.symm, HB.out⟩
  · rw [eqB_false e1]
    have HE : Hid (q = false) := Lib.hid (by rw [← HQ.out]; simp [e1])
    clear e1
    go_wp2
    go_ret
    exact ⟨ret_bool HE.out.symm, HB.out⟩
end Go.Proofs.YtbooamnlocobfaaGreat.Row
/- Contract of the program's ReadName. No conditions but that lengths fit. -/
namespace Go.Proofs.YtbooamnlocobfaaGreat.Row
open Go.ChangeShapes Go.WideShapes Go.ChangeAt Go.RowKit Go.Instr
set_option linter.unusedVariables false
set_option maxRecDepth 100000

theorem rdP_more : ∀ (k : Nat) (b : List Int) (i : Int) (acc l : List ByteArray) (j : Int), rdP k b i acc = some (l, j) → ∃ r, l = acc ++ r
  | 0, _, _, acc, l, j, h => ⟨[], by simp only [rdP, Option.some.injEq, Prod.mk.injEq] at h; simp [h.1]⟩
  | k + 1, b, i, acc, l, j, h => by
    unfold rdP at h
    split at h
    · obtain ⟨r, hr⟩ := rdP_more k b _ _ l j h
      exact ⟨_, by rw [hr, List.append_assoc]⟩
    · cases h
/-- A part that is not valid: nothing is read. -/
theorem rdP_bad {k : Nat} {b : List Int} {i : Int} {acc : List ByteArray} {x : ByteArray} (hx : x ∈ acc) (hv : validP x = false) : (match rdP k b i acc with
    | none => (([], 0, false) : List ByteArray × Int × Bool)
    | some (l, j) => if validN l = true then (l, j, true) else ([], 0, false)) = ([], 0, false) := by
  cases h : rdP k b i acc with
  | none => rfl
  | some p =>
    obtain ⟨l, j⟩ := p
    obtain ⟨r, rfl⟩ := rdP_more k b i acc l j h
    show (if validN (acc ++ r) = true then _ else _) = _
    refine if_neg (fun e => ?_)
    have := (validN_iff.1 e).2 x (List.mem_append_left _ hx)
    rw [hv] at this; cases this
theorem own_setne {α : Type} [Inhabited α] {enc : α → Value} {e : TypeId} {B g i : Nat} {w : World} {v u : Value} {l : List α} (h : Own e enc B w v l) (hg : some g ≠ v.ownBlock) : Own e enc B (w.setCell ⟨g, i, none⟩ u) v l := h.grown (Ret.grownBy_set w ⟨g, i, none⟩ u) (Or.inr fun e => hg e.symm)

set_option maxHeartbeats 8000000 in
theorem implReadName (v : Value) (b : List Int) (i : Int) (w : World) (h : Sl.Holds .u8 w v b) (hB : Sl.Byt b) (hl : b.length ≤ 100000000) :
    Calls Tryz.prog 74 #[v, .int .i64 i] w (GivesN3 w (rdN b i).1 (rdN b i).2.1 (rdN b i).2.2) := by
  obtain ⟨x, cx, rfl, hcx, hh⟩ := h.shape
  obtain ⟨m, hm⟩ : ∃ m, m = b.length := ⟨_, rfl⟩
  rw [← hm] at hcx hh hl ⊢
  have hb0 := (Below.refl w.heap.size w).alloc (Nat.le_refl _) (.cells #[.slice none 0 0] 26)
  have HB0 := Lib.hid hb0
  have HX0 := Lib.hid (Ret.Box.new w (.slice none 0 0) 26)
  have HH0 := Lib.hid hh
  have HBY := Lib.hid hB
  have HM := Lib.hid hm
  have HR := Lib.hid (Sl.implReadVarint _ b i _ (hh.on hb0) hB (by rw [← hm]; exact hl))
  clear h hh hB hb0 hm
  obtain ⟨n, hn⟩ : ∃ n, n = (Var.readV b i).1 := ⟨_, rfl⟩
  obtain ⟨j, hj⟩ : ∃ j, j = (Var.readV b i).2.1 := ⟨_, rfl⟩
  obtain ⟨ok, hok⟩ : ∃ z, z = (Var.readV b i).2.2 := ⟨_, rfl⟩
  rw [← hn, ← hj, ← hok] at HR
  have HNN := Lib.hid hn; have HJ := Lib.hid hj; have HOK := Lib.hid hok
  obtain ⟨i0, hi, hz0, hz1, hz2⟩ := info_parts elemSTR
  have HI := Lib.hid hi; have HZ0 := Lib.hid hz0; have HZ1 := Lib.hid hz1; have HZ2 := Lib.hid hz2
  clear hn hj hok hi hz0 hz1 hz2
  go_enter Tryz.func74, Tryz.ntmps74
  go_wp2_with fail
  refine HR.out.mono ?_
  rintro e w1 ⟨rfl, hb1⟩
  have HXA := Lib.hid (HX0.out.on hb1)
  have HBA := Lib.hid (HB0.out.trans (hb1.mono HB0.out.size))
  clear hb1
  have hx0 := HXA.out.cell
  have hf0 := HXA.out.frozen
  cases ok with
  | false =>
    have HV := Lib.hid (rdN_no (b := b) (i := i) (Or.inl HOK.out.symm))
    have HE := Lib.hid (end0 HXA.out HBA.out)
    go_wp2_with fail
    refine bodyPost_ret (Ret.results_ctt rfl _ _ w.heap.size [_] rfl aggN (Ret.one HE.out.1)) rfl ?_
    rw [HV.out]
    exact ⟨_, rfl, HE.out.2.1, HE.out.2.2⟩
  | true =>
    by_cases h6 : 6 < n
    · have HV := Lib.hid (rdN_no (b := b) (i := i) (Or.inr (by rw [← HNN.out]; exact h6)))
      have HE := Lib.hid (end0 HXA.out HBA.out)
      go_wp2_with fail
      refine bodyPost_ret (Ret.results_ctt rfl _ _ w.heap.size [_] rfl aggN (Ret.one HE.out.1)) rfl ?_
      rw [HV.out]
      exact ⟨_, rfl, HE.out.2.1, HE.out.2.2⟩
    · have hbd := Sl.readV_bounds (l := b) (i := i) HBY.out HOK.out.symm
      rw [← HNN.out, ← HJ.out, ← HM.out] at hbd
      obtain ⟨n, rfl⟩ := Int.eq_ofNat_of_zero_le hbd.1
      obtain ⟨j, rfl⟩ := Int.eq_ofNat_of_zero_le (show 0 ≤ j by omega)
      have HV : Hid (rdN b i = match rdP n b j [] with
        | none => ([], 0, false)
        | some (l, j) => if validN l = true then (l, j, true) else ([], 0, false)) := Lib.hid (by
          rw [rdN_go (by rw [← HNN.out, ← HOK.out]; simp; omega), ← HNN.out, ← HJ.out]; rfl)
      have hn6 : n ≤ 6 := by omega
      have HSZ := Lib.hid (show w.heap.size < w1.heap.size by have := HXA.out.lt; omega)
      clear hbd h6 HR
      go_wp2_with (at_make; refine wpList_make_own _ rfl _ _ 24 rfl w1.heap.size 9 i0 (.string ByteArray.empty) 1 Tryz.underlying24 HI.out HZ0.out HZ1.out _ _ _ n rfl rfl rfl (by rw [HZ2.out]; omega) (by unfold maxLen; omega) (Nat.le_refl _) ?_)
      intro w2 hown hgrow
      have hb2 : Below w1.heap.size w1 w2 := (Below.refl _ _).grown hgrow (Nat.le_refl _) (fun k hk => by cases hk)
      have ho2 : Own 9 Value.string w1.heap.size w2 (.slice (some ⟨w1.heap.size, 0, none⟩) 0 n) [] := hown
      have hal := (Below.refl w2.heap.size w2).alloc (Nat.le_refl _) (.cells #[.slice (some ⟨w1.heap.size, 0, none⟩) 0 n] 26)
      have HO1 := Lib.hid (ho2.on hal)
      have HX1 := Lib.hid ((HXA.out.on hb2).on hal)
      have HY1 := Lib.hid (Ret.Box.new w2 (.slice (some ⟨w1.heap.size, 0, none⟩) 0 n) 26)
      have HB1 := Lib.hid ((HBA.out.trans (hb2.mono HBA.out.size)).trans (hal.mono (Nat.le_trans HBA.out.size hb2.size)))
      have HW12 := Lib.hid hb2.size
      have HGZ := Lib.hid (show w.heap.size < w2.heap.size from Nat.lt_of_lt_of_le HSZ.out hb2.size)
      clear hown hgrow hb2 ho2 hal hx0 hf0 HXA
      go_wp2_with fail
      go_loopw [1, 31] (fun jv iv wr => ∃ (k : Nat) (jj : Int) (acc : List ByteArray) (xa : Option Addr) (na ca : Nat), k ≤ n ∧ iv = .int .i64 k ∧ jv = .int .i64 jj ∧ Hid (na = k) ∧ Hid (bulk acc ≤ 9 * k) ∧ Hid (na = acc.length) ∧ Hid (∀ x ∈ acc, validP x = true) ∧ Hid (rdP n b j [] = rdP (n - k) b jj acc) ∧ Hid (Own 9 Value.string w1.heap.size wr (.slice xa na ca) acc) ∧ Hid (Ret.Box wr w2.heap.size (.slice xa na ca) 26) ∧ Hid (Ret.Box wr w.heap.size (.slice none 0 0) 26) ∧ Hid (Below w.heap.size w wr)) (fun _ iv _ => n - (intOf iv).toNat)
      case atStart => exact ⟨0, j, [], _, 0, n, Nat.zero_le _, rfl, rfl, Lib.hid rfl, Lib.hid (by simp [bulk_nil]), Lib.hid rfl, Lib.hid (fun x hx => by cases hx), Lib.hid rfl, HO1, HY1, HX1, HB1⟩
      case round =>
        obtain ⟨k, jj, acc, xa, na, ca, hk, rfl, rfl, hna, hbk, HNA, HAV, HRD, HO, HY, HX, HB⟩ := hrel
        have hy := HY.out.cell
        have hyf := HY.out.frozen
        have hx := HX.out.cell
        have hxf := HX.out.frozen
        by_cases hlt : k < n
        · have HRB := Lib.hid (Sl.implReadBytes _ b jj 8 wr (HH0.out.on HB.out) HBY.out (by rw [← HM.out]; exact hl))
          go_wp2_with fail
          refine HRB.out.mono ?_
          rintro e w3 ⟨v2, rfl, ho2, hb2⟩
          have h8 := readB8 b jj
          obtain ⟨bs, hbs⟩ : ∃ bs, bs = (Sl.readB b jj 8).1 := ⟨_, rfl⟩
          obtain ⟨j2, hj2⟩ : ∃ j2, j2 = (Sl.readB b jj 8).2.1 := ⟨_, rfl⟩
          obtain ⟨o2, ho2'⟩ : ∃ o2, o2 = (Sl.readB b jj 8).2.2 := ⟨_, rfl⟩
          rw [← hbs] at ho2 h8
          rw [← hj2, ← ho2']
          have HBS := Lib.hid hbs; have HJ2 := Lib.hid hj2; have HO2' := Lib.hid ho2'
          obtain ⟨x2, c2, rfl, hc2, ho2s⟩ := ho2.holds.shape
          have HCV := Lib.hid (fun wx (hx : Below w3.heap.size w3 wx) => Sl.conv_holds (w := wx) (ho2s.on hx))
          have hcv := HCV.out _ (Below.refl _ _)
          have HY2 := Lib.hid (HY.out.on hb2); have HX2 := Lib.hid (HX.out.on hb2); have HO2 := Lib.hid (HO.out.on hb2)
          have HB2 := Lib.hid (HB.out.trans (hb2.mono HB.out.size))
          clear ho2 hb2 hbs hj2 ho2' ho2s hy hyf hx hxf HRB
          have hy2 := HY2.out.cell
          have hyf2 := HY2.out.frozen
          have hx2 := HX2.out.cell
          have hxf2 := HX2.out.frozen
          cases o2 with
          | false =>
            have HV2 : Hid (rdN b i = ([], 0, false)) := Lib.hid (by
              rw [HV.out, HRD.out, show n - k = (n - (k + 1)) + 1 by omega, rdP, if_neg (by rw [← HO2'.out]; simp)])
            have HE := Lib.hid (end0 HX2.out HB2.out)
            go_wp2_with fail
            refine bodyPost_ret (Ret.results_ctt rfl _ _ w.heap.size [_] rfl aggN (Ret.one HE.out.1)) rfl ?_
            rw [HV2.out]
            exact ⟨_, rfl, HE.out.2.1, HE.out.2.2⟩
          | true =>
            have HST := Lib.hid (show rdP (n - k) b jj acc = rdP (n - (k + 1)) b j2 (acc ++ [strOfNums bs]) by
              rw [show n - k = (n - (k + 1)) + 1 by omega, rdP, if_pos HO2'.out.symm, ← HJ2.out, ← HBS.out])
            have HRD4 := Lib.hid (HRD.out.trans HST.out)
            obtain ⟨z, hz⟩ : ∃ z, validP (strOfNums bs) = z := ⟨_, rfl⟩
            have HZ := Lib.hid hz
            go_wp2_with fail
            refine (implValidPart (strOfNums bs) _ (by rw [strOfNums_size]; omega)).mono ?_
            rintro e w4 ⟨rfl, hb4⟩
            rw [hz]
            have HY3 := Lib.hid (HY2.out.on hb4); have HX3 := Lib.hid (HX2.out.on hb4); have HO3 := Lib.hid (HO2.out.on hb4)
            have HB3 := Lib.hid (HB2.out.trans (hb4.mono HB2.out.size))
            have hcv4 := HCV.out _ hb4
            clear hb4 hz hy2 hyf2 hx2 hxf2 hcv
            have hy3 := HY3.out.cell
            have hyf3 := HY3.out.frozen
            have hx3 := HX3.out.cell
            have hxf3 := HX3.out.frozen
            cases z with
            | false =>
              have HV2 : Hid (rdN b i = ([], 0, false)) := Lib.hid (by
                rw [HV.out, HRD4.out]
                exact rdP_bad (x := strOfNums bs) (by simp) HZ.out)
              have HE := Lib.hid (end0 HX3.out HB3.out)
              go_wp2_with fail
              refine bodyPost_ret (Ret.results_ctt rfl _ _ w.heap.size [_] rfl aggN (Ret.one HE.out.1)) rfl ?_
              rw [HV2.out]
              exact ⟨_, rfl, HE.out.2.1, HE.out.2.2⟩
            | true =>
              have hal := (Below.refl w4.heap.size w4).alloc (Nat.le_refl _) (.cells #[.string (strOfNums bs)] 9)
              have HOA := Lib.hid (HO3.out.on hal)
              have HYA := Lib.hid (HY3.out.on hal)
              have HXA := Lib.hid (HX3.out.on hal)
              have HBA := Lib.hid (HB3.out.trans (hal.mono HB3.out.size))
              have HLM := Lib.hid (show (acc.length + [strOfNums bs].length) * 16 ≤ 140737488355328 by rw [← HNA.out, hna.out]; simp; omega)
              have HLX := Lib.hid (show acc.length + [strOfNums bs].length ≤ maxLen by rw [← HNA.out, hna.out]; unfold maxLen; simp; omega)
              have HSB := Lib.hid (show w1.heap.size ≤ (w4.alloc (.cells #[.string (strOfNums bs)] 9)).heap.size by have h1 := HYA.out.lt; have h2 := HW12.out; omega)
              clear hal
              go_wp2_with (at_builtin; refine wpList_app (enc := Value.string) (B := w1.heap.size) (l := acc) (m := [strOfNums bs]) rfl _ _ rfl Tryz.underlying24 elemSTR rfl rfl rfl HOA.out (holds_one Value.string 9 w4 _) oneStr HLM.out HLX.out HSB.out ?_)
              intro v3 w5 ho3 hg3
              obtain ⟨x3, n3, c3, rfl, hn3, -, ho3⟩ := ho3.shapeN
              have HN3 := Lib.hid hn3
              have hn3' : n3 = k + 1 := by rw [hn3, List.length_append, ← HNA.out, hna.out]; rfl
              have HY5 := Lib.hid (HYA.out.grown hg3 (Own.notBox HOA.out HYA.out (by decide)))
              have HX5 := Lib.hid (HXA.out.grown hg3 (Own.notBox HOA.out HXA.out (by decide)))
              have HB5 := Lib.hid (HBA.out.grown hg3 HBA.out.size (fun g e => by have h1 := (HOA.out.lt g e).1; have h2 := HSZ.out; omega))
              have HO5 := Lib.hid ho3
              have hy5 := HY5.out.cell
              have hyf5 := HY5.out.frozen
              have HY6 := Lib.hid (Ret.Box.set HY5.out (.slice x3 n3 c3))
              have HX6 := Lib.hid (HX5.out.grown (Ret.grownBy_set w5 ⟨w2.heap.size, 0, none⟩ (.slice x3 n3 c3)) (by have := HGZ.out; simp; omega))
              have HO6 := Lib.hid (own_setne (g := w2.heap.size) (i := 0) (u := .slice x3 n3 c3) HO5.out (Own.notBox HO5.out HY5.out (by decide)))
              have HB6 := Lib.hid (HB5.out.setCell (p := ⟨w2.heap.size, 0, none⟩) (Nat.le_of_lt HGZ.out) (.slice x3 n3 c3))
              have HBK := Lib.hid (show bulk (acc ++ [strOfNums bs]) ≤ 9 * (k + 1) by
                have := hbk.out
                rw [bulk_append, bulk_one, strOfNums_size]; omega)
              have HAV6 := Lib.hid (show ∀ x ∈ acc ++ [strOfNums bs], validP x = true from fun x hx => (List.mem_append.1 hx).elim (HAV.out x) (fun e => by rw [List.mem_singleton.1 e]; exact HZ.out))
              have HNE := Lib.hid hn3'
              clear ho3 hg3 hn3 hn3' hcv4 hy3 hyf3 hx3 hxf3
              go_wp2_with fail
              go_roundw
              case rel => exact ⟨k + 1, j2, _, x3, n3, c3, by omega, by go_num, rfl, HNE, HBK, HN3, HAV6, HRD4, HO6, HY6, HX6, HB6⟩
              case measure => simp [intOf]; omega
        · obtain rfl : k = n := by omega
          clear hlt
          have HVN : Hid (validN acc = true) := Lib.hid (validN_iff.2 ⟨by rw [← HNA.out, hna.out]; exact hn6, HAV.out⟩)
          have HV2 : Hid (rdN b i = (acc, jj, true)) := Lib.hid (by
            rw [HV.out, HRD.out, Nat.sub_self]
            show (if validN acc = true then _ else _) = _
            rw [if_pos HVN.out])
          have HE1 := Lib.hid (Ret.set_same (v := .slice xa na ca) HX.out.cell)
          have HE2 := Lib.hid ((own_setne (g := w.heap.size) (i := 0) (u := .slice xa na ca) HO.out (Own.notBox HO.out HX.out (by decide))).mono (Nat.le_of_lt HSZ.out))
          have HE3 := Lib.hid (HB.out.setCell (p := ⟨w.heap.size, 0, none⟩) (Nat.le_refl _) (.slice xa na ca))
          go_wp2_with fail
          refine bodyPost_ret (Ret.results_ctt rfl _ _ w.heap.size [_] rfl aggN (Ret.one HE1.out)) rfl ?_
          rw [HV2.out]
          exact ⟨_, rfl, HE2.out, HE3.out⟩
end Go.Proofs.YtbooamnlocobfaaGreat.Row
/- Mathematics of DecodeData. No conditions but that lengths fit. -/
namespace Go.Proofs.YtbooamnlocobfaaGreat.Row
open Go.ChangeShapes Go.WideShapes Go.ChangeAt Go.RowKit Go.Instr
set_option linter.unusedVariables false
set_option maxRecDepth 100000

def d0 : Dt := ([], [], [], 0, 0)
def rN1 (b : List Int) : List ByteArray × Int × Bool := rdN b 0
def rB1 (b : List Int) : List Int × Int × Bool := Sl.readB b (rN1 b).2.1 60
def rN2 (b : List Int) : List ByteArray × Int × Bool := rdN b (rB1 b).2.1
def rI1 (b : List Int) : List Int × Int × Bool := Sl.readIs b (rN2 b).2.1 2
/-- What DecodeData reads. -/
def gotD (b : List Int) : Dt := ((rN1 b).1, (rB1 b).1, (rN2 b).1, Sl.nth (rI1 b).1 0, Sl.nth (rI1 b).1 1)
def okD (b : List Int) : Prop := (rN1 b).2.2 = true ∧ (rB1 b).2.2 = true ∧ (rN2 b).2.2 = true ∧ (rI1 b).2.2 = true
noncomputable def dcD (b : List Int) : Dt × Bool := open Classical in if okD b ∧ (rI1 b).2.1 = b.length ∧ validD (gotD b) = true then (gotD b, true) else (d0, false)
theorem dcD_no {b : List Int} (h : ¬ (okD b ∧ (rI1 b).2.1 = b.length ∧ validD (gotD b) = true)) : dcD b = (d0, false) := if_neg h
theorem dcD_yes {b : List Int} (h : okD b ∧ (rI1 b).2.1 = b.length ∧ validD (gotD b) = true) : dcD b = (gotD b, true) := if_pos h
theorem readI2 {b : List Int} {i : Int} (h : (Sl.readIs b i 2).2.2 = true) : (Sl.readIs b i 2).1.length = 2 := by
  have := Var.readIs_full h
  omega
theorem DOwn.nil (B : Nat) (w : World) : DOwn B w (.slice none 0 0) (.slice none 0 0) (.slice none 0 0) d0 := ⟨Own.nil _ _ _ _, Sl.Own.nil _ _ _ _, Own.nil _ _ _ _, fun g e => by (cases e), fun g e => by (cases e), fun g e => by (cases e)⟩
theorem DOwn.on {B : Nat} {w w' : World} {a b c : Value} {x : Dt} (h : DOwn B w a b c x) (hb : Below w.heap.size w w') : DOwn B w' a b c x := ⟨h.1.on hb, Sl.Own.on h.2.1 hb, h.2.2.1.on hb, h.2.2.2⟩
/-- A packet lies in its result cells. -/
theorem endD {w W : World} {a b c a1 b1 c1 : Value} {f s f1 s1 : Int} {x : Dt} {B : Nat} (hX : Ret.Blk W w.heap.size (dc a1 b1 c1 f1 s1) 28) (ho : DOwn B W a b c x) (hB : w.heap.size < B) (hb : Below w.heap.size w W) :
    Ret.Blk (((((W.setCell ⟨w.heap.size, 0, none⟩ (a)).setCell ⟨w.heap.size, 1, none⟩ (b)).setCell ⟨w.heap.size, 2, none⟩ (c)).setCell ⟨w.heap.size, 3, none⟩ (.int .i64 f)).setCell ⟨w.heap.size, 4, none⟩ (.int .i64 s)) w.heap.size (dc a b c f s) 28 ∧ DOwn w.heap.size (((((W.setCell ⟨w.heap.size, 0, none⟩ (a)).setCell ⟨w.heap.size, 1, none⟩ (b)).setCell ⟨w.heap.size, 2, none⟩ (c)).setCell ⟨w.heap.size, 3, none⟩ (.int .i64 f)).setCell ⟨w.heap.size, 4, none⟩ (.int .i64 s)) a b c x ∧ Below w.heap.size w (((((W.setCell ⟨w.heap.size, 0, none⟩ (a)).setCell ⟨w.heap.size, 1, none⟩ (b)).setCell ⟨w.heap.size, 2, none⟩ (c)).setCell ⟨w.heap.size, 3, none⟩ (.int .i64 f)).setCell ⟨w.heap.size, 4, none⟩ (.int .i64 s)) := by
  obtain ⟨o1, o2, o3, p1, p2, p3⟩ := ho
  exact ⟨(((((hX.set 0 (a)).set 1 (b)).set 2 (c)).set 3 (.int .i64 f)).set 4 (.int .i64 s)), ⟨Own.mono (own_set (g := w.heap.size) (i := 4) (u := .int .i64 s) (own_set (g := w.heap.size) (i := 3) (u := .int .i64 f) (own_set (g := w.heap.size) (i := 2) (u := c) (own_set (g := w.heap.size) (i := 1) (u := b) (own_set (g := w.heap.size) (i := 0) (u := a) o1 hB) hB) hB) hB) hB) (Nat.le_of_lt hB), Sl.Own.mono (sl_own_set (g := w.heap.size) (i := 4) (u := .int .i64 s) (sl_own_set (g := w.heap.size) (i := 3) (u := .int .i64 f) (sl_own_set (g := w.heap.size) (i := 2) (u := c) (sl_own_set (g := w.heap.size) (i := 1) (u := b) (sl_own_set (g := w.heap.size) (i := 0) (u := a) o2 hB) hB) hB) hB) hB) (Nat.le_of_lt hB), Own.mono (own_set (g := w.heap.size) (i := 4) (u := .int .i64 s) (own_set (g := w.heap.size) (i := 3) (u := .int .i64 f) (own_set (g := w.heap.size) (i := 2) (u := c) (own_set (g := w.heap.size) (i := 1) (u := b) (own_set (g := w.heap.size) (i := 0) (u := a) o3 hB) hB) hB) hB) hB) (Nat.le_of_lt hB), p1, p2, p3⟩, (((((hb.setCell (p := ⟨w.heap.size, 0, none⟩) (Nat.le_refl _) (a)).setCell (p := ⟨w.heap.size, 1, none⟩) (Nat.le_refl _) (b)).setCell (p := ⟨w.heap.size, 2, none⟩) (Nat.le_refl _) (c)).setCell (p := ⟨w.heap.size, 3, none⟩) (Nat.le_refl _) (.int .i64 f)).setCell (p := ⟨w.heap.size, 4, none⟩) (Nat.le_refl _) (.int .i64 s))⟩
end Go.Proofs.YtbooamnlocobfaaGreat.Row
/- Contract of the model's DecodeData. No conditions but that lengths fit. -/
namespace Go.Proofs.YtbooamnlocobfaaGreat.Row
open Go.ChangeShapes Go.WideShapes Go.ChangeAt Go.RowKit Go.Instr
set_option linter.unusedVariables false
set_option maxRecDepth 100000

set_option maxHeartbeats 8000000 in
theorem specDecodeData (v : Value) (b : List Int) (w : World) (h : Sl.Holds .u8 w v b) (hB : Sl.Byt b) (hl : b.length ≤ 100000000) :
    Calls Tryz.prog 9 #[v] w (GivesDB w (dcD b).1 (dcD b).2) := by
  unfold GivesDB
  obtain ⟨x, cx, rfl, hcx, hh⟩ := h.shape
  obtain ⟨m, hm⟩ : ∃ m, m = b.length := ⟨_, rfl⟩
  have HL := Lib.hid hl
  rw [← hm] at hcx hh hl ⊢
  have HB := Lib.hid ((Below.refl w.heap.size w).alloc (Nat.le_refl _) (.cells (dc (.slice none 0 0) (.slice none 0 0) (.slice none 0 0) 0 0) 28))
  have HX := Lib.hid (Ret.Blk.new w (dc (.slice none 0 0) (.slice none 0 0) (.slice none 0 0) 0 0) 28)
  have HH := Lib.hid hh; have HBY := Lib.hid hB; have HM := Lib.hid hm
  clear h hh hB hm
  go_enter Tryz.func9, Tryz.ntmps9
  have HR := Lib.hid (specReadName _ b 0 _ (HH.out.on HB.out) HBY.out HL.out)
  rw [show rdN b 0 = rN1 b from rfl] at HR
  obtain ⟨l1, hl1⟩ : ∃ z, z = (rN1 b).1 := ⟨_, rfl⟩
  obtain ⟨j1, hj1⟩ : ∃ z, z = (rN1 b).2.1 := ⟨_, rfl⟩
  obtain ⟨k1, hk1⟩ : ∃ z, z = (rN1 b).2.2 := ⟨_, rfl⟩
  rw [← hl1, ← hj1, ← hk1] at HR
  have HL1 := Lib.hid hl1; have HJ1 := Lib.hid hj1; have HK1 := Lib.hid hk1
  clear hl1 hj1 hk1
  go_wp2_with fail
  refine HR.out.mono ?_
  rintro e w1 ⟨v1, rfl, ho1, hb1⟩
  obtain ⟨x1, n1, c1, rfl, -, -, ho1⟩ := ho1.shapeN
  clear HR
  have SZ := Lib.hid (show w.heap.size + 1 ≤ w1.heap.size by have h5 := hb1.size; simp only [World.size_alloc] at h5; exact h5)
  have hal := (Below.refl w1.heap.size w1).alloc (Nat.le_refl _) (.cells #[.slice x1 n1 c1] 26)
  have O1 := Lib.hid (ho1.on hal)
  have LT1 := Lib.hid (show ∀ g, (.slice x1 n1 c1 : Value).ownBlock = some g → g < w1.heap.size from fun g e => (ho1.lt g e).2)
  have Y1 := Lib.hid (Ret.Box.new w1 (.slice x1 n1 c1) 26)
  have S1 := Lib.hid hb1.size
  replace HX := Lib.hid (HX.out.on hb1); replace HB := Lib.hid (HB.out.trans (hb1.mono HB.out.size))
  replace HX := Lib.hid (HX.out.on hal); replace HB := Lib.hid (HB.out.trans (hal.mono HB.out.size))
  clear ho1 hb1 hal
  cases k1 with
  | false =>
    have HV := Lib.hid (dcD_no (b := b) (fun e => by have h9 := e.1.1; rw [← HK1.out] at h9; cases h9))
    have HE := Lib.hid (endD (f := 0) (s := 0) HX.out (DOwn.nil (w.heap.size + 1) _) (Nat.lt_succ_self _) HB.out)
    have t0 := HX.out.frozen 0; have t1 := HX.out.frozen 1; have t2 := HX.out.frozen 2; have t3 := HX.out.frozen 3; have t4 := HX.out.frozen 4
    have r0 : (w1.alloc (.cells #[.slice x1 n1 c1] 26)).cell? ⟨w.heap.size, 0, none⟩ = some (.slice none 0 0) := HX.out.cell 0
    have r1 : (w1.alloc (.cells #[.slice x1 n1 c1] 26)).cell? ⟨w.heap.size, 1, none⟩ = some (.slice none 0 0) := HX.out.cell 1
    have r2 : (w1.alloc (.cells #[.slice x1 n1 c1] 26)).cell? ⟨w.heap.size, 2, none⟩ = some (.slice none 0 0) := HX.out.cell 2
    have r3 : (w1.alloc (.cells #[.slice x1 n1 c1] 26)).cell? ⟨w.heap.size, 3, none⟩ = some (.int .i64 0) := HX.out.cell 3
    have r4 : (w1.alloc (.cells #[.slice x1 n1 c1] 26)).cell? ⟨w.heap.size, 4, none⟩ = some (.int .i64 0) := HX.out.cell 4
    go_wp2_with fail
    refine bodyPost_ret (Ret.results_ct rfl _ _ w.heap.size (dc (.slice none 0 0) (.slice none 0 0) (.slice none 0 0) 0 0).toList rfl aggD HE.out.1.cells) rfl ?_
    rw [HV.out]
    exact ⟨_, _, _, rfl, HE.out.2.1, HE.out.2.2⟩
  | true =>
    have HR := Lib.hid (Sl.specReadBytes _ b j1 60 (w1.alloc (.cells #[.slice x1 n1 c1] 26)) (HH.out.on HB.out) HBY.out HL.out)
    rw [show Sl.readB b j1 60 = rB1 b by rw [HJ1.out]; rfl] at HR
    obtain ⟨l2, hl2⟩ : ∃ z, z = (rB1 b).1 := ⟨_, rfl⟩
    obtain ⟨j2, hj2⟩ : ∃ z, z = (rB1 b).2.1 := ⟨_, rfl⟩
    obtain ⟨k2, hk2⟩ : ∃ z, z = (rB1 b).2.2 := ⟨_, rfl⟩
    rw [← hl2, ← hj2, ← hk2] at HR
    have HL2 := Lib.hid hl2; have HJ2 := Lib.hid hj2; have HK2 := Lib.hid hk2
    clear hl2 hj2 hk2
    go_wp2_with fail
    refine HR.out.mono ?_
    rintro e w2 ⟨v2, rfl, ho2, hb2⟩
    obtain ⟨x2, n2, c2, rfl, -, -, ho2⟩ := Own.shapeN (enc := Value.int .u8) ho2
    replace ho2 : Sl.Own 5 .u8 _ w2 (.slice x2 n2 c2) l2 := ho2
    clear HR
    have O2 := Lib.hid ho2
    have LT2 := Lib.hid (show ∀ g, (.slice x2 n2 c2 : Value).ownBlock = some g → g < w2.heap.size from fun g e => (Sl.Own.lt ho2 g e).2)
    have GE2 := Lib.hid (show ∀ g, (.slice x2 n2 c2 : Value).ownBlock = some g → w1.heap.size ≤ g from fun g e => by have h5 := (Sl.Own.lt ho2 g e).1; simp only [World.size_alloc] at h5; omega)
    have S2 := Lib.hid (show w1.heap.size + 1 ≤ w2.heap.size by have h5 := hb2.size; simp only [World.size_alloc] at h5; exact h5)
    replace HX := Lib.hid (HX.out.on hb2); replace O1 := Lib.hid (O1.out.on hb2); replace Y1 := Lib.hid (Y1.out.on hb2); replace HB := Lib.hid (HB.out.trans (hb2.mono HB.out.size))
    clear ho2 hb2
    cases k2 with
    | false =>
      have HV := Lib.hid (dcD_no (b := b) (fun e => by have h9 := e.1.2.1; rw [← HK2.out] at h9; cases h9))
      have HE := Lib.hid (endD (f := 0) (s := 0) HX.out (DOwn.nil (w.heap.size + 1) _) (Nat.lt_succ_self _) HB.out)
      have t0 := HX.out.frozen 0; have t1 := HX.out.frozen 1; have t2 := HX.out.frozen 2; have t3 := HX.out.frozen 3; have t4 := HX.out.frozen 4
      have r0 : w2.cell? ⟨w.heap.size, 0, none⟩ = some (.slice none 0 0) := HX.out.cell 0
      have r1 : w2.cell? ⟨w.heap.size, 1, none⟩ = some (.slice none 0 0) := HX.out.cell 1
      have r2 : w2.cell? ⟨w.heap.size, 2, none⟩ = some (.slice none 0 0) := HX.out.cell 2
      have r3 : w2.cell? ⟨w.heap.size, 3, none⟩ = some (.int .i64 0) := HX.out.cell 3
      have r4 : w2.cell? ⟨w.heap.size, 4, none⟩ = some (.int .i64 0) := HX.out.cell 4
      go_wp2_with fail
      refine bodyPost_ret (Ret.results_ct rfl _ _ w.heap.size (dc (.slice none 0 0) (.slice none 0 0) (.slice none 0 0) 0 0).toList rfl aggD HE.out.1.cells) rfl ?_
      rw [HV.out]
      exact ⟨_, _, _, rfl, HE.out.2.1, HE.out.2.2⟩
    | true =>
      have HR := Lib.hid (specReadName _ b j2 w2 (HH.out.on HB.out) HBY.out HL.out)
      rw [show rdN b j2 = rN2 b by rw [HJ2.out]; rfl] at HR
      obtain ⟨l3, hl3⟩ : ∃ z, z = (rN2 b).1 := ⟨_, rfl⟩
      obtain ⟨j3, hj3⟩ : ∃ z, z = (rN2 b).2.1 := ⟨_, rfl⟩
      obtain ⟨k3, hk3⟩ : ∃ z, z = (rN2 b).2.2 := ⟨_, rfl⟩
      rw [← hl3, ← hj3, ← hk3] at HR
      have HL3 := Lib.hid hl3; have HJ3 := Lib.hid hj3; have HK3 := Lib.hid hk3
      clear hl3 hj3 hk3
      go_wp2_with fail
      refine HR.out.mono ?_
      rintro e w3 ⟨v3, rfl, ho3, hb3⟩
      obtain ⟨x3, n3, c3, rfl, -, -, ho3⟩ := ho3.shapeN
      clear HR
      have hal := (Below.refl w3.heap.size w3).alloc (Nat.le_refl _) (.cells #[.slice x3 n3 c3] 26)
      have O3 := Lib.hid (ho3.on hal)
      have GE3 := Lib.hid (show ∀ g, (.slice x3 n3 c3 : Value).ownBlock = some g → w2.heap.size ≤ g from fun g e => (ho3.lt g e).1)
      have Y3 := Lib.hid (Ret.Box.new w3 (.slice x3 n3 c3) 26)
      have S3 := Lib.hid hb3.size
      replace HX := Lib.hid (HX.out.on hb3); replace O1 := Lib.hid (O1.out.on hb3); replace O2 := Lib.hid (O2.out.on hb3); replace Y1 := Lib.hid (Y1.out.on hb3); replace HB := Lib.hid (HB.out.trans (hb3.mono HB.out.size))
      replace HX := Lib.hid (HX.out.on hal); replace O1 := Lib.hid (O1.out.on hal); replace O2 := Lib.hid (O2.out.on hal); replace Y1 := Lib.hid (Y1.out.on hal); replace HB := Lib.hid (HB.out.trans (hal.mono HB.out.size))
      have hA : Apart (.slice x1 n1 c1) (.slice x2 n2 c2) ∧ Apart (.slice x1 n1 c1) (.slice x3 n3 c3) ∧ Apart (.slice x2 n2 c2) (.slice x3 n3 c3) := by
        refine ⟨fun g e1 e2 => ?_, fun g e1 e2 => ?_, fun g e1 e2 => ?_⟩
        · have h5 := LT1.out g e1; have h6 := GE2.out g e2; have h7 := S2.out; omega
        · have h5 := LT1.out g e1; have h6 := GE3.out g e2; have h7 := S2.out; omega
        · have h5 := LT2.out g e1; have h6 := GE3.out g e2; have h7 := S2.out; omega
      have HAP := Lib.hid hA; clear hA
      clear ho3 hb3 hal
      have HR := Lib.hid (Sl.specDecodeInts _ b j3 2 (w3.alloc (.cells #[.slice x3 n3 c3] 26)) (HH.out.on HB.out) HBY.out HL.out)
      rw [show Sl.readIs b j3 2 = rI1 b by rw [HJ3.out]; rfl] at HR
      obtain ⟨is_, his⟩ : ∃ z, z = (rI1 b).1 := ⟨_, rfl⟩
      obtain ⟨j4, hj4⟩ : ∃ z, z = (rI1 b).2.1 := ⟨_, rfl⟩
      obtain ⟨k4, hk4⟩ : ∃ z, z = (rI1 b).2.2 := ⟨_, rfl⟩
      rw [← his, ← hj4, ← hk4] at HR
      have HIS := Lib.hid his; have HJ4 := Lib.hid hj4; have HK4 := Lib.hid hk4
      clear his hj4 hk4
      go_wp2_with fail
      refine HR.out.mono ?_
      rintro e w4 ⟨v4, rfl, ho4, hb4⟩
      obtain ⟨x4, c4, rfl, hc4, ho4⟩ := ho4.holds.shape
      obtain ⟨n4, hn4⟩ : ∃ n, n = is_.length := ⟨_, rfl⟩
      rw [← hn4] at ho4
      have HN4 := Lib.hid hn4
      rw [← hn4]
      have HI4 := Lib.hid ho4
      clear ho4 hc4 hn4 HR
      replace HX := Lib.hid (HX.out.on hb4); replace O1 := Lib.hid (O1.out.on hb4); replace O2 := Lib.hid (O2.out.on hb4); replace O3 := Lib.hid (O3.out.on hb4); replace Y1 := Lib.hid (Y1.out.on hb4); replace Y3 := Lib.hid (Y3.out.on hb4); replace HB := Lib.hid (HB.out.trans (hb4.mono HB.out.size))
      clear hb4
      cases k3 with
      | false =>
        have HV := Lib.hid (dcD_no (b := b) (fun e => by have h9 := e.1.2.2.1; rw [← HK3.out] at h9; cases h9))
        have HE := Lib.hid (endD (f := 0) (s := 0) HX.out (DOwn.nil (w.heap.size + 1) _) (Nat.lt_succ_self _) HB.out)
        have t0 := HX.out.frozen 0; have t1 := HX.out.frozen 1; have t2 := HX.out.frozen 2; have t3 := HX.out.frozen 3; have t4 := HX.out.frozen 4
        have r0 : w4.cell? ⟨w.heap.size, 0, none⟩ = some (.slice none 0 0) := HX.out.cell 0
        have r1 : w4.cell? ⟨w.heap.size, 1, none⟩ = some (.slice none 0 0) := HX.out.cell 1
        have r2 : w4.cell? ⟨w.heap.size, 2, none⟩ = some (.slice none 0 0) := HX.out.cell 2
        have r3 : w4.cell? ⟨w.heap.size, 3, none⟩ = some (.int .i64 0) := HX.out.cell 3
        have r4 : w4.cell? ⟨w.heap.size, 4, none⟩ = some (.int .i64 0) := HX.out.cell 4
        go_wp2_with fail
        refine bodyPost_ret (Ret.results_ct rfl _ _ w.heap.size (dc (.slice none 0 0) (.slice none 0 0) (.slice none 0 0) 0 0).toList rfl aggD HE.out.1.cells) rfl ?_
        rw [HV.out]
        exact ⟨_, _, _, rfl, HE.out.2.1, HE.out.2.2⟩
      | true =>
        cases k4 with
        | false =>
          have HV := Lib.hid (dcD_no (b := b) (fun e => by have h9 := e.1.2.2.2; rw [← HK4.out] at h9; cases h9))
          have HE := Lib.hid (endD (f := 0) (s := 0) HX.out (DOwn.nil (w.heap.size + 1) _) (Nat.lt_succ_self _) HB.out)
          have t0 := HX.out.frozen 0; have t1 := HX.out.frozen 1; have t2 := HX.out.frozen 2; have t3 := HX.out.frozen 3; have t4 := HX.out.frozen 4
          have r0 : w4.cell? ⟨w.heap.size, 0, none⟩ = some (.slice none 0 0) := HX.out.cell 0
          have r1 : w4.cell? ⟨w.heap.size, 1, none⟩ = some (.slice none 0 0) := HX.out.cell 1
          have r2 : w4.cell? ⟨w.heap.size, 2, none⟩ = some (.slice none 0 0) := HX.out.cell 2
          have r3 : w4.cell? ⟨w.heap.size, 3, none⟩ = some (.int .i64 0) := HX.out.cell 3
          have r4 : w4.cell? ⟨w.heap.size, 4, none⟩ = some (.int .i64 0) := HX.out.cell 4
          go_wp2_with fail
          refine bodyPost_ret (Ret.results_ct rfl _ _ w.heap.size (dc (.slice none 0 0) (.slice none 0 0) (.slice none 0 0) 0 0).toList rfl aggD HE.out.1.cells) rfl ?_
          rw [HV.out]
          exact ⟨_, _, _, rfl, HE.out.2.1, HE.out.2.2⟩
        | true =>
          by_cases hnm : j4 = (m : Int)
          · have hd : (j4 != (m : Int)) = false := by simp [hnm]
            have HNM : Hid (j4 = (b.length : Int)) := Lib.hid (by rw [hnm, HM.out])
            clear hnm
            have h2 : n4 = 2 := by rw [HN4.out, HIS.out]; exact readI2 HK4.out.symm
            subst h2
            obtain ⟨bb, off, hx4, hc⟩ := HI4.out.at (j := 0) (by rw [← HN4.out]; omega)
            subst hx4
            obtain ⟨i0, hi0⟩ : ∃ z, z = Sl.nth is_ 0 := ⟨_, rfl⟩
            obtain ⟨i1, hi1⟩ : ∃ z, z = Sl.nth is_ 1 := ⟨_, rfl⟩
            have q0 : w4.cell? ⟨bb, off, none⟩ = some (.int .i64 i0) := by rw [hi0]; exact hc
            have q1 : w4.cell? ⟨bb, off + 1, none⟩ = some (.int .i64 i1) := by
              obtain ⟨b', o', e, hc1⟩ := HI4.out.at (j := 1) (by rw [← HN4.out]; omega)
              cases e; rw [hi1]; exact hc1
            have HG : Hid (gotD b = (l1, l2, l3, i0, i1)) := Lib.hid (by unfold gotD; rw [← HL1.out, ← HL2.out, ← HL3.out, ← HIS.out, ← hi0, ← hi1])
            have y1 : w4.cell? ⟨w1.heap.size, 0, none⟩ = some (.slice x1 n1 c1) := Y1.out.cell
            have y3 : w4.cell? ⟨w3.heap.size, 0, none⟩ = some (.slice x3 n3 c3) := Y3.out.cell
            clear hc hi0 hi1
            have ha := (Below.refl w4.heap.size w4).alloc (Nat.le_refl _) (.cells (dc (.slice none 0 0) (.slice none 0 0) (.slice none 0 0) 0 0) 28)
            have q0a := (ha.cell (cell_lt q0)).trans q0
            have q1a := (ha.cell (cell_lt q1)).trans q1
            have y1a := (ha.cell (cell_lt y1)).trans y1
            have y3a := (ha.cell (cell_lt y3)).trans y3
            clear ha
            go_wp2_with fail
            go_region
            clear q0a q1a y1a y3a q0 q1 y1 y3 hd
            have haw : Below w4.heap.size w4 ((w4.alloc (.cells (dc (.slice x1 n1 c1) (.slice x2 n2 c2) (.slice x3 n3 c3) i0 i1) 28)).drew) := ((Below.refl _ _).alloc (Nat.le_refl _) _).drew
            replace HX := Lib.hid (HX.out.on haw); replace O1 := Lib.hid (O1.out.on haw); replace O2 := Lib.hid (O2.out.on haw); replace O3 := Lib.hid (O3.out.on haw); replace HB := Lib.hid (HB.out.trans (haw.mono HB.out.size))
            have HZ0 := Lib.hid ((Ret.Blk.new w4 (dc (.slice x1 n1 c1) (.slice x2 n2 c2) (.slice x3 n3 c3) i0 i1) 28).on (show Below _ _ ((w4.alloc (.cells (dc (.slice x1 n1 c1) (.slice x2 n2 c2) (.slice x3 n3 c3) i0 i1) 28)).drew) from (Below.refl _ _).drew))
            clear haw Y1 Y3
            generalize (w4.alloc (.cells (dc (.slice x1 n1 c1) (.slice x2 n2 c2) (.slice x3 n3 c3) i0 i1) 28)).drew = w5 at *
            have p0 : w5.cell? ⟨w4.heap.size, 0, none⟩ = some (.slice x1 n1 c1) := HZ0.out.cell 0
            have p1 : w5.cell? ⟨w4.heap.size, 1, none⟩ = some (.slice x2 n2 c2) := HZ0.out.cell 1
            have p2 : w5.cell? ⟨w4.heap.size, 2, none⟩ = some (.slice x3 n3 c3) := HZ0.out.cell 2
            have p3 : w5.cell? ⟨w4.heap.size, 3, none⟩ = some (.int .i64 i0) := HZ0.out.cell 3
            have p4 : w5.cell? ⟨w4.heap.size, 4, none⟩ = some (.int .i64 i1) := HZ0.out.cell 4
            obtain ⟨z, hz⟩ : ∃ z, validD (l1, l2, l3, i0, i1) = z := ⟨_, rfl⟩
            have HZ := Lib.hid hz
            have HBK1 := Lib.hid (show bulk l1 ≤ 60 from bulk_valid (by rw [HL1.out]; exact rdN_valid HK1.out.symm))
            have HBK3 := Lib.hid (show bulk l3 ≤ 60 from bulk_valid (by rw [HL3.out]; exact rdN_valid HK3.out.symm))
            have HO := Lib.hid (show DOwn (w.heap.size + 1) w5 (.slice x1 n1 c1) (.slice x2 n2 c2) (.slice x3 n3 c3) (l1, l2, l3, i0, i1) from ⟨O1.out.mono (by simp), Sl.Own.mono O2.out (by have := SZ.out; simp; omega), O3.out.mono (by have := SZ.out; have := S2.out; omega), HAP.out⟩)
            go_wp2_with fail
            clear p0 p1 p2 p3 p4
            refine (specValidData _ _ _ (l1, l2, l3, i0, i1) _ HO.out.hold (by have := HBK1.out; simp only; omega) (by have := HBK3.out; simp only; omega)).mono ?_
            rintro e w6 ⟨rfl, hb6⟩
            rw [hz]
            replace HX := Lib.hid (HX.out.on hb6); replace HO := Lib.hid (HO.out.on hb6); replace HZ0 := Lib.hid (HZ0.out.on hb6); replace HB := Lib.hid (HB.out.trans (hb6.mono HB.out.size))
            clear hb6 hz
            cases z with
            | false =>
              have HV := Lib.hid (dcD_no (b := b) (fun e => by have h9 := e.2.2; rw [HG.out, HZ.out] at h9; cases h9))
              have HE := Lib.hid (endD (f := 0) (s := 0) HX.out (DOwn.nil (w.heap.size + 1) _) (Nat.lt_succ_self _) HB.out)
              have t0 := HX.out.frozen 0; have t1 := HX.out.frozen 1; have t2 := HX.out.frozen 2; have t3 := HX.out.frozen 3; have t4 := HX.out.frozen 4
              have r0 : w6.cell? ⟨w.heap.size, 0, none⟩ = some (.slice none 0 0) := HX.out.cell 0
              have r1 : w6.cell? ⟨w.heap.size, 1, none⟩ = some (.slice none 0 0) := HX.out.cell 1
              have r2 : w6.cell? ⟨w.heap.size, 2, none⟩ = some (.slice none 0 0) := HX.out.cell 2
              have r3 : w6.cell? ⟨w.heap.size, 3, none⟩ = some (.int .i64 0) := HX.out.cell 3
              have r4 : w6.cell? ⟨w.heap.size, 4, none⟩ = some (.int .i64 0) := HX.out.cell 4
              go_wp2_with fail
              refine bodyPost_ret (Ret.results_ct rfl _ _ w.heap.size (dc (.slice none 0 0) (.slice none 0 0) (.slice none 0 0) 0 0).toList rfl aggD HE.out.1.cells) rfl ?_
              rw [HV.out]
              exact ⟨_, _, _, rfl, HE.out.2.1, HE.out.2.2⟩
            | true =>
              have HV := Lib.hid (dcD_yes (b := b) ⟨⟨HK1.out.symm, HK2.out.symm, HK3.out.symm, HK4.out.symm⟩, by rw [← HJ4.out]; exact HNM.out, by rw [HG.out]; exact HZ.out⟩)
              have HE := Lib.hid (endD (f := i0) (s := i1) HX.out HO.out (Nat.lt_succ_self _) HB.out)
              have t0 := HX.out.frozen 0; have t1 := HX.out.frozen 1; have t2 := HX.out.frozen 2; have t3 := HX.out.frozen 3; have t4 := HX.out.frozen 4
              have r0 : w6.cell? ⟨w.heap.size, 0, none⟩ = some (.slice none 0 0) := HX.out.cell 0
              have r1 : w6.cell? ⟨w.heap.size, 1, none⟩ = some (.slice none 0 0) := HX.out.cell 1
              have r2 : w6.cell? ⟨w.heap.size, 2, none⟩ = some (.slice none 0 0) := HX.out.cell 2
              have r3 : w6.cell? ⟨w.heap.size, 3, none⟩ = some (.int .i64 0) := HX.out.cell 3
              have r4 : w6.cell? ⟨w.heap.size, 4, none⟩ = some (.int .i64 0) := HX.out.cell 4
              have p0 : w6.cell? ⟨w4.heap.size, 0, none⟩ = some (.slice x1 n1 c1) := HZ0.out.cell 0
              have p1 : w6.cell? ⟨w4.heap.size, 1, none⟩ = some (.slice x2 n2 c2) := HZ0.out.cell 1
              have p2 : w6.cell? ⟨w4.heap.size, 2, none⟩ = some (.slice x3 n3 c3) := HZ0.out.cell 2
              have p3 : w6.cell? ⟨w4.heap.size, 3, none⟩ = some (.int .i64 i0) := HZ0.out.cell 3
              have p4 : w6.cell? ⟨w4.heap.size, 4, none⟩ = some (.int .i64 i1) := HZ0.out.cell 4
              go_wp2_with fail
              refine bodyPost_ret (Ret.results_ct rfl _ _ w.heap.size (dc (.slice x1 n1 c1) (.slice x2 n2 c2) (.slice x3 n3 c3) i0 i1).toList rfl aggD HE.out.1.cells) rfl ?_
              rw [HV.out, HG.out]
              exact ⟨_, _, _, rfl, HE.out.2.1, HE.out.2.2⟩
          · have hd : (j4 != (m : Int)) = true := by simpa using hnm
            have HV := Lib.hid (dcD_no (b := b) (fun e => hnm (by have h9 := e.2.1; rw [← HJ4.out, ← HM.out] at h9; exact h9)))
            clear hnm
            have HE := Lib.hid (endD (f := 0) (s := 0) HX.out (DOwn.nil (w.heap.size + 1) _) (Nat.lt_succ_self _) HB.out)
            have t0 := HX.out.frozen 0; have t1 := HX.out.frozen 1; have t2 := HX.out.frozen 2; have t3 := HX.out.frozen 3; have t4 := HX.out.frozen 4
            have r0 : w4.cell? ⟨w.heap.size, 0, none⟩ = some (.slice none 0 0) := HX.out.cell 0
            have r1 : w4.cell? ⟨w.heap.size, 1, none⟩ = some (.slice none 0 0) := HX.out.cell 1
            have r2 : w4.cell? ⟨w.heap.size, 2, none⟩ = some (.slice none 0 0) := HX.out.cell 2
            have r3 : w4.cell? ⟨w.heap.size, 3, none⟩ = some (.int .i64 0) := HX.out.cell 3
            have r4 : w4.cell? ⟨w.heap.size, 4, none⟩ = some (.int .i64 0) := HX.out.cell 4
            go_wp2_with fail
            refine bodyPost_ret (Ret.results_ct rfl _ _ w.heap.size (dc (.slice none 0 0) (.slice none 0 0) (.slice none 0 0) 0 0).toList rfl aggD HE.out.1.cells) rfl ?_
            rw [HV.out]
            exact ⟨_, _, _, rfl, HE.out.2.1, HE.out.2.2⟩
end Go.Proofs.YtbooamnlocobfaaGreat.Row
