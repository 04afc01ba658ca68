/- Contracts and mathematics, joined: RingR, Many2, RingC, NameMath, Shelf, Form, RingF, RingE, KInt, KFun8, ThingE, ThingQ, ThingD0, ThingD, ThingR, KFunD, RingD. No conditions but those that each states. -/
import Derived.WalkKit
import Derived.Deep.RegionHeld3
import Derived.Test.YtnblopilgfdjkaaB3
import Derived.Test.YtnblopilgfdjkaaB1
import Derived.Laws.CopyOwn
import Derived.Maps.AppendAt
import Derived.Deep.RegionLaw
import Derived.BigQuiet
import Derived.Lib.Join
import Derived.Shelf.Strings.Builder1
import Derived.Shelf.Strings.Builder2
import Derived.Shelf.Strings.OnBuilder
import Derived.Ground.Names2Prog
import Derived.Shelf.Slices.Clone
import Derived.Test.YtnblopilgfdjkaaProg
import Derived.Test.YtnblopilgfdjkaaB2
/- The region of the model's ValidKeys in which guards leave operations out: whatever order is drawn, the last value is the one that the guards give. No conditions. -/
namespace Go.Proofs.Ytnblopilgfdjkaa.Row.Ring
open Go.ChangeShapes Go.WideShapes Go.ChangeAt Go.RowKit Go.Instr
set_option linter.unusedVariables false

theorem l9V {v u : Value} {L : List Ent} {m : List ByteArray} {w : World} (r : Int) (hr : ixT (isN m) (strip L) = r) (h : TabH w v L) (g : Holds Value.string w u m) (hl : (strip L).length ≤ 100000000) (hT : smT (strip L)) (hm : m.length ≤ 9000000) :
    Calls Try.prog 50 #[v, .agg #[u]] w fun e w' => e = .returned (.int .i64 r) ∧ Below w.heap.size w w' := hr ▸ l9Find v u (strip L) m w ⟨L, rfl, h⟩ g hl hT hm
set_option maxRecDepth 100000 in
set_option maxHeartbeats 4000000 in
theorem regK1 {Q : Exit → Act → World → Prop} {v1 v2 v4 v5 v6 v7 v8 v9 v10 v11 v12 v13 v14 v15 v16 v17 v18 v19 v20 v21 v22 v23 v24 v25 v26 v27 v28 v29 v30 v31 v32 v33 v34 v35 v36 v37 v38 v39 v40 v41 v42 v43 v44 v45 v46 v47 v48 v49 v50 v51 v52 v53 v54 v55 v56 v57 v58 v59 v60 v61 v62 v63 v64 v65 v66 v67 : Value} {w : World} {b off n cx k na ca : Nat} {s : Int} {xa : Option Addr} {la : List ByteArray} (hk : k < n) (hkc : k ≤ cx) (hn : n ≤ 4000000) (K1 : Hid (w.cell? ⟨b, off + k * 2, none⟩ = some (.slice xa na ca))) (K2 : Hid (w.cell? ⟨b, off + k * 2 + 1, none⟩ = some (.int .i64 s))) (H_a : Hid (Holds Value.string w (.slice xa na ca) la)) (HS : Hid (bulk la ≤ 9000000)) (HV : Hid (validN la = false))
    (hQ : ∀ (u11 u12 u13 u14 u15 u16 u17 u18 u19 u20 u21 u22 u23 u24 u25 u26 u27 u28 u29 u30 u31 u32 u33 u34 u35 u36 u37 u38 u39 u40 u41 u42 u43 u44 u45 u46 u47 : Value) (wx : World), Below w.heap.size w wx → Q .normal ⟨#[.slice (some ⟨b, off, none⟩) n cx, v1, v2, .int .i64 k, v4, v5, v6, v7, v8, v9, v10, u11, u12, u13, u14, u15, u16, u17, u18, u19, u20, u21, u22, u23, u24, u25, u26, u27, u28, u29, u30, u31, u32, u33, u34, u35, u36, u37, u38, u39, u40, u41, u42, u43, u44, u45, u46, u47, .bool true, v49, v50, v51, v52, v53, v54, v55, v56, v57, v58, v59, v60, v61, v62, v63, v64, v65, v66, v67], []⟩ wx) :
    (Code.region 4 #[{ dst := some 11, op := Op.move (Operand.tmp 0), type := 25, pos := "l09_key.go:16", after := #[], guard := none },
      { dst := some 12, op := Op.move (Operand.tmp 3), type := 3, pos := "l09_key.go:16", after := #[], guard := none },
      { dst := some 13, op := Op.indexAddr 25 (Operand.tmp 11) (Operand.tmp 12), type := 0, pos := "l09_key.go:16", after := #[{ on := 0, ground := Ground.data }, { on := 1, ground := Ground.data }], guard := none },
      { dst := some 14, op := Op.fieldAddr 67 (Operand.tmp 13) 0, type := 0, pos := "l09_key.go:16", after := #[{ on := 2, ground := Ground.data }], guard := none },
      { dst := some 15, op := Op.load 34 (Operand.tmp 14), type := 34, pos := "l09_key.go:16", after := #[{ on := 3, ground := Ground.data }], guard := none },
      { dst := some 16, op := Op.call { callee := Callee.value (Operand.func 48), args := #[Operand.tmp 15], argTypes := #[34] }, type := 4, pos := "l09_key.go:16", after := #[{ on := 4, ground := Ground.data }], guard := none },
      { dst := some 17, op := Op.unOp UnOp.not 4 (Operand.tmp 16), type := 4, pos := "l09_key.go:16", after := #[{ on := 5, ground := Ground.data }], guard := none },
      { dst := some 18, op := Op.move (Operand.tmp 17), type := 4, pos := "l09_key.go:16", after := #[{ on := 6, ground := Ground.data }, { on := 5, ground := Ground.chain }], guard := none },
      { dst := some 19, op := Op.move (Operand.tmp 0), type := 25, pos := "l09_key.go:16", after := #[{ on := 7, ground := Ground.guard }], guard := some (7, false) },
      { dst := some 20, op := Op.move (Operand.tmp 3), type := 3, pos := "l09_key.go:16", after := #[{ on := 7, ground := Ground.guard }], guard := some (7, false) },
      { dst := some 21, op := Op.indexAddr 25 (Operand.tmp 19) (Operand.tmp 20), type := 0, pos := "l09_key.go:16", after := #[{ on := 8, ground := Ground.data }, { on := 9, ground := Ground.data }, { on := 7, ground := Ground.guard }], guard := some (7, false) },
      { dst := some 22, op := Op.fieldAddr 67 (Operand.tmp 21) 0, type := 0, pos := "l09_key.go:16", after := #[{ on := 10, ground := Ground.data }, { on := 7, ground := Ground.guard }], guard := some (7, false) },
      { dst := some 23, op := Op.fieldAddr 34 (Operand.tmp 22) 0, type := 0, pos := "l09_key.go:16", after := #[{ on := 11, ground := Ground.data }, { on := 7, ground := Ground.guard }], guard := some (7, false) },
      { dst := some 24, op := Op.load 29 (Operand.tmp 23), type := 29, pos := "l09_key.go:16", after := #[{ on := 12, ground := Ground.data }, { on := 7, ground := Ground.guard }], guard := some (7, false) },
      { dst := some 25, op := Op.call { callee := Callee.builtin Builtin.len, args := #[Operand.tmp 24], argTypes := #[29] }, type := 3, pos := "l09_key.go:16", after := #[{ on := 13, ground := Ground.data }, { on := 7, ground := Ground.guard }], guard := some (7, false) },
      { dst := some 26, op := Op.binOp BinOp.eql 3 (Operand.tmp 25) (Operand.const (Value.int IntKind.i64 0)) 3, type := 4, pos := "l09_key.go:16", after := #[{ on := 14, ground := Ground.data }, { on := 7, ground := Ground.guard }], guard := some (7, false) },
      { dst := some 27, op := Op.pick (Operand.tmp 18) (Operand.const (Value.bool true)) (Operand.tmp 26), type := 4, pos := "l09_key.go:16", after := #[{ on := 7, ground := Ground.data }, { on := 15, ground := Ground.data }], guard := none },
      { dst := some 28, op := Op.move (Operand.tmp 27), type := 4, pos := "l09_key.go:16", after := #[{ on := 16, ground := Ground.data }, { on := 7, ground := Ground.chain }], guard := none },
      { dst := some 29, op := Op.move (Operand.tmp 0), type := 25, pos := "l09_key.go:16", after := #[{ on := 17, ground := Ground.guard }], guard := some (17, false) },
      { dst := some 30, op := Op.move (Operand.tmp 3), type := 3, pos := "l09_key.go:16", after := #[{ on := 17, ground := Ground.guard }], guard := some (17, false) },
      { dst := some 31, op := Op.indexAddr 25 (Operand.tmp 29) (Operand.tmp 30), type := 0, pos := "l09_key.go:16", after := #[{ on := 18, ground := Ground.data }, { on := 19, ground := Ground.data }, { on := 17, ground := Ground.guard }], guard := some (17, false) },
      { dst := some 32, op := Op.fieldAddr 67 (Operand.tmp 31) 1, type := 0, pos := "l09_key.go:16", after := #[{ on := 20, ground := Ground.data }, { on := 17, ground := Ground.guard }], guard := some (17, false) },
      { dst := some 33, op := Op.load 3 (Operand.tmp 32), type := 3, pos := "l09_key.go:16", after := #[{ on := 21, ground := Ground.data }, { on := 17, ground := Ground.guard }], guard := some (17, false) },
      { dst := some 34, op := Op.call { callee := Callee.value (Operand.func 49), args := #[Operand.tmp 33], argTypes := #[3] }, type := 4, pos := "l09_key.go:16", after := #[{ on := 22, ground := Ground.data }, { on := 17, ground := Ground.chain }, { on := 17, ground := Ground.guard }], guard := some (17, false) },
      { dst := some 35, op := Op.unOp UnOp.not 4 (Operand.tmp 34), type := 4, pos := "l09_key.go:16", after := #[{ on := 23, ground := Ground.data }, { on := 17, ground := Ground.guard }], guard := some (17, false) },
      { dst := some 36, op := Op.pick (Operand.tmp 28) (Operand.const (Value.bool true)) (Operand.tmp 35), type := 4, pos := "l09_key.go:16", after := #[{ on := 17, ground := Ground.data }, { on := 24, ground := Ground.data }], guard := none },
      { dst := some 37, op := Op.move (Operand.tmp 36), type := 4, pos := "l09_key.go:16", after := #[{ on := 25, ground := Ground.data }, { on := 23, ground := Ground.chain }], guard := none },
      { dst := some 38, op := Op.move (Operand.tmp 0), type := 25, pos := "l09_key.go:16", after := #[{ on := 26, ground := Ground.guard }], guard := some (26, false) },
      { dst := some 39, op := Op.move (Operand.tmp 3), type := 3, pos := "l09_key.go:16", after := #[{ on := 26, ground := Ground.guard }], guard := some (26, false) },
      { dst := some 40, op := Op.slice 25 (Operand.tmp 38) none (some (Operand.tmp 39)) none, type := 25, pos := "l09_key.go:16", after := #[{ on := 27, ground := Ground.data }, { on := 28, ground := Ground.data }, { on := 26, ground := Ground.guard }], guard := some (26, false) },
      { dst := some 41, op := Op.move (Operand.tmp 0), type := 25, pos := "l09_key.go:16", after := #[{ on := 26, ground := Ground.guard }], guard := some (26, false) },
      { dst := some 42, op := Op.move (Operand.tmp 3), type := 3, pos := "l09_key.go:16", after := #[{ on := 26, ground := Ground.guard }], guard := some (26, false) },
      { dst := some 43, op := Op.indexAddr 25 (Operand.tmp 41) (Operand.tmp 42), type := 0, pos := "l09_key.go:16", after := #[{ on := 30, ground := Ground.data }, { on := 31, ground := Ground.data }, { on := 26, ground := Ground.guard }], guard := some (26, false) },
      { dst := some 44, op := Op.fieldAddr 67 (Operand.tmp 43) 0, type := 0, pos := "l09_key.go:16", after := #[{ on := 32, ground := Ground.data }, { on := 26, ground := Ground.guard }], guard := some (26, false) },
      { dst := some 45, op := Op.load 34 (Operand.tmp 44), type := 34, pos := "l09_key.go:16", after := #[{ on := 33, ground := Ground.data }, { on := 26, ground := Ground.guard }], guard := some (26, false) },
      { dst := some 46, op := Op.call { callee := Callee.value (Operand.func 50), args := #[Operand.tmp 40, Operand.tmp 45], argTypes := #[25, 34] }, type := 3, pos := "l09_key.go:16", after := #[{ on := 29, ground := Ground.data }, { on := 34, ground := Ground.data }, { on := 26, ground := Ground.chain }, { on := 26, ground := Ground.guard }], guard := some (26, false) },
      { dst := some 47, op := Op.binOp BinOp.geq 3 (Operand.tmp 46) (Operand.const (Value.int IntKind.i64 0)) 3, type := 4, pos := "l09_key.go:16", after := #[{ on := 35, ground := Ground.data }, { on := 26, ground := Ground.guard }], guard := some (26, false) },
      { dst := some 48, op := Op.pick (Operand.tmp 37) (Operand.const (Value.bool true)) (Operand.tmp 47), type := 4, pos := "l09_key.go:16", after := #[{ on := 26, ground := Ground.data }, { on := 36, ground := Ground.data }], guard := none }] true).wp Try.prog Q ⟨#[.slice (some ⟨b, off, none⟩) n cx, v1, v2, .int .i64 k, v4, v5, v6, v7, v8, v9, v10, v11, v12, v13, v14, v15, v16, v17, v18, v19, v20, v21, v22, v23, v24, v25, v26, v27, v28, v29, v30, v31, v32, v33, v34, v35, v36, v37, v38, v39, v40, v41, v42, v43, v44, v45, v46, v47, v48, v49, v50, v51, v52, v53, v54, v55, v56, v57, v58, v59, v60, v61, v62, v63, v64, v65, v66, v67], []⟩ w := by
  have HQ := Lib.hid hQ; clear hQ
  have hdr : Below w.heap.size w w.drew := (Below.refl _ _).drew
  have Hd_a := Lib.hid (H_a.out.on hdr)
  replace K1 := Lib.hid ((hdr.cell (cell_lt K1.out)).trans K1.out)
  replace K2 := Lib.hid ((hdr.cell (cell_lt K2.out)).trans K2.out)
  have BB := Lib.hid hdr; clear hdr
  refine wp_region_noPanic ?_
  refine wp_region_held_drew (S := (fun w' => w'.cell? ⟨b, off + k * 2, none⟩ = some (.slice xa na ca) ∧ w'.cell? ⟨b, off + k * 2 + 1, none⟩ = some (.int .i64 s))) (by kernel_rfl) ?_ (fun hHeld => ?_)
  · exact ⟨K1.out, K2.out⟩
  refine wpAnyH_take (i := 0) (oi := { dst := some 11, op := Op.move (Operand.tmp 0), type := 25, pos := "l09_key.go:16", after := #[], guard := none }) (v := ?_) rfl (by kernel_rfl) (by kernel_rfl) (by kernel_rfl) (fun _ _ _ h => h) (Or.inl ⟨by rfl, ?_⟩) (by assumption) ?_
  rotate_left
  · intro w' hSw; (try dsimp only at hSw); first | (go_simp; done) | (go_simp; with_reducible rfl)
  (try simp only [Act.put, List.setIfInBounds_toArray, List.set_cons_zero, List.set_cons_succ])
  refine wpAnyH_take (i := 1) (oi := { dst := some 12, op := Op.move (Operand.tmp 3), type := 3, pos := "l09_key.go:16", after := #[], guard := none }) (v := ?_) rfl (by kernel_rfl) (by kernel_rfl) (by kernel_rfl) (fun _ _ _ h => h) (Or.inl ⟨by rfl, ?_⟩) (by assumption) ?_
  rotate_left
  · intro w' hSw; (try dsimp only at hSw); first | (go_simp; done) | (go_simp; with_reducible rfl)
  (try simp only [Act.put, List.setIfInBounds_toArray, List.set_cons_zero, List.set_cons_succ])
  refine wpAnyH_take (i := 2) (oi := { dst := some 13, op := Op.indexAddr 25 (Operand.tmp 11) (Operand.tmp 12), type := 0, pos := "l09_key.go:16", after := #[{ on := 0, ground := Ground.data }, { on := 1, ground := Ground.data }], guard := none }) (v := ?_) rfl (by kernel_rfl) (by kernel_rfl) (by kernel_rfl) (fun _ _ _ h => h) (Or.inl ⟨by rfl, ?_⟩) (by assumption) ?_
  rotate_left
  · intro w' hSw; (try dsimp only at hSw); first | (go_simp; done) | (go_simp; with_reducible rfl)
  (try simp only [Act.put, List.setIfInBounds_toArray, List.set_cons_zero, List.set_cons_succ])
  refine wpAnyH_take (i := 3) (oi := { dst := some 14, op := Op.fieldAddr 67 (Operand.tmp 13) 0, type := 0, pos := "l09_key.go:16", after := #[{ on := 2, ground := Ground.data }], guard := none }) (v := ?_) rfl (by kernel_rfl) (by kernel_rfl) (by kernel_rfl) (fun _ _ _ h => h) (Or.inl ⟨by rfl, ?_⟩) (by assumption) ?_
  rotate_left
  · intro w' hSw; (try dsimp only at hSw); first | (go_simp; done) | (go_simp; with_reducible rfl)
  (try simp only [Act.put, List.setIfInBounds_toArray, List.set_cons_zero, List.set_cons_succ])
  refine wpAnyH_take (i := 4) (oi := { dst := some 15, op := Op.load 34 (Operand.tmp 14), type := 34, pos := "l09_key.go:16", after := #[{ on := 3, ground := Ground.data }], guard := none }) (v := ?_) rfl (by kernel_rfl) (by kernel_rfl) (by kernel_rfl) (fun _ _ _ h => h) (Or.inl ⟨by rfl, ?_⟩) (by assumption) ?_
  rotate_left
  · intro w' hSw; (try dsimp only at hSw); first | (go_simp; done) | (go_simp; with_reducible rfl)
  (try simp only [Act.put, List.setIfInBounds_toArray, List.set_cons_zero, List.set_cons_succ])
  refine wpAnyH_ready (rs := [5]) (by kernel_rfl) (by simp) ?_
  refine AllReadyH.cons (o := { dst := some 16, op := Op.call { callee := Callee.value (Operand.func 48), args := #[Operand.tmp 15], argTypes := #[34] }, type := 4, pos := "l09_key.go:16", after := #[{ on := 4, ground := Ground.data }], guard := none }) rfl (fun K hK => ?_) AllReadyH.nil
  go_simp
  refine (sValV false HV.out Hd_a.out HS.out).mono ?_
  rintro e wx ⟨rfl, hb⟩
  replace Hd_a := Lib.hid (Hd_a.out.on hb)
  replace K1 := Lib.hid ((hb.cell (cell_lt K1.out)).trans K1.out)
  replace K2 := Lib.hid ((hb.cell (cell_lt K2.out)).trans K2.out)
  replace BB := Lib.hid (BB.out.trans (hb.mono BB.out.size)); clear hb
  (try go_wp2_with fail)
  clear hHeld
  refine hK.out _ _ ?_ (fun hHeld => ?_)
  · (try dsimp only); exact ⟨K1.out, K2.out⟩
  clear hK K
  (try simp only [Act.put, List.setIfInBounds_toArray, List.set_cons_zero, List.set_cons_succ])
  refine wpAnyH_take (i := 6) (oi := { dst := some 17, op := Op.unOp UnOp.not 4 (Operand.tmp 16), type := 4, pos := "l09_key.go:16", after := #[{ on := 5, ground := Ground.data }], guard := none }) (v := ?_) rfl (by kernel_rfl) (by kernel_rfl) (by kernel_rfl) (fun _ _ _ h => h) (Or.inl ⟨by rfl, ?_⟩) (by assumption) ?_
  rotate_left
  · intro w' hSw; (try dsimp only at hSw); first | (go_simp; done) | (go_simp; with_reducible rfl)
  (try simp only [Act.put, List.setIfInBounds_toArray, List.set_cons_zero, List.set_cons_succ])
  refine wpAnyH_take (i := 7) (oi := { dst := some 18, op := Op.move (Operand.tmp 17), type := 4, pos := "l09_key.go:16", after := #[{ on := 6, ground := Ground.data }, { on := 5, ground := Ground.chain }], guard := none }) (v := ?_) rfl (by kernel_rfl) (by kernel_rfl) (by kernel_rfl) (fun _ _ _ h => h) (Or.inl ⟨by rfl, ?_⟩) (by assumption) ?_
  rotate_left
  · intro w' hSw; (try dsimp only at hSw); first | (go_simp; done) | (go_simp; with_reducible rfl)
  (try simp only [Act.put, List.setIfInBounds_toArray, List.set_cons_zero, List.set_cons_succ])
  refine wpAnyH_take (i := 8) (oi := { dst := some 19, op := Op.move (Operand.tmp 0), type := 25, pos := "l09_key.go:16", after := #[{ on := 7, ground := Ground.guard }], guard := some (7, false) }) (v := undef) rfl (by kernel_rfl) (by kernel_rfl) (by kernel_rfl) (fun _ _ _ h => h) (Or.inr ⟨by rfl, rfl⟩) (by assumption) ?_
  (try simp only [Act.put, List.setIfInBounds_toArray, List.set_cons_zero, List.set_cons_succ])
  refine wpAnyH_take (i := 9) (oi := { dst := some 20, op := Op.move (Operand.tmp 3), type := 3, pos := "l09_key.go:16", after := #[{ on := 7, ground := Ground.guard }], guard := some (7, false) }) (v := undef) rfl (by kernel_rfl) (by kernel_rfl) (by kernel_rfl) (fun _ _ _ h => h) (Or.inr ⟨by rfl, rfl⟩) (by assumption) ?_
  (try simp only [Act.put, List.setIfInBounds_toArray, List.set_cons_zero, List.set_cons_succ])
  refine wpAnyH_take (i := 10) (oi := { dst := some 21, op := Op.indexAddr 25 (Operand.tmp 19) (Operand.tmp 20), type := 0, pos := "l09_key.go:16", after := #[{ on := 8, ground := Ground.data }, { on := 9, ground := Ground.data }, { on := 7, ground := Ground.guard }], guard := some (7, false) }) (v := undef) rfl (by kernel_rfl) (by kernel_rfl) (by kernel_rfl) (fun _ _ _ h => h) (Or.inr ⟨by rfl, rfl⟩) (by assumption) ?_
  (try simp only [Act.put, List.setIfInBounds_toArray, List.set_cons_zero, List.set_cons_succ])
  refine wpAnyH_take (i := 11) (oi := { dst := some 22, op := Op.fieldAddr 67 (Operand.tmp 21) 0, type := 0, pos := "l09_key.go:16", after := #[{ on := 10, ground := Ground.data }, { on := 7, ground := Ground.guard }], guard := some (7, false) }) (v := undef) rfl (by kernel_rfl) (by kernel_rfl) (by kernel_rfl) (fun _ _ _ h => h) (Or.inr ⟨by rfl, rfl⟩) (by assumption) ?_
  (try simp only [Act.put, List.setIfInBounds_toArray, List.set_cons_zero, List.set_cons_succ])
  refine wpAnyH_take (i := 12) (oi := { dst := some 23, op := Op.fieldAddr 34 (Operand.tmp 22) 0, type := 0, pos := "l09_key.go:16", after := #[{ on := 11, ground := Ground.data }, { on := 7, ground := Ground.guard }], guard := some (7, false) }) (v := undef) rfl (by kernel_rfl) (by kernel_rfl) (by kernel_rfl) (fun _ _ _ h => h) (Or.inr ⟨by rfl, rfl⟩) (by assumption) ?_
  (try simp only [Act.put, List.setIfInBounds_toArray, List.set_cons_zero, List.set_cons_succ])
  refine wpAnyH_take (i := 13) (oi := { dst := some 24, op := Op.load 29 (Operand.tmp 23), type := 29, pos := "l09_key.go:16", after := #[{ on := 12, ground := Ground.data }, { on := 7, ground := Ground.guard }], guard := some (7, false) }) (v := undef) rfl (by kernel_rfl) (by kernel_rfl) (by kernel_rfl) (fun _ _ _ h => h) (Or.inr ⟨by rfl, rfl⟩) (by assumption) ?_
  (try simp only [Act.put, List.setIfInBounds_toArray, List.set_cons_zero, List.set_cons_succ])
  refine wpAnyH_take (i := 14) (oi := { dst := some 25, op := Op.call { callee := Callee.builtin Builtin.len, args := #[Operand.tmp 24], argTypes := #[29] }, type := 3, pos := "l09_key.go:16", after := #[{ on := 13, ground := Ground.data }, { on := 7, ground := Ground.guard }], guard := some (7, false) }) (v := undef) rfl (by kernel_rfl) (by kernel_rfl) (by kernel_rfl) (fun _ _ _ h => h) (Or.inr ⟨by rfl, rfl⟩) (by assumption) ?_
  (try simp only [Act.put, List.setIfInBounds_toArray, List.set_cons_zero, List.set_cons_succ])
  refine wpAnyH_take (i := 15) (oi := { dst := some 26, op := Op.binOp BinOp.eql 3 (Operand.tmp 25) (Operand.const (Value.int IntKind.i64 0)) 3, type := 4, pos := "l09_key.go:16", after := #[{ on := 14, ground := Ground.data }, { on := 7, ground := Ground.guard }], guard := some (7, false) }) (v := undef) rfl (by kernel_rfl) (by kernel_rfl) (by kernel_rfl) (fun _ _ _ h => h) (Or.inr ⟨by rfl, rfl⟩) (by assumption) ?_
  (try simp only [Act.put, List.setIfInBounds_toArray, List.set_cons_zero, List.set_cons_succ])
  refine wpAnyH_take (i := 16) (oi := { dst := some 27, op := Op.pick (Operand.tmp 18) (Operand.const (Value.bool true)) (Operand.tmp 26), type := 4, pos := "l09_key.go:16", after := #[{ on := 7, ground := Ground.data }, { on := 15, ground := Ground.data }], guard := none }) (v := ?_) rfl (by kernel_rfl) (by kernel_rfl) (by kernel_rfl) (fun _ _ _ h => h) (Or.inl ⟨by rfl, ?_⟩) (by assumption) ?_
  rotate_left
  · intro w' hSw; (try dsimp only at hSw); first | (go_simp; done) | (go_simp; with_reducible rfl)
  (try simp only [Act.put, List.setIfInBounds_toArray, List.set_cons_zero, List.set_cons_succ])
  refine wpAnyH_take (i := 17) (oi := { dst := some 28, op := Op.move (Operand.tmp 27), type := 4, pos := "l09_key.go:16", after := #[{ on := 16, ground := Ground.data }, { on := 7, ground := Ground.chain }], guard := none }) (v := ?_) rfl (by kernel_rfl) (by kernel_rfl) (by kernel_rfl) (fun _ _ _ h => h) (Or.inl ⟨by rfl, ?_⟩) (by assumption) ?_
  rotate_left
  · intro w' hSw; (try dsimp only at hSw); first | (go_simp; done) | (go_simp; with_reducible rfl)
  (try simp only [Act.put, List.setIfInBounds_toArray, List.set_cons_zero, List.set_cons_succ])
  refine wpAnyH_take (i := 18) (oi := { dst := some 29, op := Op.move (Operand.tmp 0), type := 25, pos := "l09_key.go:16", after := #[{ on := 17, ground := Ground.guard }], guard := some (17, false) }) (v := undef) rfl (by kernel_rfl) (by kernel_rfl) (by kernel_rfl) (fun _ _ _ h => h) (Or.inr ⟨by rfl, rfl⟩) (by assumption) ?_
  (try simp only [Act.put, List.setIfInBounds_toArray, List.set_cons_zero, List.set_cons_succ])
  refine wpAnyH_take (i := 19) (oi := { dst := some 30, op := Op.move (Operand.tmp 3), type := 3, pos := "l09_key.go:16", after := #[{ on := 17, ground := Ground.guard }], guard := some (17, false) }) (v := undef) rfl (by kernel_rfl) (by kernel_rfl) (by kernel_rfl) (fun _ _ _ h => h) (Or.inr ⟨by rfl, rfl⟩) (by assumption) ?_
  (try simp only [Act.put, List.setIfInBounds_toArray, List.set_cons_zero, List.set_cons_succ])
  refine wpAnyH_take (i := 20) (oi := { dst := some 31, op := Op.indexAddr 25 (Operand.tmp 29) (Operand.tmp 30), type := 0, pos := "l09_key.go:16", after := #[{ on := 18, ground := Ground.data }, { on := 19, ground := Ground.data }, { on := 17, ground := Ground.guard }], guard := some (17, false) }) (v := undef) rfl (by kernel_rfl) (by kernel_rfl) (by kernel_rfl) (fun _ _ _ h => h) (Or.inr ⟨by rfl, rfl⟩) (by assumption) ?_
  (try simp only [Act.put, List.setIfInBounds_toArray, List.set_cons_zero, List.set_cons_succ])
  refine wpAnyH_take (i := 21) (oi := { dst := some 32, op := Op.fieldAddr 67 (Operand.tmp 31) 1, type := 0, pos := "l09_key.go:16", after := #[{ on := 20, ground := Ground.data }, { on := 17, ground := Ground.guard }], guard := some (17, false) }) (v := undef) rfl (by kernel_rfl) (by kernel_rfl) (by kernel_rfl) (fun _ _ _ h => h) (Or.inr ⟨by rfl, rfl⟩) (by assumption) ?_
  (try simp only [Act.put, List.setIfInBounds_toArray, List.set_cons_zero, List.set_cons_succ])
  refine wpAnyH_take (i := 22) (oi := { dst := some 33, op := Op.load 3 (Operand.tmp 32), type := 3, pos := "l09_key.go:16", after := #[{ on := 21, ground := Ground.data }, { on := 17, ground := Ground.guard }], guard := some (17, false) }) (v := undef) rfl (by kernel_rfl) (by kernel_rfl) (by kernel_rfl) (fun _ _ _ h => h) (Or.inr ⟨by rfl, rfl⟩) (by assumption) ?_
  (try simp only [Act.put, List.setIfInBounds_toArray, List.set_cons_zero, List.set_cons_succ])
  refine wpAnyH_take (i := 23) (oi := { dst := some 34, op := Op.call { callee := Callee.value (Operand.func 49), args := #[Operand.tmp 33], argTypes := #[3] }, type := 4, pos := "l09_key.go:16", after := #[{ on := 22, ground := Ground.data }, { on := 17, ground := Ground.chain }, { on := 17, ground := Ground.guard }], guard := some (17, false) }) (v := undef) rfl (by kernel_rfl) (by kernel_rfl) (by kernel_rfl) (fun _ _ _ h => h) (Or.inr ⟨by rfl, rfl⟩) (by assumption) ?_
  (try simp only [Act.put, List.setIfInBounds_toArray, List.set_cons_zero, List.set_cons_succ])
  refine wpAnyH_take (i := 24) (oi := { dst := some 35, op := Op.unOp UnOp.not 4 (Operand.tmp 34), type := 4, pos := "l09_key.go:16", after := #[{ on := 23, ground := Ground.data }, { on := 17, ground := Ground.guard }], guard := some (17, false) }) (v := undef) rfl (by kernel_rfl) (by kernel_rfl) (by kernel_rfl) (fun _ _ _ h => h) (Or.inr ⟨by rfl, rfl⟩) (by assumption) ?_
  (try simp only [Act.put, List.setIfInBounds_toArray, List.set_cons_zero, List.set_cons_succ])
  refine wpAnyH_take (i := 25) (oi := { dst := some 36, op := Op.pick (Operand.tmp 28) (Operand.const (Value.bool true)) (Operand.tmp 35), type := 4, pos := "l09_key.go:16", after := #[{ on := 17, ground := Ground.data }, { on := 24, ground := Ground.data }], guard := none }) (v := ?_) rfl (by kernel_rfl) (by kernel_rfl) (by kernel_rfl) (fun _ _ _ h => h) (Or.inl ⟨by rfl, ?_⟩) (by assumption) ?_
  rotate_left
  · intro w' hSw; (try dsimp only at hSw); first | (go_simp; done) | (go_simp; with_reducible rfl)
  (try simp only [Act.put, List.setIfInBounds_toArray, List.set_cons_zero, List.set_cons_succ])
  refine wpAnyH_take (i := 26) (oi := { dst := some 37, op := Op.move (Operand.tmp 36), type := 4, pos := "l09_key.go:16", after := #[{ on := 25, ground := Ground.data }, { on := 23, ground := Ground.chain }], guard := none }) (v := ?_) rfl (by kernel_rfl) (by kernel_rfl) (by kernel_rfl) (fun _ _ _ h => h) (Or.inl ⟨by rfl, ?_⟩) (by assumption) ?_
  rotate_left
  · intro w' hSw; (try dsimp only at hSw); first | (go_simp; done) | (go_simp; with_reducible rfl)
  (try simp only [Act.put, List.setIfInBounds_toArray, List.set_cons_zero, List.set_cons_succ])
  refine wpAnyH_take (i := 27) (oi := { dst := some 38, op := Op.move (Operand.tmp 0), type := 25, pos := "l09_key.go:16", after := #[{ on := 26, ground := Ground.guard }], guard := some (26, false) }) (v := undef) rfl (by kernel_rfl) (by kernel_rfl) (by kernel_rfl) (fun _ _ _ h => h) (Or.inr ⟨by rfl, rfl⟩) (by assumption) ?_
  (try simp only [Act.put, List.setIfInBounds_toArray, List.set_cons_zero, List.set_cons_succ])
  refine wpAnyH_take (i := 28) (oi := { dst := some 39, op := Op.move (Operand.tmp 3), type := 3, pos := "l09_key.go:16", after := #[{ on := 26, ground := Ground.guard }], guard := some (26, false) }) (v := undef) rfl (by kernel_rfl) (by kernel_rfl) (by kernel_rfl) (fun _ _ _ h => h) (Or.inr ⟨by rfl, rfl⟩) (by assumption) ?_
  (try simp only [Act.put, List.setIfInBounds_toArray, List.set_cons_zero, List.set_cons_succ])
  refine wpAnyH_take (i := 29) (oi := { dst := some 40, op := Op.slice 25 (Operand.tmp 38) none (some (Operand.tmp 39)) none, type := 25, pos := "l09_key.go:16", after := #[{ on := 27, ground := Ground.data }, { on := 28, ground := Ground.data }, { on := 26, ground := Ground.guard }], guard := some (26, false) }) (v := undef) rfl (by kernel_rfl) (by kernel_rfl) (by kernel_rfl) (fun _ _ _ h => h) (Or.inr ⟨by rfl, rfl⟩) (by assumption) ?_
  (try simp only [Act.put, List.setIfInBounds_toArray, List.set_cons_zero, List.set_cons_succ])
  refine wpAnyH_take (i := 30) (oi := { dst := some 41, op := Op.move (Operand.tmp 0), type := 25, pos := "l09_key.go:16", after := #[{ on := 26, ground := Ground.guard }], guard := some (26, false) }) (v := undef) rfl (by kernel_rfl) (by kernel_rfl) (by kernel_rfl) (fun _ _ _ h => h) (Or.inr ⟨by rfl, rfl⟩) (by assumption) ?_
  (try simp only [Act.put, List.setIfInBounds_toArray, List.set_cons_zero, List.set_cons_succ])
  refine wpAnyH_take (i := 31) (oi := { dst := some 42, op := Op.move (Operand.tmp 3), type := 3, pos := "l09_key.go:16", after := #[{ on := 26, ground := Ground.guard }], guard := some (26, false) }) (v := undef) rfl (by kernel_rfl) (by kernel_rfl) (by kernel_rfl) (fun _ _ _ h => h) (Or.inr ⟨by rfl, rfl⟩) (by assumption) ?_
  (try simp only [Act.put, List.setIfInBounds_toArray, List.set_cons_zero, List.set_cons_succ])
  refine wpAnyH_take (i := 32) (oi := { dst := some 43, op := Op.indexAddr 25 (Operand.tmp 41) (Operand.tmp 42), type := 0, pos := "l09_key.go:16", after := #[{ on := 30, ground := Ground.data }, { on := 31, ground := Ground.data }, { on := 26, ground := Ground.guard }], guard := some (26, false) }) (v := undef) rfl (by kernel_rfl) (by kernel_rfl) (by kernel_rfl) (fun _ _ _ h => h) (Or.inr ⟨by rfl, rfl⟩) (by assumption) ?_
  (try simp only [Act.put, List.setIfInBounds_toArray, List.set_cons_zero, List.set_cons_succ])
  refine wpAnyH_take (i := 33) (oi := { dst := some 44, op := Op.fieldAddr 67 (Operand.tmp 43) 0, type := 0, pos := "l09_key.go:16", after := #[{ on := 32, ground := Ground.data }, { on := 26, ground := Ground.guard }], guard := some (26, false) }) (v := undef) rfl (by kernel_rfl) (by kernel_rfl) (by kernel_rfl) (fun _ _ _ h => h) (Or.inr ⟨by rfl, rfl⟩) (by assumption) ?_
  (try simp only [Act.put, List.setIfInBounds_toArray, List.set_cons_zero, List.set_cons_succ])
  refine wpAnyH_take (i := 34) (oi := { dst := some 45, op := Op.load 34 (Operand.tmp 44), type := 34, pos := "l09_key.go:16", after := #[{ on := 33, ground := Ground.data }, { on := 26, ground := Ground.guard }], guard := some (26, false) }) (v := undef) rfl (by kernel_rfl) (by kernel_rfl) (by kernel_rfl) (fun _ _ _ h => h) (Or.inr ⟨by rfl, rfl⟩) (by assumption) ?_
  (try simp only [Act.put, List.setIfInBounds_toArray, List.set_cons_zero, List.set_cons_succ])
  refine wpAnyH_take (i := 35) (oi := { dst := some 46, op := Op.call { callee := Callee.value (Operand.func 50), args := #[Operand.tmp 40, Operand.tmp 45], argTypes := #[25, 34] }, type := 3, pos := "l09_key.go:16", after := #[{ on := 29, ground := Ground.data }, { on := 34, ground := Ground.data }, { on := 26, ground := Ground.chain }, { on := 26, ground := Ground.guard }], guard := some (26, false) }) (v := undef) rfl (by kernel_rfl) (by kernel_rfl) (by kernel_rfl) (fun _ _ _ h => h) (Or.inr ⟨by rfl, rfl⟩) (by assumption) ?_
  (try simp only [Act.put, List.setIfInBounds_toArray, List.set_cons_zero, List.set_cons_succ])
  refine wpAnyH_take (i := 36) (oi := { dst := some 47, op := Op.binOp BinOp.geq 3 (Operand.tmp 46) (Operand.const (Value.int IntKind.i64 0)) 3, type := 4, pos := "l09_key.go:16", after := #[{ on := 35, ground := Ground.data }, { on := 26, ground := Ground.guard }], guard := some (26, false) }) (v := undef) rfl (by kernel_rfl) (by kernel_rfl) (by kernel_rfl) (fun _ _ _ h => h) (Or.inr ⟨by rfl, rfl⟩) (by assumption) ?_
  (try simp only [Act.put, List.setIfInBounds_toArray, List.set_cons_zero, List.set_cons_succ])
  refine wpAnyH_take (i := 37) (oi := { dst := some 48, op := Op.pick (Operand.tmp 37) (Operand.const (Value.bool true)) (Operand.tmp 47), type := 4, pos := "l09_key.go:16", after := #[{ on := 26, ground := Ground.data }, { on := 36, ground := Ground.data }], guard := none }) (v := ?_) rfl (by kernel_rfl) (by kernel_rfl) (by kernel_rfl) (fun _ _ _ h => h) (Or.inl ⟨by rfl, ?_⟩) (by assumption) ?_
  rotate_left
  · intro w' hSw; (try dsimp only at hSw); first | (go_simp; done) | (go_simp; with_reducible rfl)
  (try simp only [Act.put, List.setIfInBounds_toArray, List.set_cons_zero, List.set_cons_succ])
  refine wpAnyH_done (by kernel_rfl) ?_ _
  exact NoPanic.normal (HQ.out _ _ _ _ _ _ _ _ _ _ _ _ _ _ _ _ _ _ _ _ _ _ _ _ _ _ _ _ _ _ _ _ _ _ _ _ _ _ BB.out)

set_option maxRecDepth 100000 in
set_option maxHeartbeats 4000000 in
theorem regK2 {Q : Exit → Act → World → Prop} {v1 v2 v4 v5 v6 v7 v8 v9 v10 v11 v12 v13 v14 v15 v16 v17 v18 v19 v20 v21 v22 v23 v24 v25 v26 v27 v28 v29 v30 v31 v32 v33 v34 v35 v36 v37 v38 v39 v40 v41 v42 v43 v44 v45 v46 v47 v48 v49 v50 v51 v52 v53 v54 v55 v56 v57 v58 v59 v60 v61 v62 v63 v64 v65 v66 v67 : Value} {w : World} {b off n cx k ca : Nat} {s : Int} {xa : Option Addr} {la : List ByteArray} (hk : k < n) (hkc : k ≤ cx) (hn : n ≤ 4000000) (K1 : Hid (w.cell? ⟨b, off + k * 2, none⟩ = some (.slice xa 0 ca))) (K2 : Hid (w.cell? ⟨b, off + k * 2 + 1, none⟩ = some (.int .i64 s))) (H_a : Hid (Holds Value.string w (.slice xa 0 ca) la)) (HS : Hid (bulk la ≤ 9000000)) (HV : Hid (validN la = true))
    (hQ : ∀ (u11 u12 u13 u14 u15 u16 u17 u18 u19 u20 u21 u22 u23 u24 u25 u26 u27 u28 u29 u30 u31 u32 u33 u34 u35 u36 u37 u38 u39 u40 u41 u42 u43 u44 u45 u46 u47 : Value) (wx : World), Below w.heap.size w wx → Q .normal ⟨#[.slice (some ⟨b, off, none⟩) n cx, v1, v2, .int .i64 k, v4, v5, v6, v7, v8, v9, v10, u11, u12, u13, u14, u15, u16, u17, u18, u19, u20, u21, u22, u23, u24, u25, u26, u27, u28, u29, u30, u31, u32, u33, u34, u35, u36, u37, u38, u39, u40, u41, u42, u43, u44, u45, u46, u47, .bool true, v49, v50, v51, v52, v53, v54, v55, v56, v57, v58, v59, v60, v61, v62, v63, v64, v65, v66, v67], []⟩ wx) :
    (Code.region 4 #[{ dst := some 11, op := Op.move (Operand.tmp 0), type := 25, pos := "l09_key.go:16", after := #[], guard := none },
      { dst := some 12, op := Op.move (Operand.tmp 3), type := 3, pos := "l09_key.go:16", after := #[], guard := none },
      { dst := some 13, op := Op.indexAddr 25 (Operand.tmp 11) (Operand.tmp 12), type := 0, pos := "l09_key.go:16", after := #[{ on := 0, ground := Ground.data }, { on := 1, ground := Ground.data }], guard := none },
      { dst := some 14, op := Op.fieldAddr 67 (Operand.tmp 13) 0, type := 0, pos := "l09_key.go:16", after := #[{ on := 2, ground := Ground.data }], guard := none },
      { dst := some 15, op := Op.load 34 (Operand.tmp 14), type := 34, pos := "l09_key.go:16", after := #[{ on := 3, ground := Ground.data }], guard := none },
      { dst := some 16, op := Op.call { callee := Callee.value (Operand.func 48), args := #[Operand.tmp 15], argTypes := #[34] }, type := 4, pos := "l09_key.go:16", after := #[{ on := 4, ground := Ground.data }], guard := none },
      { dst := some 17, op := Op.unOp UnOp.not 4 (Operand.tmp 16), type := 4, pos := "l09_key.go:16", after := #[{ on := 5, ground := Ground.data }], guard := none },
      { dst := some 18, op := Op.move (Operand.tmp 17), type := 4, pos := "l09_key.go:16", after := #[{ on := 6, ground := Ground.data }, { on := 5, ground := Ground.chain }], guard := none },
      { dst := some 19, op := Op.move (Operand.tmp 0), type := 25, pos := "l09_key.go:16", after := #[{ on := 7, ground := Ground.guard }], guard := some (7, false) },
      { dst := some 20, op := Op.move (Operand.tmp 3), type := 3, pos := "l09_key.go:16", after := #[{ on := 7, ground := Ground.guard }], guard := some (7, false) },
      { dst := some 21, op := Op.indexAddr 25 (Operand.tmp 19) (Operand.tmp 20), type := 0, pos := "l09_key.go:16", after := #[{ on := 8, ground := Ground.data }, { on := 9, ground := Ground.data }, { on := 7, ground := Ground.guard }], guard := some (7, false) },
      { dst := some 22, op := Op.fieldAddr 67 (Operand.tmp 21) 0, type := 0, pos := "l09_key.go:16", after := #[{ on := 10, ground := Ground.data }, { on := 7, ground := Ground.guard }], guard := some (7, false) },
      { dst := some 23, op := Op.fieldAddr 34 (Operand.tmp 22) 0, type := 0, pos := "l09_key.go:16", after := #[{ on := 11, ground := Ground.data }, { on := 7, ground := Ground.guard }], guard := some (7, false) },
      { dst := some 24, op := Op.load 29 (Operand.tmp 23), type := 29, pos := "l09_key.go:16", after := #[{ on := 12, ground := Ground.data }, { on := 7, ground := Ground.guard }], guard := some (7, false) },
      { dst := some 25, op := Op.call { callee := Callee.builtin Builtin.len, args := #[Operand.tmp 24], argTypes := #[29] }, type := 3, pos := "l09_key.go:16", after := #[{ on := 13, ground := Ground.data }, { on := 7, ground := Ground.guard }], guard := some (7, false) },
      { dst := some 26, op := Op.binOp BinOp.eql 3 (Operand.tmp 25) (Operand.const (Value.int IntKind.i64 0)) 3, type := 4, pos := "l09_key.go:16", after := #[{ on := 14, ground := Ground.data }, { on := 7, ground := Ground.guard }], guard := some (7, false) },
      { dst := some 27, op := Op.pick (Operand.tmp 18) (Operand.const (Value.bool true)) (Operand.tmp 26), type := 4, pos := "l09_key.go:16", after := #[{ on := 7, ground := Ground.data }, { on := 15, ground := Ground.data }], guard := none },
      { dst := some 28, op := Op.move (Operand.tmp 27), type := 4, pos := "l09_key.go:16", after := #[{ on := 16, ground := Ground.data }, { on := 7, ground := Ground.chain }], guard := none },
      { dst := some 29, op := Op.move (Operand.tmp 0), type := 25, pos := "l09_key.go:16", after := #[{ on := 17, ground := Ground.guard }], guard := some (17, false) },
      { dst := some 30, op := Op.move (Operand.tmp 3), type := 3, pos := "l09_key.go:16", after := #[{ on := 17, ground := Ground.guard }], guard := some (17, false) },
      { dst := some 31, op := Op.indexAddr 25 (Operand.tmp 29) (Operand.tmp 30), type := 0, pos := "l09_key.go:16", after := #[{ on := 18, ground := Ground.data }, { on := 19, ground := Ground.data }, { on := 17, ground := Ground.guard }], guard := some (17, false) },
      { dst := some 32, op := Op.fieldAddr 67 (Operand.tmp 31) 1, type := 0, pos := "l09_key.go:16", after := #[{ on := 20, ground := Ground.data }, { on := 17, ground := Ground.guard }], guard := some (17, false) },
      { dst := some 33, op := Op.load 3 (Operand.tmp 32), type := 3, pos := "l09_key.go:16", after := #[{ on := 21, ground := Ground.data }, { on := 17, ground := Ground.guard }], guard := some (17, false) },
      { dst := some 34, op := Op.call { callee := Callee.value (Operand.func 49), args := #[Operand.tmp 33], argTypes := #[3] }, type := 4, pos := "l09_key.go:16", after := #[{ on := 22, ground := Ground.data }, { on := 17, ground := Ground.chain }, { on := 17, ground := Ground.guard }], guard := some (17, false) },
      { dst := some 35, op := Op.unOp UnOp.not 4 (Operand.tmp 34), type := 4, pos := "l09_key.go:16", after := #[{ on := 23, ground := Ground.data }, { on := 17, ground := Ground.guard }], guard := some (17, false) },
      { dst := some 36, op := Op.pick (Operand.tmp 28) (Operand.const (Value.bool true)) (Operand.tmp 35), type := 4, pos := "l09_key.go:16", after := #[{ on := 17, ground := Ground.data }, { on := 24, ground := Ground.data }], guard := none },
      { dst := some 37, op := Op.move (Operand.tmp 36), type := 4, pos := "l09_key.go:16", after := #[{ on := 25, ground := Ground.data }, { on := 23, ground := Ground.chain }], guard := none },
      { dst := some 38, op := Op.move (Operand.tmp 0), type := 25, pos := "l09_key.go:16", after := #[{ on := 26, ground := Ground.guard }], guard := some (26, false) },
      { dst := some 39, op := Op.move (Operand.tmp 3), type := 3, pos := "l09_key.go:16", after := #[{ on := 26, ground := Ground.guard }], guard := some (26, false) },
      { dst := some 40, op := Op.slice 25 (Operand.tmp 38) none (some (Operand.tmp 39)) none, type := 25, pos := "l09_key.go:16", after := #[{ on := 27, ground := Ground.data }, { on := 28, ground := Ground.data }, { on := 26, ground := Ground.guard }], guard := some (26, false) },
      { dst := some 41, op := Op.move (Operand.tmp 0), type := 25, pos := "l09_key.go:16", after := #[{ on := 26, ground := Ground.guard }], guard := some (26, false) },
      { dst := some 42, op := Op.move (Operand.tmp 3), type := 3, pos := "l09_key.go:16", after := #[{ on := 26, ground := Ground.guard }], guard := some (26, false) },
      { dst := some 43, op := Op.indexAddr 25 (Operand.tmp 41) (Operand.tmp 42), type := 0, pos := "l09_key.go:16", after := #[{ on := 30, ground := Ground.data }, { on := 31, ground := Ground.data }, { on := 26, ground := Ground.guard }], guard := some (26, false) },
      { dst := some 44, op := Op.fieldAddr 67 (Operand.tmp 43) 0, type := 0, pos := "l09_key.go:16", after := #[{ on := 32, ground := Ground.data }, { on := 26, ground := Ground.guard }], guard := some (26, false) },
      { dst := some 45, op := Op.load 34 (Operand.tmp 44), type := 34, pos := "l09_key.go:16", after := #[{ on := 33, ground := Ground.data }, { on := 26, ground := Ground.guard }], guard := some (26, false) },
      { dst := some 46, op := Op.call { callee := Callee.value (Operand.func 50), args := #[Operand.tmp 40, Operand.tmp 45], argTypes := #[25, 34] }, type := 3, pos := "l09_key.go:16", after := #[{ on := 29, ground := Ground.data }, { on := 34, ground := Ground.data }, { on := 26, ground := Ground.chain }, { on := 26, ground := Ground.guard }], guard := some (26, false) },
      { dst := some 47, op := Op.binOp BinOp.geq 3 (Operand.tmp 46) (Operand.const (Value.int IntKind.i64 0)) 3, type := 4, pos := "l09_key.go:16", after := #[{ on := 35, ground := Ground.data }, { on := 26, ground := Ground.guard }], guard := some (26, false) },
      { dst := some 48, op := Op.pick (Operand.tmp 37) (Operand.const (Value.bool true)) (Operand.tmp 47), type := 4, pos := "l09_key.go:16", after := #[{ on := 26, ground := Ground.data }, { on := 36, ground := Ground.data }], guard := none }] true).wp Try.prog Q ⟨#[.slice (some ⟨b, off, none⟩) n cx, v1, v2, .int .i64 k, v4, v5, v6, v7, v8, v9, v10, v11, v12, v13, v14, v15, v16, v17, v18, v19, v20, v21, v22, v23, v24, v25, v26, v27, v28, v29, v30, v31, v32, v33, v34, v35, v36, v37, v38, v39, v40, v41, v42, v43, v44, v45, v46, v47, v48, v49, v50, v51, v52, v53, v54, v55, v56, v57, v58, v59, v60, v61, v62, v63, v64, v65, v66, v67], []⟩ w := by
  have HQ := Lib.hid hQ; clear hQ
  have hdr : Below w.heap.size w w.drew := (Below.refl _ _).drew
  have Hd_a := Lib.hid (H_a.out.on hdr)
  replace K1 := Lib.hid ((hdr.cell (cell_lt K1.out)).trans K1.out)
  replace K2 := Lib.hid ((hdr.cell (cell_lt K2.out)).trans K2.out)
  have BB := Lib.hid hdr; clear hdr
  refine wp_region_noPanic ?_
  refine wp_region_held_drew (S := (fun w' => w'.cell? ⟨b, off + k * 2, none⟩ = some (.slice xa 0 ca) ∧ w'.cell? ⟨b, off + k * 2 + 1, none⟩ = some (.int .i64 s))) (by kernel_rfl) ?_ (fun hHeld => ?_)
  · exact ⟨K1.out, K2.out⟩
  refine wpAnyH_take (i := 0) (oi := { dst := some 11, op := Op.move (Operand.tmp 0), type := 25, pos := "l09_key.go:16", after := #[], guard := none }) (v := ?_) rfl (by kernel_rfl) (by kernel_rfl) (by kernel_rfl) (fun _ _ _ h => h) (Or.inl ⟨by rfl, ?_⟩) (by assumption) ?_
  rotate_left
  · intro w' hSw; (try dsimp only at hSw); first | (go_simp; done) | (go_simp; with_reducible rfl)
  (try simp only [Act.put, List.setIfInBounds_toArray, List.set_cons_zero, List.set_cons_succ])
  refine wpAnyH_take (i := 1) (oi := { dst := some 12, op := Op.move (Operand.tmp 3), type := 3, pos := "l09_key.go:16", after := #[], guard := none }) (v := ?_) rfl (by kernel_rfl) (by kernel_rfl) (by kernel_rfl) (fun _ _ _ h => h) (Or.inl ⟨by rfl, ?_⟩) (by assumption) ?_
  rotate_left
  · intro w' hSw; (try dsimp only at hSw); first | (go_simp; done) | (go_simp; with_reducible rfl)
  (try simp only [Act.put, List.setIfInBounds_toArray, List.set_cons_zero, List.set_cons_succ])
  refine wpAnyH_take (i := 2) (oi := { dst := some 13, op := Op.indexAddr 25 (Operand.tmp 11) (Operand.tmp 12), type := 0, pos := "l09_key.go:16", after := #[{ on := 0, ground := Ground.data }, { on := 1, ground := Ground.data }], guard := none }) (v := ?_) rfl (by kernel_rfl) (by kernel_rfl) (by kernel_rfl) (fun _ _ _ h => h) (Or.inl ⟨by rfl, ?_⟩) (by assumption) ?_
  rotate_left
  · intro w' hSw; (try dsimp only at hSw); first | (go_simp; done) | (go_simp; with_reducible rfl)
  (try simp only [Act.put, List.setIfInBounds_toArray, List.set_cons_zero, List.set_cons_succ])
  refine wpAnyH_take (i := 3) (oi := { dst := some 14, op := Op.fieldAddr 67 (Operand.tmp 13) 0, type := 0, pos := "l09_key.go:16", after := #[{ on := 2, ground := Ground.data }], guard := none }) (v := ?_) rfl (by kernel_rfl) (by kernel_rfl) (by kernel_rfl) (fun _ _ _ h => h) (Or.inl ⟨by rfl, ?_⟩) (by assumption) ?_
  rotate_left
  · intro w' hSw; (try dsimp only at hSw); first | (go_simp; done) | (go_simp; with_reducible rfl)
  (try simp only [Act.put, List.setIfInBounds_toArray, List.set_cons_zero, List.set_cons_succ])
  refine wpAnyH_take (i := 4) (oi := { dst := some 15, op := Op.load 34 (Operand.tmp 14), type := 34, pos := "l09_key.go:16", after := #[{ on := 3, ground := Ground.data }], guard := none }) (v := ?_) rfl (by kernel_rfl) (by kernel_rfl) (by kernel_rfl) (fun _ _ _ h => h) (Or.inl ⟨by rfl, ?_⟩) (by assumption) ?_
  rotate_left
  · intro w' hSw; (try dsimp only at hSw); first | (go_simp; done) | (go_simp; with_reducible rfl)
  (try simp only [Act.put, List.setIfInBounds_toArray, List.set_cons_zero, List.set_cons_succ])
  refine wpAnyH_ready (rs := [5]) (by kernel_rfl) (by simp) ?_
  refine AllReadyH.cons (o := { dst := some 16, op := Op.call { callee := Callee.value (Operand.func 48), args := #[Operand.tmp 15], argTypes := #[34] }, type := 4, pos := "l09_key.go:16", after := #[{ on := 4, ground := Ground.data }], guard := none }) rfl (fun K hK => ?_) AllReadyH.nil
  go_simp
  refine (sValV true HV.out Hd_a.out HS.out).mono ?_
  rintro e wx ⟨rfl, hb⟩
  replace Hd_a := Lib.hid (Hd_a.out.on hb)
  replace K1 := Lib.hid ((hb.cell (cell_lt K1.out)).trans K1.out)
  replace K2 := Lib.hid ((hb.cell (cell_lt K2.out)).trans K2.out)
  replace BB := Lib.hid (BB.out.trans (hb.mono BB.out.size)); clear hb
  (try go_wp2_with fail)
  clear hHeld
  refine hK.out _ _ ?_ (fun hHeld => ?_)
  · (try dsimp only); exact ⟨K1.out, K2.out⟩
  clear hK K
  (try simp only [Act.put, List.setIfInBounds_toArray, List.set_cons_zero, List.set_cons_succ])
  refine wpAnyH_take (i := 6) (oi := { dst := some 17, op := Op.unOp UnOp.not 4 (Operand.tmp 16), type := 4, pos := "l09_key.go:16", after := #[{ on := 5, ground := Ground.data }], guard := none }) (v := ?_) rfl (by kernel_rfl) (by kernel_rfl) (by kernel_rfl) (fun _ _ _ h => h) (Or.inl ⟨by rfl, ?_⟩) (by assumption) ?_
  rotate_left
  · intro w' hSw; (try dsimp only at hSw); first | (go_simp; done) | (go_simp; with_reducible rfl)
  (try simp only [Act.put, List.setIfInBounds_toArray, List.set_cons_zero, List.set_cons_succ])
  refine wpAnyH_take (i := 7) (oi := { dst := some 18, op := Op.move (Operand.tmp 17), type := 4, pos := "l09_key.go:16", after := #[{ on := 6, ground := Ground.data }, { on := 5, ground := Ground.chain }], guard := none }) (v := ?_) rfl (by kernel_rfl) (by kernel_rfl) (by kernel_rfl) (fun _ _ _ h => h) (Or.inl ⟨by rfl, ?_⟩) (by assumption) ?_
  rotate_left
  · intro w' hSw; (try dsimp only at hSw); first | (go_simp; done) | (go_simp; with_reducible rfl)
  (try simp only [Act.put, List.setIfInBounds_toArray, List.set_cons_zero, List.set_cons_succ])
  refine wpAnyH_take (i := 8) (oi := { dst := some 19, op := Op.move (Operand.tmp 0), type := 25, pos := "l09_key.go:16", after := #[{ on := 7, ground := Ground.guard }], guard := some (7, false) }) (v := ?_) rfl (by kernel_rfl) (by kernel_rfl) (by kernel_rfl) (fun _ _ _ h => h) (Or.inl ⟨by rfl, ?_⟩) (by assumption) ?_
  rotate_left
  · intro w' hSw; (try dsimp only at hSw); first | (go_simp; done) | (go_simp; with_reducible rfl)
  (try simp only [Act.put, List.setIfInBounds_toArray, List.set_cons_zero, List.set_cons_succ])
  refine wpAnyH_take (i := 9) (oi := { dst := some 20, op := Op.move (Operand.tmp 3), type := 3, pos := "l09_key.go:16", after := #[{ on := 7, ground := Ground.guard }], guard := some (7, false) }) (v := ?_) rfl (by kernel_rfl) (by kernel_rfl) (by kernel_rfl) (fun _ _ _ h => h) (Or.inl ⟨by rfl, ?_⟩) (by assumption) ?_
  rotate_left
  · intro w' hSw; (try dsimp only at hSw); first | (go_simp; done) | (go_simp; with_reducible rfl)
  (try simp only [Act.put, List.setIfInBounds_toArray, List.set_cons_zero, List.set_cons_succ])
  refine wpAnyH_take (i := 10) (oi := { dst := some 21, op := Op.indexAddr 25 (Operand.tmp 19) (Operand.tmp 20), type := 0, pos := "l09_key.go:16", after := #[{ on := 8, ground := Ground.data }, { on := 9, ground := Ground.data }, { on := 7, ground := Ground.guard }], guard := some (7, false) }) (v := ?_) rfl (by kernel_rfl) (by kernel_rfl) (by kernel_rfl) (fun _ _ _ h => h) (Or.inl ⟨by rfl, ?_⟩) (by assumption) ?_
  rotate_left
  · intro w' hSw; (try dsimp only at hSw); first | (go_simp; done) | (go_simp; with_reducible rfl)
  (try simp only [Act.put, List.setIfInBounds_toArray, List.set_cons_zero, List.set_cons_succ])
  refine wpAnyH_take (i := 11) (oi := { dst := some 22, op := Op.fieldAddr 67 (Operand.tmp 21) 0, type := 0, pos := "l09_key.go:16", after := #[{ on := 10, ground := Ground.data }, { on := 7, ground := Ground.guard }], guard := some (7, false) }) (v := ?_) rfl (by kernel_rfl) (by kernel_rfl) (by kernel_rfl) (fun _ _ _ h => h) (Or.inl ⟨by rfl, ?_⟩) (by assumption) ?_
  rotate_left
  · intro w' hSw; (try dsimp only at hSw); first | (go_simp; done) | (go_simp; with_reducible rfl)
  (try simp only [Act.put, List.setIfInBounds_toArray, List.set_cons_zero, List.set_cons_succ])
  refine wpAnyH_take (i := 12) (oi := { dst := some 23, op := Op.fieldAddr 34 (Operand.tmp 22) 0, type := 0, pos := "l09_key.go:16", after := #[{ on := 11, ground := Ground.data }, { on := 7, ground := Ground.guard }], guard := some (7, false) }) (v := ?_) rfl (by kernel_rfl) (by kernel_rfl) (by kernel_rfl) (fun _ _ _ h => h) (Or.inl ⟨by rfl, ?_⟩) (by assumption) ?_
  rotate_left
  · intro w' hSw; (try dsimp only at hSw); first | (go_simp; done) | (go_simp; with_reducible rfl)
  (try simp only [Act.put, List.setIfInBounds_toArray, List.set_cons_zero, List.set_cons_succ])
  refine wpAnyH_take (i := 13) (oi := { dst := some 24, op := Op.load 29 (Operand.tmp 23), type := 29, pos := "l09_key.go:16", after := #[{ on := 12, ground := Ground.data }, { on := 7, ground := Ground.guard }], guard := some (7, false) }) (v := ?_) rfl (by kernel_rfl) (by kernel_rfl) (by kernel_rfl) (fun _ _ _ h => h) (Or.inl ⟨by rfl, ?_⟩) (by assumption) ?_
  rotate_left
  · intro w' hSw; (try dsimp only at hSw); first | (go_simp; done) | (go_simp; with_reducible rfl)
  (try simp only [Act.put, List.setIfInBounds_toArray, List.set_cons_zero, List.set_cons_succ])
  refine wpAnyH_take (i := 14) (oi := { dst := some 25, op := Op.call { callee := Callee.builtin Builtin.len, args := #[Operand.tmp 24], argTypes := #[29] }, type := 3, pos := "l09_key.go:16", after := #[{ on := 13, ground := Ground.data }, { on := 7, ground := Ground.guard }], guard := some (7, false) }) (v := ?_) rfl (by kernel_rfl) (by kernel_rfl) (by kernel_rfl) (fun _ _ _ h => h) (Or.inl ⟨by rfl, ?_⟩) (by assumption) ?_
  rotate_left
  · intro w' hSw; (try dsimp only at hSw); first | (go_simp; done) | (go_simp; with_reducible rfl)
  (try simp only [Act.put, List.setIfInBounds_toArray, List.set_cons_zero, List.set_cons_succ])
  refine wpAnyH_take (i := 15) (oi := { dst := some 26, op := Op.binOp BinOp.eql 3 (Operand.tmp 25) (Operand.const (Value.int IntKind.i64 0)) 3, type := 4, pos := "l09_key.go:16", after := #[{ on := 14, ground := Ground.data }, { on := 7, ground := Ground.guard }], guard := some (7, false) }) (v := ?_) rfl (by kernel_rfl) (by kernel_rfl) (by kernel_rfl) (fun _ _ _ h => h) (Or.inl ⟨by rfl, ?_⟩) (by assumption) ?_
  rotate_left
  · intro w' hSw; (try dsimp only at hSw); first | (go_simp; done) | (go_simp; with_reducible rfl)
  (try simp only [Act.put, List.setIfInBounds_toArray, List.set_cons_zero, List.set_cons_succ])
  refine wpAnyH_take (i := 16) (oi := { dst := some 27, op := Op.pick (Operand.tmp 18) (Operand.const (Value.bool true)) (Operand.tmp 26), type := 4, pos := "l09_key.go:16", after := #[{ on := 7, ground := Ground.data }, { on := 15, ground := Ground.data }], guard := none }) (v := ?_) rfl (by kernel_rfl) (by kernel_rfl) (by kernel_rfl) (fun _ _ _ h => h) (Or.inl ⟨by rfl, ?_⟩) (by assumption) ?_
  rotate_left
  · intro w' hSw; (try dsimp only at hSw); first | (go_simp; done) | (go_simp; with_reducible rfl)
  (try simp only [Act.put, List.setIfInBounds_toArray, List.set_cons_zero, List.set_cons_succ])
  refine wpAnyH_take (i := 17) (oi := { dst := some 28, op := Op.move (Operand.tmp 27), type := 4, pos := "l09_key.go:16", after := #[{ on := 16, ground := Ground.data }, { on := 7, ground := Ground.chain }], guard := none }) (v := ?_) rfl (by kernel_rfl) (by kernel_rfl) (by kernel_rfl) (fun _ _ _ h => h) (Or.inl ⟨by rfl, ?_⟩) (by assumption) ?_
  rotate_left
  · intro w' hSw; (try dsimp only at hSw); first | (go_simp; done) | (go_simp; with_reducible rfl)
  (try simp only [Act.put, List.setIfInBounds_toArray, List.set_cons_zero, List.set_cons_succ])
  refine wpAnyH_take (i := 18) (oi := { dst := some 29, op := Op.move (Operand.tmp 0), type := 25, pos := "l09_key.go:16", after := #[{ on := 17, ground := Ground.guard }], guard := some (17, false) }) (v := undef) rfl (by kernel_rfl) (by kernel_rfl) (by kernel_rfl) (fun _ _ _ h => h) (Or.inr ⟨by rfl, rfl⟩) (by assumption) ?_
  (try simp only [Act.put, List.setIfInBounds_toArray, List.set_cons_zero, List.set_cons_succ])
  refine wpAnyH_take (i := 19) (oi := { dst := some 30, op := Op.move (Operand.tmp 3), type := 3, pos := "l09_key.go:16", after := #[{ on := 17, ground := Ground.guard }], guard := some (17, false) }) (v := undef) rfl (by kernel_rfl) (by kernel_rfl) (by kernel_rfl) (fun _ _ _ h => h) (Or.inr ⟨by rfl, rfl⟩) (by assumption) ?_
  (try simp only [Act.put, List.setIfInBounds_toArray, List.set_cons_zero, List.set_cons_succ])
  refine wpAnyH_take (i := 20) (oi := { dst := some 31, op := Op.indexAddr 25 (Operand.tmp 29) (Operand.tmp 30), type := 0, pos := "l09_key.go:16", after := #[{ on := 18, ground := Ground.data }, { on := 19, ground := Ground.data }, { on := 17, ground := Ground.guard }], guard := some (17, false) }) (v := undef) rfl (by kernel_rfl) (by kernel_rfl) (by kernel_rfl) (fun _ _ _ h => h) (Or.inr ⟨by rfl, rfl⟩) (by assumption) ?_
  (try simp only [Act.put, List.setIfInBounds_toArray, List.set_cons_zero, List.set_cons_succ])
  refine wpAnyH_take (i := 21) (oi := { dst := some 32, op := Op.fieldAddr 67 (Operand.tmp 31) 1, type := 0, pos := "l09_key.go:16", after := #[{ on := 20, ground := Ground.data }, { on := 17, ground := Ground.guard }], guard := some (17, false) }) (v := undef) rfl (by kernel_rfl) (by kernel_rfl) (by kernel_rfl) (fun _ _ _ h => h) (Or.inr ⟨by rfl, rfl⟩) (by assumption) ?_
  (try simp only [Act.put, List.setIfInBounds_toArray, List.set_cons_zero, List.set_cons_succ])
  refine wpAnyH_take (i := 22) (oi := { dst := some 33, op := Op.load 3 (Operand.tmp 32), type := 3, pos := "l09_key.go:16", after := #[{ on := 21, ground := Ground.data }, { on := 17, ground := Ground.guard }], guard := some (17, false) }) (v := undef) rfl (by kernel_rfl) (by kernel_rfl) (by kernel_rfl) (fun _ _ _ h => h) (Or.inr ⟨by rfl, rfl⟩) (by assumption) ?_
  (try simp only [Act.put, List.setIfInBounds_toArray, List.set_cons_zero, List.set_cons_succ])
  refine wpAnyH_take (i := 23) (oi := { dst := some 34, op := Op.call { callee := Callee.value (Operand.func 49), args := #[Operand.tmp 33], argTypes := #[3] }, type := 4, pos := "l09_key.go:16", after := #[{ on := 22, ground := Ground.data }, { on := 17, ground := Ground.chain }, { on := 17, ground := Ground.guard }], guard := some (17, false) }) (v := undef) rfl (by kernel_rfl) (by kernel_rfl) (by kernel_rfl) (fun _ _ _ h => h) (Or.inr ⟨by rfl, rfl⟩) (by assumption) ?_
  (try simp only [Act.put, List.setIfInBounds_toArray, List.set_cons_zero, List.set_cons_succ])
  refine wpAnyH_take (i := 24) (oi := { dst := some 35, op := Op.unOp UnOp.not 4 (Operand.tmp 34), type := 4, pos := "l09_key.go:16", after := #[{ on := 23, ground := Ground.data }, { on := 17, ground := Ground.guard }], guard := some (17, false) }) (v := undef) rfl (by kernel_rfl) (by kernel_rfl) (by kernel_rfl) (fun _ _ _ h => h) (Or.inr ⟨by rfl, rfl⟩) (by assumption) ?_
  (try simp only [Act.put, List.setIfInBounds_toArray, List.set_cons_zero, List.set_cons_succ])
  refine wpAnyH_take (i := 25) (oi := { dst := some 36, op := Op.pick (Operand.tmp 28) (Operand.const (Value.bool true)) (Operand.tmp 35), type := 4, pos := "l09_key.go:16", after := #[{ on := 17, ground := Ground.data }, { on := 24, ground := Ground.data }], guard := none }) (v := ?_) rfl (by kernel_rfl) (by kernel_rfl) (by kernel_rfl) (fun _ _ _ h => h) (Or.inl ⟨by rfl, ?_⟩) (by assumption) ?_
  rotate_left
  · intro w' hSw; (try dsimp only at hSw); first | (go_simp; done) | (go_simp; with_reducible rfl)
  (try simp only [Act.put, List.setIfInBounds_toArray, List.set_cons_zero, List.set_cons_succ])
  refine wpAnyH_take (i := 26) (oi := { dst := some 37, op := Op.move (Operand.tmp 36), type := 4, pos := "l09_key.go:16", after := #[{ on := 25, ground := Ground.data }, { on := 23, ground := Ground.chain }], guard := none }) (v := ?_) rfl (by kernel_rfl) (by kernel_rfl) (by kernel_rfl) (fun _ _ _ h => h) (Or.inl ⟨by rfl, ?_⟩) (by assumption) ?_
  rotate_left
  · intro w' hSw; (try dsimp only at hSw); first | (go_simp; done) | (go_simp; with_reducible rfl)
  (try simp only [Act.put, List.setIfInBounds_toArray, List.set_cons_zero, List.set_cons_succ])
  refine wpAnyH_take (i := 27) (oi := { dst := some 38, op := Op.move (Operand.tmp 0), type := 25, pos := "l09_key.go:16", after := #[{ on := 26, ground := Ground.guard }], guard := some (26, false) }) (v := undef) rfl (by kernel_rfl) (by kernel_rfl) (by kernel_rfl) (fun _ _ _ h => h) (Or.inr ⟨by rfl, rfl⟩) (by assumption) ?_
  (try simp only [Act.put, List.setIfInBounds_toArray, List.set_cons_zero, List.set_cons_succ])
  refine wpAnyH_take (i := 28) (oi := { dst := some 39, op := Op.move (Operand.tmp 3), type := 3, pos := "l09_key.go:16", after := #[{ on := 26, ground := Ground.guard }], guard := some (26, false) }) (v := undef) rfl (by kernel_rfl) (by kernel_rfl) (by kernel_rfl) (fun _ _ _ h => h) (Or.inr ⟨by rfl, rfl⟩) (by assumption) ?_
  (try simp only [Act.put, List.setIfInBounds_toArray, List.set_cons_zero, List.set_cons_succ])
  refine wpAnyH_take (i := 29) (oi := { dst := some 40, op := Op.slice 25 (Operand.tmp 38) none (some (Operand.tmp 39)) none, type := 25, pos := "l09_key.go:16", after := #[{ on := 27, ground := Ground.data }, { on := 28, ground := Ground.data }, { on := 26, ground := Ground.guard }], guard := some (26, false) }) (v := undef) rfl (by kernel_rfl) (by kernel_rfl) (by kernel_rfl) (fun _ _ _ h => h) (Or.inr ⟨by rfl, rfl⟩) (by assumption) ?_
  (try simp only [Act.put, List.setIfInBounds_toArray, List.set_cons_zero, List.set_cons_succ])
  refine wpAnyH_take (i := 30) (oi := { dst := some 41, op := Op.move (Operand.tmp 0), type := 25, pos := "l09_key.go:16", after := #[{ on := 26, ground := Ground.guard }], guard := some (26, false) }) (v := undef) rfl (by kernel_rfl) (by kernel_rfl) (by kernel_rfl) (fun _ _ _ h => h) (Or.inr ⟨by rfl, rfl⟩) (by assumption) ?_
  (try simp only [Act.put, List.setIfInBounds_toArray, List.set_cons_zero, List.set_cons_succ])
  refine wpAnyH_take (i := 31) (oi := { dst := some 42, op := Op.move (Operand.tmp 3), type := 3, pos := "l09_key.go:16", after := #[{ on := 26, ground := Ground.guard }], guard := some (26, false) }) (v := undef) rfl (by kernel_rfl) (by kernel_rfl) (by kernel_rfl) (fun _ _ _ h => h) (Or.inr ⟨by rfl, rfl⟩) (by assumption) ?_
  (try simp only [Act.put, List.setIfInBounds_toArray, List.set_cons_zero, List.set_cons_succ])
  refine wpAnyH_take (i := 32) (oi := { dst := some 43, op := Op.indexAddr 25 (Operand.tmp 41) (Operand.tmp 42), type := 0, pos := "l09_key.go:16", after := #[{ on := 30, ground := Ground.data }, { on := 31, ground := Ground.data }, { on := 26, ground := Ground.guard }], guard := some (26, false) }) (v := undef) rfl (by kernel_rfl) (by kernel_rfl) (by kernel_rfl) (fun _ _ _ h => h) (Or.inr ⟨by rfl, rfl⟩) (by assumption) ?_
  (try simp only [Act.put, List.setIfInBounds_toArray, List.set_cons_zero, List.set_cons_succ])
  refine wpAnyH_take (i := 33) (oi := { dst := some 44, op := Op.fieldAddr 67 (Operand.tmp 43) 0, type := 0, pos := "l09_key.go:16", after := #[{ on := 32, ground := Ground.data }, { on := 26, ground := Ground.guard }], guard := some (26, false) }) (v := undef) rfl (by kernel_rfl) (by kernel_rfl) (by kernel_rfl) (fun _ _ _ h => h) (Or.inr ⟨by rfl, rfl⟩) (by assumption) ?_
  (try simp only [Act.put, List.setIfInBounds_toArray, List.set_cons_zero, List.set_cons_succ])
  refine wpAnyH_take (i := 34) (oi := { dst := some 45, op := Op.load 34 (Operand.tmp 44), type := 34, pos := "l09_key.go:16", after := #[{ on := 33, ground := Ground.data }, { on := 26, ground := Ground.guard }], guard := some (26, false) }) (v := undef) rfl (by kernel_rfl) (by kernel_rfl) (by kernel_rfl) (fun _ _ _ h => h) (Or.inr ⟨by rfl, rfl⟩) (by assumption) ?_
  (try simp only [Act.put, List.setIfInBounds_toArray, List.set_cons_zero, List.set_cons_succ])
  refine wpAnyH_take (i := 35) (oi := { dst := some 46, op := Op.call { callee := Callee.value (Operand.func 50), args := #[Operand.tmp 40, Operand.tmp 45], argTypes := #[25, 34] }, type := 3, pos := "l09_key.go:16", after := #[{ on := 29, ground := Ground.data }, { on := 34, ground := Ground.data }, { on := 26, ground := Ground.chain }, { on := 26, ground := Ground.guard }], guard := some (26, false) }) (v := undef) rfl (by kernel_rfl) (by kernel_rfl) (by kernel_rfl) (fun _ _ _ h => h) (Or.inr ⟨by rfl, rfl⟩) (by assumption) ?_
  (try simp only [Act.put, List.setIfInBounds_toArray, List.set_cons_zero, List.set_cons_succ])
  refine wpAnyH_take (i := 36) (oi := { dst := some 47, op := Op.binOp BinOp.geq 3 (Operand.tmp 46) (Operand.const (Value.int IntKind.i64 0)) 3, type := 4, pos := "l09_key.go:16", after := #[{ on := 35, ground := Ground.data }, { on := 26, ground := Ground.guard }], guard := some (26, false) }) (v := undef) rfl (by kernel_rfl) (by kernel_rfl) (by kernel_rfl) (fun _ _ _ h => h) (Or.inr ⟨by rfl, rfl⟩) (by assumption) ?_
  (try simp only [Act.put, List.setIfInBounds_toArray, List.set_cons_zero, List.set_cons_succ])
  refine wpAnyH_take (i := 37) (oi := { dst := some 48, op := Op.pick (Operand.tmp 37) (Operand.const (Value.bool true)) (Operand.tmp 47), type := 4, pos := "l09_key.go:16", after := #[{ on := 26, ground := Ground.data }, { on := 36, ground := Ground.data }], guard := none }) (v := ?_) rfl (by kernel_rfl) (by kernel_rfl) (by kernel_rfl) (fun _ _ _ h => h) (Or.inl ⟨by rfl, ?_⟩) (by assumption) ?_
  rotate_left
  · intro w' hSw; (try dsimp only at hSw); first | (go_simp; done) | (go_simp; with_reducible rfl)
  (try simp only [Act.put, List.setIfInBounds_toArray, List.set_cons_zero, List.set_cons_succ])
  refine wpAnyH_done (by kernel_rfl) ?_ _
  exact NoPanic.normal (HQ.out _ _ _ _ _ _ _ _ _ _ _ _ _ _ _ _ _ _ _ _ _ _ _ _ _ _ _ _ _ _ _ _ _ _ _ _ _ _ BB.out)

set_option maxRecDepth 100000 in
set_option maxHeartbeats 4000000 in
theorem regK3 {Q : Exit → Act → World → Prop} {v1 v2 v4 v5 v6 v7 v8 v9 v10 v11 v12 v13 v14 v15 v16 v17 v18 v19 v20 v21 v22 v23 v24 v25 v26 v27 v28 v29 v30 v31 v32 v33 v34 v35 v36 v37 v38 v39 v40 v41 v42 v43 v44 v45 v46 v47 v48 v49 v50 v51 v52 v53 v54 v55 v56 v57 v58 v59 v60 v61 v62 v63 v64 v65 v66 v67 : Value} {w : World} {b off n cx k na ca : Nat} {s : Int} {xa : Option Addr} {la : List ByteArray} (hk : k < n) (hkc : k ≤ cx) (hn : n ≤ 4000000) (K1 : Hid (w.cell? ⟨b, off + k * 2, none⟩ = some (.slice xa na ca))) (K2 : Hid (w.cell? ⟨b, off + k * 2 + 1, none⟩ = some (.int .i64 s))) (H_a : Hid (Holds Value.string w (.slice xa na ca) la)) (HS : Hid (bulk la ≤ 9000000)) (hna : ((na : Int) == 0) = false) (HV : Hid (validN la = true)) (HV2 : Hid (Num.inB s 1 2147483646 = false))
    (hQ : ∀ (u11 u12 u13 u14 u15 u16 u17 u18 u19 u20 u21 u22 u23 u24 u25 u26 u27 u28 u29 u30 u31 u32 u33 u34 u35 u36 u37 u38 u39 u40 u41 u42 u43 u44 u45 u46 u47 : Value) (wx : World), Below w.heap.size w wx → Q .normal ⟨#[.slice (some ⟨b, off, none⟩) n cx, v1, v2, .int .i64 k, v4, v5, v6, v7, v8, v9, v10, u11, u12, u13, u14, u15, u16, u17, u18, u19, u20, u21, u22, u23, u24, u25, u26, u27, u28, u29, u30, u31, u32, u33, u34, u35, u36, u37, u38, u39, u40, u41, u42, u43, u44, u45, u46, u47, .bool true, v49, v50, v51, v52, v53, v54, v55, v56, v57, v58, v59, v60, v61, v62, v63, v64, v65, v66, v67], []⟩ wx) :
    (Code.region 4 #[{ dst := some 11, op := Op.move (Operand.tmp 0), type := 25, pos := "l09_key.go:16", after := #[], guard := none },
      { dst := some 12, op := Op.move (Operand.tmp 3), type := 3, pos := "l09_key.go:16", after := #[], guard := none },
      { dst := some 13, op := Op.indexAddr 25 (Operand.tmp 11) (Operand.tmp 12), type := 0, pos := "l09_key.go:16", after := #[{ on := 0, ground := Ground.data }, { on := 1, ground := Ground.data }], guard := none },
      { dst := some 14, op := Op.fieldAddr 67 (Operand.tmp 13) 0, type := 0, pos := "l09_key.go:16", after := #[{ on := 2, ground := Ground.data }], guard := none },
      { dst := some 15, op := Op.load 34 (Operand.tmp 14), type := 34, pos := "l09_key.go:16", after := #[{ on := 3, ground := Ground.data }], guard := none },
      { dst := some 16, op := Op.call { callee := Callee.value (Operand.func 48), args := #[Operand.tmp 15], argTypes := #[34] }, type := 4, pos := "l09_key.go:16", after := #[{ on := 4, ground := Ground.data }], guard := none },
      { dst := some 17, op := Op.unOp UnOp.not 4 (Operand.tmp 16), type := 4, pos := "l09_key.go:16", after := #[{ on := 5, ground := Ground.data }], guard := none },
      { dst := some 18, op := Op.move (Operand.tmp 17), type := 4, pos := "l09_key.go:16", after := #[{ on := 6, ground := Ground.data }, { on := 5, ground := Ground.chain }], guard := none },
      { dst := some 19, op := Op.move (Operand.tmp 0), type := 25, pos := "l09_key.go:16", after := #[{ on := 7, ground := Ground.guard }], guard := some (7, false) },
      { dst := some 20, op := Op.move (Operand.tmp 3), type := 3, pos := "l09_key.go:16", after := #[{ on := 7, ground := Ground.guard }], guard := some (7, false) },
      { dst := some 21, op := Op.indexAddr 25 (Operand.tmp 19) (Operand.tmp 20), type := 0, pos := "l09_key.go:16", after := #[{ on := 8, ground := Ground.data }, { on := 9, ground := Ground.data }, { on := 7, ground := Ground.guard }], guard := some (7, false) },
      { dst := some 22, op := Op.fieldAddr 67 (Operand.tmp 21) 0, type := 0, pos := "l09_key.go:16", after := #[{ on := 10, ground := Ground.data }, { on := 7, ground := Ground.guard }], guard := some (7, false) },
      { dst := some 23, op := Op.fieldAddr 34 (Operand.tmp 22) 0, type := 0, pos := "l09_key.go:16", after := #[{ on := 11, ground := Ground.data }, { on := 7, ground := Ground.guard }], guard := some (7, false) },
      { dst := some 24, op := Op.load 29 (Operand.tmp 23), type := 29, pos := "l09_key.go:16", after := #[{ on := 12, ground := Ground.data }, { on := 7, ground := Ground.guard }], guard := some (7, false) },
      { dst := some 25, op := Op.call { callee := Callee.builtin Builtin.len, args := #[Operand.tmp 24], argTypes := #[29] }, type := 3, pos := "l09_key.go:16", after := #[{ on := 13, ground := Ground.data }, { on := 7, ground := Ground.guard }], guard := some (7, false) },
      { dst := some 26, op := Op.binOp BinOp.eql 3 (Operand.tmp 25) (Operand.const (Value.int IntKind.i64 0)) 3, type := 4, pos := "l09_key.go:16", after := #[{ on := 14, ground := Ground.data }, { on := 7, ground := Ground.guard }], guard := some (7, false) },
      { dst := some 27, op := Op.pick (Operand.tmp 18) (Operand.const (Value.bool true)) (Operand.tmp 26), type := 4, pos := "l09_key.go:16", after := #[{ on := 7, ground := Ground.data }, { on := 15, ground := Ground.data }], guard := none },
      { dst := some 28, op := Op.move (Operand.tmp 27), type := 4, pos := "l09_key.go:16", after := #[{ on := 16, ground := Ground.data }, { on := 7, ground := Ground.chain }], guard := none },
      { dst := some 29, op := Op.move (Operand.tmp 0), type := 25, pos := "l09_key.go:16", after := #[{ on := 17, ground := Ground.guard }], guard := some (17, false) },
      { dst := some 30, op := Op.move (Operand.tmp 3), type := 3, pos := "l09_key.go:16", after := #[{ on := 17, ground := Ground.guard }], guard := some (17, false) },
      { dst := some 31, op := Op.indexAddr 25 (Operand.tmp 29) (Operand.tmp 30), type := 0, pos := "l09_key.go:16", after := #[{ on := 18, ground := Ground.data }, { on := 19, ground := Ground.data }, { on := 17, ground := Ground.guard }], guard := some (17, false) },
      { dst := some 32, op := Op.fieldAddr 67 (Operand.tmp 31) 1, type := 0, pos := "l09_key.go:16", after := #[{ on := 20, ground := Ground.data }, { on := 17, ground := Ground.guard }], guard := some (17, false) },
      { dst := some 33, op := Op.load 3 (Operand.tmp 32), type := 3, pos := "l09_key.go:16", after := #[{ on := 21, ground := Ground.data }, { on := 17, ground := Ground.guard }], guard := some (17, false) },
      { dst := some 34, op := Op.call { callee := Callee.value (Operand.func 49), args := #[Operand.tmp 33], argTypes := #[3] }, type := 4, pos := "l09_key.go:16", after := #[{ on := 22, ground := Ground.data }, { on := 17, ground := Ground.chain }, { on := 17, ground := Ground.guard }], guard := some (17, false) },
      { dst := some 35, op := Op.unOp UnOp.not 4 (Operand.tmp 34), type := 4, pos := "l09_key.go:16", after := #[{ on := 23, ground := Ground.data }, { on := 17, ground := Ground.guard }], guard := some (17, false) },
      { dst := some 36, op := Op.pick (Operand.tmp 28) (Operand.const (Value.bool true)) (Operand.tmp 35), type := 4, pos := "l09_key.go:16", after := #[{ on := 17, ground := Ground.data }, { on := 24, ground := Ground.data }], guard := none },
      { dst := some 37, op := Op.move (Operand.tmp 36), type := 4, pos := "l09_key.go:16", after := #[{ on := 25, ground := Ground.data }, { on := 23, ground := Ground.chain }], guard := none },
      { dst := some 38, op := Op.move (Operand.tmp 0), type := 25, pos := "l09_key.go:16", after := #[{ on := 26, ground := Ground.guard }], guard := some (26, false) },
      { dst := some 39, op := Op.move (Operand.tmp 3), type := 3, pos := "l09_key.go:16", after := #[{ on := 26, ground := Ground.guard }], guard := some (26, false) },
      { dst := some 40, op := Op.slice 25 (Operand.tmp 38) none (some (Operand.tmp 39)) none, type := 25, pos := "l09_key.go:16", after := #[{ on := 27, ground := Ground.data }, { on := 28, ground := Ground.data }, { on := 26, ground := Ground.guard }], guard := some (26, false) },
      { dst := some 41, op := Op.move (Operand.tmp 0), type := 25, pos := "l09_key.go:16", after := #[{ on := 26, ground := Ground.guard }], guard := some (26, false) },
      { dst := some 42, op := Op.move (Operand.tmp 3), type := 3, pos := "l09_key.go:16", after := #[{ on := 26, ground := Ground.guard }], guard := some (26, false) },
      { dst := some 43, op := Op.indexAddr 25 (Operand.tmp 41) (Operand.tmp 42), type := 0, pos := "l09_key.go:16", after := #[{ on := 30, ground := Ground.data }, { on := 31, ground := Ground.data }, { on := 26, ground := Ground.guard }], guard := some (26, false) },
      { dst := some 44, op := Op.fieldAddr 67 (Operand.tmp 43) 0, type := 0, pos := "l09_key.go:16", after := #[{ on := 32, ground := Ground.data }, { on := 26, ground := Ground.guard }], guard := some (26, false) },
      { dst := some 45, op := Op.load 34 (Operand.tmp 44), type := 34, pos := "l09_key.go:16", after := #[{ on := 33, ground := Ground.data }, { on := 26, ground := Ground.guard }], guard := some (26, false) },
      { dst := some 46, op := Op.call { callee := Callee.value (Operand.func 50), args := #[Operand.tmp 40, Operand.tmp 45], argTypes := #[25, 34] }, type := 3, pos := "l09_key.go:16", after := #[{ on := 29, ground := Ground.data }, { on := 34, ground := Ground.data }, { on := 26, ground := Ground.chain }, { on := 26, ground := Ground.guard }], guard := some (26, false) },
      { dst := some 47, op := Op.binOp BinOp.geq 3 (Operand.tmp 46) (Operand.const (Value.int IntKind.i64 0)) 3, type := 4, pos := "l09_key.go:16", after := #[{ on := 35, ground := Ground.data }, { on := 26, ground := Ground.guard }], guard := some (26, false) },
      { dst := some 48, op := Op.pick (Operand.tmp 37) (Operand.const (Value.bool true)) (Operand.tmp 47), type := 4, pos := "l09_key.go:16", after := #[{ on := 26, ground := Ground.data }, { on := 36, ground := Ground.data }], guard := none }] true).wp Try.prog Q ⟨#[.slice (some ⟨b, off, none⟩) n cx, v1, v2, .int .i64 k, v4, v5, v6, v7, v8, v9, v10, v11, v12, v13, v14, v15, v16, v17, v18, v19, v20, v21, v22, v23, v24, v25, v26, v27, v28, v29, v30, v31, v32, v33, v34, v35, v36, v37, v38, v39, v40, v41, v42, v43, v44, v45, v46, v47, v48, v49, v50, v51, v52, v53, v54, v55, v56, v57, v58, v59, v60, v61, v62, v63, v64, v65, v66, v67], []⟩ w := by
  have HQ := Lib.hid hQ; clear hQ
  have hdr : Below w.heap.size w w.drew := (Below.refl _ _).drew
  have Hd_a := Lib.hid (H_a.out.on hdr)
  replace K1 := Lib.hid ((hdr.cell (cell_lt K1.out)).trans K1.out)
  replace K2 := Lib.hid ((hdr.cell (cell_lt K2.out)).trans K2.out)
  have BB := Lib.hid hdr; clear hdr
  refine wp_region_noPanic ?_
  refine wp_region_held_drew (S := (fun w' => w'.cell? ⟨b, off + k * 2, none⟩ = some (.slice xa na ca) ∧ w'.cell? ⟨b, off + k * 2 + 1, none⟩ = some (.int .i64 s))) (by kernel_rfl) ?_ (fun hHeld => ?_)
  · exact ⟨K1.out, K2.out⟩
  refine wpAnyH_take (i := 0) (oi := { dst := some 11, op := Op.move (Operand.tmp 0), type := 25, pos := "l09_key.go:16", after := #[], guard := none }) (v := ?_) rfl (by kernel_rfl) (by kernel_rfl) (by kernel_rfl) (fun _ _ _ h => h) (Or.inl ⟨by rfl, ?_⟩) (by assumption) ?_
  rotate_left
  · intro w' hSw; (try dsimp only at hSw); first | (go_simp; done) | (go_simp; with_reducible rfl)
  (try simp only [Act.put, List.setIfInBounds_toArray, List.set_cons_zero, List.set_cons_succ])
  refine wpAnyH_take (i := 1) (oi := { dst := some 12, op := Op.move (Operand.tmp 3), type := 3, pos := "l09_key.go:16", after := #[], guard := none }) (v := ?_) rfl (by kernel_rfl) (by kernel_rfl) (by kernel_rfl) (fun _ _ _ h => h) (Or.inl ⟨by rfl, ?_⟩) (by assumption) ?_
  rotate_left
  · intro w' hSw; (try dsimp only at hSw); first | (go_simp; done) | (go_simp; with_reducible rfl)
  (try simp only [Act.put, List.setIfInBounds_toArray, List.set_cons_zero, List.set_cons_succ])
  refine wpAnyH_take (i := 2) (oi := { dst := some 13, op := Op.indexAddr 25 (Operand.tmp 11) (Operand.tmp 12), type := 0, pos := "l09_key.go:16", after := #[{ on := 0, ground := Ground.data }, { on := 1, ground := Ground.data }], guard := none }) (v := ?_) rfl (by kernel_rfl) (by kernel_rfl) (by kernel_rfl) (fun _ _ _ h => h) (Or.inl ⟨by rfl, ?_⟩) (by assumption) ?_
  rotate_left
  · intro w' hSw; (try dsimp only at hSw); first | (go_simp; done) | (go_simp; with_reducible rfl)
  (try simp only [Act.put, List.setIfInBounds_toArray, List.set_cons_zero, List.set_cons_succ])
  refine wpAnyH_take (i := 3) (oi := { dst := some 14, op := Op.fieldAddr 67 (Operand.tmp 13) 0, type := 0, pos := "l09_key.go:16", after := #[{ on := 2, ground := Ground.data }], guard := none }) (v := ?_) rfl (by kernel_rfl) (by kernel_rfl) (by kernel_rfl) (fun _ _ _ h => h) (Or.inl ⟨by rfl, ?_⟩) (by assumption) ?_
  rotate_left
  · intro w' hSw; (try dsimp only at hSw); first | (go_simp; done) | (go_simp; with_reducible rfl)
  (try simp only [Act.put, List.setIfInBounds_toArray, List.set_cons_zero, List.set_cons_succ])
  refine wpAnyH_take (i := 4) (oi := { dst := some 15, op := Op.load 34 (Operand.tmp 14), type := 34, pos := "l09_key.go:16", after := #[{ on := 3, ground := Ground.data }], guard := none }) (v := ?_) rfl (by kernel_rfl) (by kernel_rfl) (by kernel_rfl) (fun _ _ _ h => h) (Or.inl ⟨by rfl, ?_⟩) (by assumption) ?_
  rotate_left
  · intro w' hSw; (try dsimp only at hSw); first | (go_simp; done) | (go_simp; with_reducible rfl)
  (try simp only [Act.put, List.setIfInBounds_toArray, List.set_cons_zero, List.set_cons_succ])
  refine wpAnyH_ready (rs := [5]) (by kernel_rfl) (by simp) ?_
  refine AllReadyH.cons (o := { dst := some 16, op := Op.call { callee := Callee.value (Operand.func 48), args := #[Operand.tmp 15], argTypes := #[34] }, type := 4, pos := "l09_key.go:16", after := #[{ on := 4, ground := Ground.data }], guard := none }) rfl (fun K hK => ?_) AllReadyH.nil
  go_simp
  refine (sValV true HV.out Hd_a.out HS.out).mono ?_
  rintro e wx ⟨rfl, hb⟩
  replace Hd_a := Lib.hid (Hd_a.out.on hb)
  replace K1 := Lib.hid ((hb.cell (cell_lt K1.out)).trans K1.out)
  replace K2 := Lib.hid ((hb.cell (cell_lt K2.out)).trans K2.out)
  replace BB := Lib.hid (BB.out.trans (hb.mono BB.out.size)); clear hb
  (try go_wp2_with fail)
  clear hHeld
  refine hK.out _ _ ?_ (fun hHeld => ?_)
  · (try dsimp only); exact ⟨K1.out, K2.out⟩
  clear hK K
  (try simp only [Act.put, List.setIfInBounds_toArray, List.set_cons_zero, List.set_cons_succ])
  refine wpAnyH_take (i := 6) (oi := { dst := some 17, op := Op.unOp UnOp.not 4 (Operand.tmp 16), type := 4, pos := "l09_key.go:16", after := #[{ on := 5, ground := Ground.data }], guard := none }) (v := ?_) rfl (by kernel_rfl) (by kernel_rfl) (by kernel_rfl) (fun _ _ _ h => h) (Or.inl ⟨by rfl, ?_⟩) (by assumption) ?_
  rotate_left
  · intro w' hSw; (try dsimp only at hSw); first | (go_simp; done) | (go_simp; with_reducible rfl)
  (try simp only [Act.put, List.setIfInBounds_toArray, List.set_cons_zero, List.set_cons_succ])
  refine wpAnyH_take (i := 7) (oi := { dst := some 18, op := Op.move (Operand.tmp 17), type := 4, pos := "l09_key.go:16", after := #[{ on := 6, ground := Ground.data }, { on := 5, ground := Ground.chain }], guard := none }) (v := ?_) rfl (by kernel_rfl) (by kernel_rfl) (by kernel_rfl) (fun _ _ _ h => h) (Or.inl ⟨by rfl, ?_⟩) (by assumption) ?_
  rotate_left
  · intro w' hSw; (try dsimp only at hSw); first | (go_simp; done) | (go_simp; with_reducible rfl)
  (try simp only [Act.put, List.setIfInBounds_toArray, List.set_cons_zero, List.set_cons_succ])
  refine wpAnyH_take (i := 8) (oi := { dst := some 19, op := Op.move (Operand.tmp 0), type := 25, pos := "l09_key.go:16", after := #[{ on := 7, ground := Ground.guard }], guard := some (7, false) }) (v := ?_) rfl (by kernel_rfl) (by kernel_rfl) (by kernel_rfl) (fun _ _ _ h => h) (Or.inl ⟨by rfl, ?_⟩) (by assumption) ?_
  rotate_left
  · intro w' hSw; (try dsimp only at hSw); first | (go_simp; done) | (go_simp; with_reducible rfl)
  (try simp only [Act.put, List.setIfInBounds_toArray, List.set_cons_zero, List.set_cons_succ])
  refine wpAnyH_take (i := 9) (oi := { dst := some 20, op := Op.move (Operand.tmp 3), type := 3, pos := "l09_key.go:16", after := #[{ on := 7, ground := Ground.guard }], guard := some (7, false) }) (v := ?_) rfl (by kernel_rfl) (by kernel_rfl) (by kernel_rfl) (fun _ _ _ h => h) (Or.inl ⟨by rfl, ?_⟩) (by assumption) ?_
  rotate_left
  · intro w' hSw; (try dsimp only at hSw); first | (go_simp; done) | (go_simp; with_reducible rfl)
  (try simp only [Act.put, List.setIfInBounds_toArray, List.set_cons_zero, List.set_cons_succ])
  refine wpAnyH_take (i := 10) (oi := { dst := some 21, op := Op.indexAddr 25 (Operand.tmp 19) (Operand.tmp 20), type := 0, pos := "l09_key.go:16", after := #[{ on := 8, ground := Ground.data }, { on := 9, ground := Ground.data }, { on := 7, ground := Ground.guard }], guard := some (7, false) }) (v := ?_) rfl (by kernel_rfl) (by kernel_rfl) (by kernel_rfl) (fun _ _ _ h => h) (Or.inl ⟨by rfl, ?_⟩) (by assumption) ?_
  rotate_left
  · intro w' hSw; (try dsimp only at hSw); first | (go_simp; done) | (go_simp; with_reducible rfl)
  (try simp only [Act.put, List.setIfInBounds_toArray, List.set_cons_zero, List.set_cons_succ])
  refine wpAnyH_take (i := 11) (oi := { dst := some 22, op := Op.fieldAddr 67 (Operand.tmp 21) 0, type := 0, pos := "l09_key.go:16", after := #[{ on := 10, ground := Ground.data }, { on := 7, ground := Ground.guard }], guard := some (7, false) }) (v := ?_) rfl (by kernel_rfl) (by kernel_rfl) (by kernel_rfl) (fun _ _ _ h => h) (Or.inl ⟨by rfl, ?_⟩) (by assumption) ?_
  rotate_left
  · intro w' hSw; (try dsimp only at hSw); first | (go_simp; done) | (go_simp; with_reducible rfl)
  (try simp only [Act.put, List.setIfInBounds_toArray, List.set_cons_zero, List.set_cons_succ])
  refine wpAnyH_take (i := 12) (oi := { dst := some 23, op := Op.fieldAddr 34 (Operand.tmp 22) 0, type := 0, pos := "l09_key.go:16", after := #[{ on := 11, ground := Ground.data }, { on := 7, ground := Ground.guard }], guard := some (7, false) }) (v := ?_) rfl (by kernel_rfl) (by kernel_rfl) (by kernel_rfl) (fun _ _ _ h => h) (Or.inl ⟨by rfl, ?_⟩) (by assumption) ?_
  rotate_left
  · intro w' hSw; (try dsimp only at hSw); first | (go_simp; done) | (go_simp; with_reducible rfl)
  (try simp only [Act.put, List.setIfInBounds_toArray, List.set_cons_zero, List.set_cons_succ])
  refine wpAnyH_take (i := 13) (oi := { dst := some 24, op := Op.load 29 (Operand.tmp 23), type := 29, pos := "l09_key.go:16", after := #[{ on := 12, ground := Ground.data }, { on := 7, ground := Ground.guard }], guard := some (7, false) }) (v := ?_) rfl (by kernel_rfl) (by kernel_rfl) (by kernel_rfl) (fun _ _ _ h => h) (Or.inl ⟨by rfl, ?_⟩) (by assumption) ?_
  rotate_left
  · intro w' hSw; (try dsimp only at hSw); first | (go_simp; done) | (go_simp; with_reducible rfl)
  (try simp only [Act.put, List.setIfInBounds_toArray, List.set_cons_zero, List.set_cons_succ])
  refine wpAnyH_take (i := 14) (oi := { dst := some 25, op := Op.call { callee := Callee.builtin Builtin.len, args := #[Operand.tmp 24], argTypes := #[29] }, type := 3, pos := "l09_key.go:16", after := #[{ on := 13, ground := Ground.data }, { on := 7, ground := Ground.guard }], guard := some (7, false) }) (v := ?_) rfl (by kernel_rfl) (by kernel_rfl) (by kernel_rfl) (fun _ _ _ h => h) (Or.inl ⟨by rfl, ?_⟩) (by assumption) ?_
  rotate_left
  · intro w' hSw; (try dsimp only at hSw); first | (go_simp; done) | (go_simp; with_reducible rfl)
  (try simp only [Act.put, List.setIfInBounds_toArray, List.set_cons_zero, List.set_cons_succ])
  refine wpAnyH_take (i := 15) (oi := { dst := some 26, op := Op.binOp BinOp.eql 3 (Operand.tmp 25) (Operand.const (Value.int IntKind.i64 0)) 3, type := 4, pos := "l09_key.go:16", after := #[{ on := 14, ground := Ground.data }, { on := 7, ground := Ground.guard }], guard := some (7, false) }) (v := ?_) rfl (by kernel_rfl) (by kernel_rfl) (by kernel_rfl) (fun _ _ _ h => h) (Or.inl ⟨by rfl, ?_⟩) (by assumption) ?_
  rotate_left
  · intro w' hSw; (try dsimp only at hSw); first | (go_simp; done) | (go_simp; with_reducible rfl)
  (try simp only [Act.put, List.setIfInBounds_toArray, List.set_cons_zero, List.set_cons_succ])
  refine wpAnyH_take (i := 16) (oi := { dst := some 27, op := Op.pick (Operand.tmp 18) (Operand.const (Value.bool true)) (Operand.tmp 26), type := 4, pos := "l09_key.go:16", after := #[{ on := 7, ground := Ground.data }, { on := 15, ground := Ground.data }], guard := none }) (v := ?_) rfl (by kernel_rfl) (by kernel_rfl) (by kernel_rfl) (fun _ _ _ h => h) (Or.inl ⟨by rfl, ?_⟩) (by assumption) ?_
  rotate_left
  · intro w' hSw; (try dsimp only at hSw); first | (go_simp; done) | (go_simp; with_reducible rfl)
  (try simp only [Act.put, List.setIfInBounds_toArray, List.set_cons_zero, List.set_cons_succ])
  refine wpAnyH_take (i := 17) (oi := { dst := some 28, op := Op.move (Operand.tmp 27), type := 4, pos := "l09_key.go:16", after := #[{ on := 16, ground := Ground.data }, { on := 7, ground := Ground.chain }], guard := none }) (v := ?_) rfl (by kernel_rfl) (by kernel_rfl) (by kernel_rfl) (fun _ _ _ h => h) (Or.inl ⟨by rfl, ?_⟩) (by assumption) ?_
  rotate_left
  · intro w' hSw; (try dsimp only at hSw); first | (go_simp; done) | (go_simp; with_reducible rfl)
  (try simp only [Act.put, List.setIfInBounds_toArray, List.set_cons_zero, List.set_cons_succ])
  refine wpAnyH_take (i := 18) (oi := { dst := some 29, op := Op.move (Operand.tmp 0), type := 25, pos := "l09_key.go:16", after := #[{ on := 17, ground := Ground.guard }], guard := some (17, false) }) (v := ?_) rfl (by kernel_rfl) (by kernel_rfl) (by kernel_rfl) (fun _ _ _ h => h) (Or.inl ⟨by rfl, ?_⟩) (by assumption) ?_
  rotate_left
  · intro w' hSw; (try dsimp only at hSw); first | (go_simp; done) | (go_simp; with_reducible rfl)
  (try simp only [Act.put, List.setIfInBounds_toArray, List.set_cons_zero, List.set_cons_succ])
  refine wpAnyH_take (i := 19) (oi := { dst := some 30, op := Op.move (Operand.tmp 3), type := 3, pos := "l09_key.go:16", after := #[{ on := 17, ground := Ground.guard }], guard := some (17, false) }) (v := ?_) rfl (by kernel_rfl) (by kernel_rfl) (by kernel_rfl) (fun _ _ _ h => h) (Or.inl ⟨by rfl, ?_⟩) (by assumption) ?_
  rotate_left
  · intro w' hSw; (try dsimp only at hSw); first | (go_simp; done) | (go_simp; with_reducible rfl)
  (try simp only [Act.put, List.setIfInBounds_toArray, List.set_cons_zero, List.set_cons_succ])
  refine wpAnyH_take (i := 20) (oi := { dst := some 31, op := Op.indexAddr 25 (Operand.tmp 29) (Operand.tmp 30), type := 0, pos := "l09_key.go:16", after := #[{ on := 18, ground := Ground.data }, { on := 19, ground := Ground.data }, { on := 17, ground := Ground.guard }], guard := some (17, false) }) (v := ?_) rfl (by kernel_rfl) (by kernel_rfl) (by kernel_rfl) (fun _ _ _ h => h) (Or.inl ⟨by rfl, ?_⟩) (by assumption) ?_
  rotate_left
  · intro w' hSw; (try dsimp only at hSw); first | (go_simp; done) | (go_simp; with_reducible rfl)
  (try simp only [Act.put, List.setIfInBounds_toArray, List.set_cons_zero, List.set_cons_succ])
  refine wpAnyH_take (i := 21) (oi := { dst := some 32, op := Op.fieldAddr 67 (Operand.tmp 31) 1, type := 0, pos := "l09_key.go:16", after := #[{ on := 20, ground := Ground.data }, { on := 17, ground := Ground.guard }], guard := some (17, false) }) (v := ?_) rfl (by kernel_rfl) (by kernel_rfl) (by kernel_rfl) (fun _ _ _ h => h) (Or.inl ⟨by rfl, ?_⟩) (by assumption) ?_
  rotate_left
  · intro w' hSw; (try dsimp only at hSw); first | (go_simp; done) | (go_simp; with_reducible rfl)
  (try simp only [Act.put, List.setIfInBounds_toArray, List.set_cons_zero, List.set_cons_succ])
  refine wpAnyH_take (i := 22) (oi := { dst := some 33, op := Op.load 3 (Operand.tmp 32), type := 3, pos := "l09_key.go:16", after := #[{ on := 21, ground := Ground.data }, { on := 17, ground := Ground.guard }], guard := some (17, false) }) (v := ?_) rfl (by kernel_rfl) (by kernel_rfl) (by kernel_rfl) (fun _ _ _ h => h) (Or.inl ⟨by rfl, ?_⟩) (by assumption) ?_
  rotate_left
  · intro w' hSw; (try dsimp only at hSw); first | (go_simp; done) | (go_simp; with_reducible rfl)
  (try simp only [Act.put, List.setIfInBounds_toArray, List.set_cons_zero, List.set_cons_succ])
  refine wpAnyH_ready (rs := [23]) (by kernel_rfl) (by simp) ?_
  refine AllReadyH.cons (o := { dst := some 34, op := Op.call { callee := Callee.value (Operand.func 49), args := #[Operand.tmp 33], argTypes := #[3] }, type := 4, pos := "l09_key.go:16", after := #[{ on := 22, ground := Ground.data }, { on := 17, ground := Ground.chain }, { on := 17, ground := Ground.guard }], guard := some (17, false) }) rfl (fun K hK => ?_) AllReadyH.nil
  go_simp
  refine (sSecV false HV2.out).mono ?_
  rintro e wx ⟨rfl, hb⟩
  replace Hd_a := Lib.hid (Hd_a.out.on hb)
  replace K1 := Lib.hid ((hb.cell (cell_lt K1.out)).trans K1.out)
  replace K2 := Lib.hid ((hb.cell (cell_lt K2.out)).trans K2.out)
  replace BB := Lib.hid (BB.out.trans (hb.mono BB.out.size)); clear hb
  (try go_wp2_with fail)
  clear hHeld
  refine hK.out _ _ ?_ (fun hHeld => ?_)
  · (try dsimp only); exact ⟨K1.out, K2.out⟩
  clear hK K
  (try simp only [Act.put, List.setIfInBounds_toArray, List.set_cons_zero, List.set_cons_succ])
  refine wpAnyH_take (i := 24) (oi := { dst := some 35, op := Op.unOp UnOp.not 4 (Operand.tmp 34), type := 4, pos := "l09_key.go:16", after := #[{ on := 23, ground := Ground.data }, { on := 17, ground := Ground.guard }], guard := some (17, false) }) (v := ?_) rfl (by kernel_rfl) (by kernel_rfl) (by kernel_rfl) (fun _ _ _ h => h) (Or.inl ⟨by rfl, ?_⟩) (by assumption) ?_
  rotate_left
  · intro w' hSw; (try dsimp only at hSw); first | (go_simp; done) | (go_simp; with_reducible rfl)
  (try simp only [Act.put, List.setIfInBounds_toArray, List.set_cons_zero, List.set_cons_succ])
  refine wpAnyH_take (i := 25) (oi := { dst := some 36, op := Op.pick (Operand.tmp 28) (Operand.const (Value.bool true)) (Operand.tmp 35), type := 4, pos := "l09_key.go:16", after := #[{ on := 17, ground := Ground.data }, { on := 24, ground := Ground.data }], guard := none }) (v := ?_) rfl (by kernel_rfl) (by kernel_rfl) (by kernel_rfl) (fun _ _ _ h => h) (Or.inl ⟨by rfl, ?_⟩) (by assumption) ?_
  rotate_left
  · intro w' hSw; (try dsimp only at hSw); first | (go_simp; done) | (go_simp; with_reducible rfl)
  (try simp only [Act.put, List.setIfInBounds_toArray, List.set_cons_zero, List.set_cons_succ])
  refine wpAnyH_take (i := 26) (oi := { dst := some 37, op := Op.move (Operand.tmp 36), type := 4, pos := "l09_key.go:16", after := #[{ on := 25, ground := Ground.data }, { on := 23, ground := Ground.chain }], guard := none }) (v := ?_) rfl (by kernel_rfl) (by kernel_rfl) (by kernel_rfl) (fun _ _ _ h => h) (Or.inl ⟨by rfl, ?_⟩) (by assumption) ?_
  rotate_left
  · intro w' hSw; (try dsimp only at hSw); first | (go_simp; done) | (go_simp; with_reducible rfl)
  (try simp only [Act.put, List.setIfInBounds_toArray, List.set_cons_zero, List.set_cons_succ])
  refine wpAnyH_take (i := 27) (oi := { dst := some 38, op := Op.move (Operand.tmp 0), type := 25, pos := "l09_key.go:16", after := #[{ on := 26, ground := Ground.guard }], guard := some (26, false) }) (v := undef) rfl (by kernel_rfl) (by kernel_rfl) (by kernel_rfl) (fun _ _ _ h => h) (Or.inr ⟨by rfl, rfl⟩) (by assumption) ?_
  (try simp only [Act.put, List.setIfInBounds_toArray, List.set_cons_zero, List.set_cons_succ])
  refine wpAnyH_take (i := 28) (oi := { dst := some 39, op := Op.move (Operand.tmp 3), type := 3, pos := "l09_key.go:16", after := #[{ on := 26, ground := Ground.guard }], guard := some (26, false) }) (v := undef) rfl (by kernel_rfl) (by kernel_rfl) (by kernel_rfl) (fun _ _ _ h => h) (Or.inr ⟨by rfl, rfl⟩) (by assumption) ?_
  (try simp only [Act.put, List.setIfInBounds_toArray, List.set_cons_zero, List.set_cons_succ])
  refine wpAnyH_take (i := 29) (oi := { dst := some 40, op := Op.slice 25 (Operand.tmp 38) none (some (Operand.tmp 39)) none, type := 25, pos := "l09_key.go:16", after := #[{ on := 27, ground := Ground.data }, { on := 28, ground := Ground.data }, { on := 26, ground := Ground.guard }], guard := some (26, false) }) (v := undef) rfl (by kernel_rfl) (by kernel_rfl) (by kernel_rfl) (fun _ _ _ h => h) (Or.inr ⟨by rfl, rfl⟩) (by assumption) ?_
  (try simp only [Act.put, List.setIfInBounds_toArray, List.set_cons_zero, List.set_cons_succ])
  refine wpAnyH_take (i := 30) (oi := { dst := some 41, op := Op.move (Operand.tmp 0), type := 25, pos := "l09_key.go:16", after := #[{ on := 26, ground := Ground.guard }], guard := some (26, false) }) (v := undef) rfl (by kernel_rfl) (by kernel_rfl) (by kernel_rfl) (fun _ _ _ h => h) (Or.inr ⟨by rfl, rfl⟩) (by assumption) ?_
  (try simp only [Act.put, List.setIfInBounds_toArray, List.set_cons_zero, List.set_cons_succ])
  refine wpAnyH_take (i := 31) (oi := { dst := some 42, op := Op.move (Operand.tmp 3), type := 3, pos := "l09_key.go:16", after := #[{ on := 26, ground := Ground.guard }], guard := some (26, false) }) (v := undef) rfl (by kernel_rfl) (by kernel_rfl) (by kernel_rfl) (fun _ _ _ h => h) (Or.inr ⟨by rfl, rfl⟩) (by assumption) ?_
  (try simp only [Act.put, List.setIfInBounds_toArray, List.set_cons_zero, List.set_cons_succ])
  refine wpAnyH_take (i := 32) (oi := { dst := some 43, op := Op.indexAddr 25 (Operand.tmp 41) (Operand.tmp 42), type := 0, pos := "l09_key.go:16", after := #[{ on := 30, ground := Ground.data }, { on := 31, ground := Ground.data }, { on := 26, ground := Ground.guard }], guard := some (26, false) }) (v := undef) rfl (by kernel_rfl) (by kernel_rfl) (by kernel_rfl) (fun _ _ _ h => h) (Or.inr ⟨by rfl, rfl⟩) (by assumption) ?_
  (try simp only [Act.put, List.setIfInBounds_toArray, List.set_cons_zero, List.set_cons_succ])
  refine wpAnyH_take (i := 33) (oi := { dst := some 44, op := Op.fieldAddr 67 (Operand.tmp 43) 0, type := 0, pos := "l09_key.go:16", after := #[{ on := 32, ground := Ground.data }, { on := 26, ground := Ground.guard }], guard := some (26, false) }) (v := undef) rfl (by kernel_rfl) (by kernel_rfl) (by kernel_rfl) (fun _ _ _ h => h) (Or.inr ⟨by rfl, rfl⟩) (by assumption) ?_
  (try simp only [Act.put, List.setIfInBounds_toArray, List.set_cons_zero, List.set_cons_succ])
  refine wpAnyH_take (i := 34) (oi := { dst := some 45, op := Op.load 34 (Operand.tmp 44), type := 34, pos := "l09_key.go:16", after := #[{ on := 33, ground := Ground.data }, { on := 26, ground := Ground.guard }], guard := some (26, false) }) (v := undef) rfl (by kernel_rfl) (by kernel_rfl) (by kernel_rfl) (fun _ _ _ h => h) (Or.inr ⟨by rfl, rfl⟩) (by assumption) ?_
  (try simp only [Act.put, List.setIfInBounds_toArray, List.set_cons_zero, List.set_cons_succ])
  refine wpAnyH_take (i := 35) (oi := { dst := some 46, op := Op.call { callee := Callee.value (Operand.func 50), args := #[Operand.tmp 40, Operand.tmp 45], argTypes := #[25, 34] }, type := 3, pos := "l09_key.go:16", after := #[{ on := 29, ground := Ground.data }, { on := 34, ground := Ground.data }, { on := 26, ground := Ground.chain }, { on := 26, ground := Ground.guard }], guard := some (26, false) }) (v := undef) rfl (by kernel_rfl) (by kernel_rfl) (by kernel_rfl) (fun _ _ _ h => h) (Or.inr ⟨by rfl, rfl⟩) (by assumption) ?_
  (try simp only [Act.put, List.setIfInBounds_toArray, List.set_cons_zero, List.set_cons_succ])
  refine wpAnyH_take (i := 36) (oi := { dst := some 47, op := Op.binOp BinOp.geq 3 (Operand.tmp 46) (Operand.const (Value.int IntKind.i64 0)) 3, type := 4, pos := "l09_key.go:16", after := #[{ on := 35, ground := Ground.data }, { on := 26, ground := Ground.guard }], guard := some (26, false) }) (v := undef) rfl (by kernel_rfl) (by kernel_rfl) (by kernel_rfl) (fun _ _ _ h => h) (Or.inr ⟨by rfl, rfl⟩) (by assumption) ?_
  (try simp only [Act.put, List.setIfInBounds_toArray, List.set_cons_zero, List.set_cons_succ])
  refine wpAnyH_take (i := 37) (oi := { dst := some 48, op := Op.pick (Operand.tmp 37) (Operand.const (Value.bool true)) (Operand.tmp 47), type := 4, pos := "l09_key.go:16", after := #[{ on := 26, ground := Ground.data }, { on := 36, ground := Ground.data }], guard := none }) (v := ?_) rfl (by kernel_rfl) (by kernel_rfl) (by kernel_rfl) (fun _ _ _ h => h) (Or.inl ⟨by rfl, ?_⟩) (by assumption) ?_
  rotate_left
  · intro w' hSw; (try dsimp only at hSw); first | (go_simp; done) | (go_simp; with_reducible rfl)
  (try simp only [Act.put, List.setIfInBounds_toArray, List.set_cons_zero, List.set_cons_succ])
  refine wpAnyH_done (by kernel_rfl) ?_ _
  exact NoPanic.normal (HQ.out _ _ _ _ _ _ _ _ _ _ _ _ _ _ _ _ _ _ _ _ _ _ _ _ _ _ _ _ _ _ _ _ _ _ _ _ _ _ BB.out)

set_option maxRecDepth 100000 in
set_option maxHeartbeats 4000000 in
theorem regK4 {Q : Exit → Act → World → Prop} {v1 v2 v4 v5 v6 v7 v8 v9 v10 v11 v12 v13 v14 v15 v16 v17 v18 v19 v20 v21 v22 v23 v24 v25 v26 v27 v28 v29 v30 v31 v32 v33 v34 v35 v36 v37 v38 v39 v40 v41 v42 v43 v44 v45 v46 v47 v48 v49 v50 v51 v52 v53 v54 v55 v56 v57 v58 v59 v60 v61 v62 v63 v64 v65 v66 v67 : Value} {w : World} {b off n cx k na ca : Nat} {s : Int} {xa : Option Addr} {la : List ByteArray} (hk : k < n) (hkc : k ≤ cx) (hn : n ≤ 4000000) (K1 : Hid (w.cell? ⟨b, off + k * 2, none⟩ = some (.slice xa na ca))) (K2 : Hid (w.cell? ⟨b, off + k * 2 + 1, none⟩ = some (.int .i64 s))) (H_a : Hid (Holds Value.string w (.slice xa na ca) la)) (HS : Hid (bulk la ≤ 9000000)) (hna : ((na : Int) == 0) = false) {r : Int} {M : List Ent} (H_t : Hid (TabH w (.slice (some ⟨b, off, none⟩) k cx) M)) (HTL : Hid ((strip M).length ≤ 100000000)) (HTS : Hid (smT (strip M))) (HSL : Hid (la.length ≤ 9000000)) (HR : Hid (ixT (isN la) (strip M) = r)) (HV : Hid (validN la = true)) (HV2 : Hid (Num.inB s 1 2147483646 = true))
    (hQ : ∀ (u11 u12 u13 u14 u15 u16 u17 u18 u19 u20 u21 u22 u23 u24 u25 u26 u27 u28 u29 u30 u31 u32 u33 u34 u35 u36 u37 u38 u39 u40 u41 u42 u43 u44 u45 u46 u47 : Value) (wx : World), Below w.heap.size w wx → Q .normal ⟨#[.slice (some ⟨b, off, none⟩) n cx, v1, v2, .int .i64 k, v4, v5, v6, v7, v8, v9, v10, u11, u12, u13, u14, u15, u16, u17, u18, u19, u20, u21, u22, u23, u24, u25, u26, u27, u28, u29, u30, u31, u32, u33, u34, u35, u36, u37, u38, u39, u40, u41, u42, u43, u44, u45, u46, u47, .bool (decide (0 ≤ r)), v49, v50, v51, v52, v53, v54, v55, v56, v57, v58, v59, v60, v61, v62, v63, v64, v65, v66, v67], []⟩ wx) :
    (Code.region 4 #[{ dst := some 11, op := Op.move (Operand.tmp 0), type := 25, pos := "l09_key.go:16", after := #[], guard := none },
      { dst := some 12, op := Op.move (Operand.tmp 3), type := 3, pos := "l09_key.go:16", after := #[], guard := none },
      { dst := some 13, op := Op.indexAddr 25 (Operand.tmp 11) (Operand.tmp 12), type := 0, pos := "l09_key.go:16", after := #[{ on := 0, ground := Ground.data }, { on := 1, ground := Ground.data }], guard := none },
      { dst := some 14, op := Op.fieldAddr 67 (Operand.tmp 13) 0, type := 0, pos := "l09_key.go:16", after := #[{ on := 2, ground := Ground.data }], guard := none },
      { dst := some 15, op := Op.load 34 (Operand.tmp 14), type := 34, pos := "l09_key.go:16", after := #[{ on := 3, ground := Ground.data }], guard := none },
      { dst := some 16, op := Op.call { callee := Callee.value (Operand.func 48), args := #[Operand.tmp 15], argTypes := #[34] }, type := 4, pos := "l09_key.go:16", after := #[{ on := 4, ground := Ground.data }], guard := none },
      { dst := some 17, op := Op.unOp UnOp.not 4 (Operand.tmp 16), type := 4, pos := "l09_key.go:16", after := #[{ on := 5, ground := Ground.data }], guard := none },
      { dst := some 18, op := Op.move (Operand.tmp 17), type := 4, pos := "l09_key.go:16", after := #[{ on := 6, ground := Ground.data }, { on := 5, ground := Ground.chain }], guard := none },
      { dst := some 19, op := Op.move (Operand.tmp 0), type := 25, pos := "l09_key.go:16", after := #[{ on := 7, ground := Ground.guard }], guard := some (7, false) },
      { dst := some 20, op := Op.move (Operand.tmp 3), type := 3, pos := "l09_key.go:16", after := #[{ on := 7, ground := Ground.guard }], guard := some (7, false) },
      { dst := some 21, op := Op.indexAddr 25 (Operand.tmp 19) (Operand.tmp 20), type := 0, pos := "l09_key.go:16", after := #[{ on := 8, ground := Ground.data }, { on := 9, ground := Ground.data }, { on := 7, ground := Ground.guard }], guard := some (7, false) },
      { dst := some 22, op := Op.fieldAddr 67 (Operand.tmp 21) 0, type := 0, pos := "l09_key.go:16", after := #[{ on := 10, ground := Ground.data }, { on := 7, ground := Ground.guard }], guard := some (7, false) },
      { dst := some 23, op := Op.fieldAddr 34 (Operand.tmp 22) 0, type := 0, pos := "l09_key.go:16", after := #[{ on := 11, ground := Ground.data }, { on := 7, ground := Ground.guard }], guard := some (7, false) },
      { dst := some 24, op := Op.load 29 (Operand.tmp 23), type := 29, pos := "l09_key.go:16", after := #[{ on := 12, ground := Ground.data }, { on := 7, ground := Ground.guard }], guard := some (7, false) },
      { dst := some 25, op := Op.call { callee := Callee.builtin Builtin.len, args := #[Operand.tmp 24], argTypes := #[29] }, type := 3, pos := "l09_key.go:16", after := #[{ on := 13, ground := Ground.data }, { on := 7, ground := Ground.guard }], guard := some (7, false) },
      { dst := some 26, op := Op.binOp BinOp.eql 3 (Operand.tmp 25) (Operand.const (Value.int IntKind.i64 0)) 3, type := 4, pos := "l09_key.go:16", after := #[{ on := 14, ground := Ground.data }, { on := 7, ground := Ground.guard }], guard := some (7, false) },
      { dst := some 27, op := Op.pick (Operand.tmp 18) (Operand.const (Value.bool true)) (Operand.tmp 26), type := 4, pos := "l09_key.go:16", after := #[{ on := 7, ground := Ground.data }, { on := 15, ground := Ground.data }], guard := none },
      { dst := some 28, op := Op.move (Operand.tmp 27), type := 4, pos := "l09_key.go:16", after := #[{ on := 16, ground := Ground.data }, { on := 7, ground := Ground.chain }], guard := none },
      { dst := some 29, op := Op.move (Operand.tmp 0), type := 25, pos := "l09_key.go:16", after := #[{ on := 17, ground := Ground.guard }], guard := some (17, false) },
      { dst := some 30, op := Op.move (Operand.tmp 3), type := 3, pos := "l09_key.go:16", after := #[{ on := 17, ground := Ground.guard }], guard := some (17, false) },
      { dst := some 31, op := Op.indexAddr 25 (Operand.tmp 29) (Operand.tmp 30), type := 0, pos := "l09_key.go:16", after := #[{ on := 18, ground := Ground.data }, { on := 19, ground := Ground.data }, { on := 17, ground := Ground.guard }], guard := some (17, false) },
      { dst := some 32, op := Op.fieldAddr 67 (Operand.tmp 31) 1, type := 0, pos := "l09_key.go:16", after := #[{ on := 20, ground := Ground.data }, { on := 17, ground := Ground.guard }], guard := some (17, false) },
      { dst := some 33, op := Op.load 3 (Operand.tmp 32), type := 3, pos := "l09_key.go:16", after := #[{ on := 21, ground := Ground.data }, { on := 17, ground := Ground.guard }], guard := some (17, false) },
      { dst := some 34, op := Op.call { callee := Callee.value (Operand.func 49), args := #[Operand.tmp 33], argTypes := #[3] }, type := 4, pos := "l09_key.go:16", after := #[{ on := 22, ground := Ground.data }, { on := 17, ground := Ground.chain }, { on := 17, ground := Ground.guard }], guard := some (17, false) },
      { dst := some 35, op := Op.unOp UnOp.not 4 (Operand.tmp 34), type := 4, pos := "l09_key.go:16", after := #[{ on := 23, ground := Ground.data }, { on := 17, ground := Ground.guard }], guard := some (17, false) },
      { dst := some 36, op := Op.pick (Operand.tmp 28) (Operand.const (Value.bool true)) (Operand.tmp 35), type := 4, pos := "l09_key.go:16", after := #[{ on := 17, ground := Ground.data }, { on := 24, ground := Ground.data }], guard := none },
      { dst := some 37, op := Op.move (Operand.tmp 36), type := 4, pos := "l09_key.go:16", after := #[{ on := 25, ground := Ground.data }, { on := 23, ground := Ground.chain }], guard := none },
      { dst := some 38, op := Op.move (Operand.tmp 0), type := 25, pos := "l09_key.go:16", after := #[{ on := 26, ground := Ground.guard }], guard := some (26, false) },
      { dst := some 39, op := Op.move (Operand.tmp 3), type := 3, pos := "l09_key.go:16", after := #[{ on := 26, ground := Ground.guard }], guard := some (26, false) },
      { dst := some 40, op := Op.slice 25 (Operand.tmp 38) none (some (Operand.tmp 39)) none, type := 25, pos := "l09_key.go:16", after := #[{ on := 27, ground := Ground.data }, { on := 28, ground := Ground.data }, { on := 26, ground := Ground.guard }], guard := some (26, false) },
      { dst := some 41, op := Op.move (Operand.tmp 0), type := 25, pos := "l09_key.go:16", after := #[{ on := 26, ground := Ground.guard }], guard := some (26, false) },
      { dst := some 42, op := Op.move (Operand.tmp 3), type := 3, pos := "l09_key.go:16", after := #[{ on := 26, ground := Ground.guard }], guard := some (26, false) },
      { dst := some 43, op := Op.indexAddr 25 (Operand.tmp 41) (Operand.tmp 42), type := 0, pos := "l09_key.go:16", after := #[{ on := 30, ground := Ground.data }, { on := 31, ground := Ground.data }, { on := 26, ground := Ground.guard }], guard := some (26, false) },
      { dst := some 44, op := Op.fieldAddr 67 (Operand.tmp 43) 0, type := 0, pos := "l09_key.go:16", after := #[{ on := 32, ground := Ground.data }, { on := 26, ground := Ground.guard }], guard := some (26, false) },
      { dst := some 45, op := Op.load 34 (Operand.tmp 44), type := 34, pos := "l09_key.go:16", after := #[{ on := 33, ground := Ground.data }, { on := 26, ground := Ground.guard }], guard := some (26, false) },
      { dst := some 46, op := Op.call { callee := Callee.value (Operand.func 50), args := #[Operand.tmp 40, Operand.tmp 45], argTypes := #[25, 34] }, type := 3, pos := "l09_key.go:16", after := #[{ on := 29, ground := Ground.data }, { on := 34, ground := Ground.data }, { on := 26, ground := Ground.chain }, { on := 26, ground := Ground.guard }], guard := some (26, false) },
      { dst := some 47, op := Op.binOp BinOp.geq 3 (Operand.tmp 46) (Operand.const (Value.int IntKind.i64 0)) 3, type := 4, pos := "l09_key.go:16", after := #[{ on := 35, ground := Ground.data }, { on := 26, ground := Ground.guard }], guard := some (26, false) },
      { dst := some 48, op := Op.pick (Operand.tmp 37) (Operand.const (Value.bool true)) (Operand.tmp 47), type := 4, pos := "l09_key.go:16", after := #[{ on := 26, ground := Ground.data }, { on := 36, ground := Ground.data }], guard := none }] true).wp Try.prog Q ⟨#[.slice (some ⟨b, off, none⟩) n cx, v1, v2, .int .i64 k, v4, v5, v6, v7, v8, v9, v10, v11, v12, v13, v14, v15, v16, v17, v18, v19, v20, v21, v22, v23, v24, v25, v26, v27, v28, v29, v30, v31, v32, v33, v34, v35, v36, v37, v38, v39, v40, v41, v42, v43, v44, v45, v46, v47, v48, v49, v50, v51, v52, v53, v54, v55, v56, v57, v58, v59, v60, v61, v62, v63, v64, v65, v66, v67], []⟩ w := by
  have HQ := Lib.hid hQ; clear hQ
  have hdr : Below w.heap.size w w.drew := (Below.refl _ _).drew
  have Hd_a := Lib.hid (H_a.out.on hdr)
  have Hd_t := Lib.hid (H_t.out.on hdr)
  replace K1 := Lib.hid ((hdr.cell (cell_lt K1.out)).trans K1.out)
  replace K2 := Lib.hid ((hdr.cell (cell_lt K2.out)).trans K2.out)
  have BB := Lib.hid hdr; clear hdr
  refine wp_region_noPanic ?_
  refine wp_region_held_drew (S := (fun w' => w'.cell? ⟨b, off + k * 2, none⟩ = some (.slice xa na ca) ∧ w'.cell? ⟨b, off + k * 2 + 1, none⟩ = some (.int .i64 s))) (by kernel_rfl) ?_ (fun hHeld => ?_)
  · exact ⟨K1.out, K2.out⟩
  refine wpAnyH_take (i := 0) (oi := { dst := some 11, op := Op.move (Operand.tmp 0), type := 25, pos := "l09_key.go:16", after := #[], guard := none }) (v := ?_) rfl (by kernel_rfl) (by kernel_rfl) (by kernel_rfl) (fun _ _ _ h => h) (Or.inl ⟨by rfl, ?_⟩) (by assumption) ?_
  rotate_left
  · intro w' hSw; (try dsimp only at hSw); first | (go_simp; done) | (go_simp; with_reducible rfl)
  (try simp only [Act.put, List.setIfInBounds_toArray, List.set_cons_zero, List.set_cons_succ])
  refine wpAnyH_take (i := 1) (oi := { dst := some 12, op := Op.move (Operand.tmp 3), type := 3, pos := "l09_key.go:16", after := #[], guard := none }) (v := ?_) rfl (by kernel_rfl) (by kernel_rfl) (by kernel_rfl) (fun _ _ _ h => h) (Or.inl ⟨by rfl, ?_⟩) (by assumption) ?_
  rotate_left
  · intro w' hSw; (try dsimp only at hSw); first | (go_simp; done) | (go_simp; with_reducible rfl)
  (try simp only [Act.put, List.setIfInBounds_toArray, List.set_cons_zero, List.set_cons_succ])
  refine wpAnyH_take (i := 2) (oi := { dst := some 13, op := Op.indexAddr 25 (Operand.tmp 11) (Operand.tmp 12), type := 0, pos := "l09_key.go:16", after := #[{ on := 0, ground := Ground.data }, { on := 1, ground := Ground.data }], guard := none }) (v := ?_) rfl (by kernel_rfl) (by kernel_rfl) (by kernel_rfl) (fun _ _ _ h => h) (Or.inl ⟨by rfl, ?_⟩) (by assumption) ?_
  rotate_left
  · intro w' hSw; (try dsimp only at hSw); first | (go_simp; done) | (go_simp; with_reducible rfl)
  (try simp only [Act.put, List.setIfInBounds_toArray, List.set_cons_zero, List.set_cons_succ])
  refine wpAnyH_take (i := 3) (oi := { dst := some 14, op := Op.fieldAddr 67 (Operand.tmp 13) 0, type := 0, pos := "l09_key.go:16", after := #[{ on := 2, ground := Ground.data }], guard := none }) (v := ?_) rfl (by kernel_rfl) (by kernel_rfl) (by kernel_rfl) (fun _ _ _ h => h) (Or.inl ⟨by rfl, ?_⟩) (by assumption) ?_
  rotate_left
  · intro w' hSw; (try dsimp only at hSw); first | (go_simp; done) | (go_simp; with_reducible rfl)
  (try simp only [Act.put, List.setIfInBounds_toArray, List.set_cons_zero, List.set_cons_succ])
  refine wpAnyH_take (i := 4) (oi := { dst := some 15, op := Op.load 34 (Operand.tmp 14), type := 34, pos := "l09_key.go:16", after := #[{ on := 3, ground := Ground.data }], guard := none }) (v := ?_) rfl (by kernel_rfl) (by kernel_rfl) (by kernel_rfl) (fun _ _ _ h => h) (Or.inl ⟨by rfl, ?_⟩) (by assumption) ?_
  rotate_left
  · intro w' hSw; (try dsimp only at hSw); first | (go_simp; done) | (go_simp; with_reducible rfl)
  (try simp only [Act.put, List.setIfInBounds_toArray, List.set_cons_zero, List.set_cons_succ])
  refine wpAnyH_ready (rs := [5]) (by kernel_rfl) (by simp) ?_
  refine AllReadyH.cons (o := { dst := some 16, op := Op.call { callee := Callee.value (Operand.func 48), args := #[Operand.tmp 15], argTypes := #[34] }, type := 4, pos := "l09_key.go:16", after := #[{ on := 4, ground := Ground.data }], guard := none }) rfl (fun K hK => ?_) AllReadyH.nil
  go_simp
  refine (sValV true HV.out Hd_a.out HS.out).mono ?_
  rintro e wx ⟨rfl, hb⟩
  replace Hd_a := Lib.hid (Hd_a.out.on hb)
  replace Hd_t := Lib.hid (Hd_t.out.on hb)
  replace K1 := Lib.hid ((hb.cell (cell_lt K1.out)).trans K1.out)
  replace K2 := Lib.hid ((hb.cell (cell_lt K2.out)).trans K2.out)
  replace BB := Lib.hid (BB.out.trans (hb.mono BB.out.size)); clear hb
  (try go_wp2_with fail)
  clear hHeld
  refine hK.out _ _ ?_ (fun hHeld => ?_)
  · (try dsimp only); exact ⟨K1.out, K2.out⟩
  clear hK K
  (try simp only [Act.put, List.setIfInBounds_toArray, List.set_cons_zero, List.set_cons_succ])
  refine wpAnyH_take (i := 6) (oi := { dst := some 17, op := Op.unOp UnOp.not 4 (Operand.tmp 16), type := 4, pos := "l09_key.go:16", after := #[{ on := 5, ground := Ground.data }], guard := none }) (v := ?_) rfl (by kernel_rfl) (by kernel_rfl) (by kernel_rfl) (fun _ _ _ h => h) (Or.inl ⟨by rfl, ?_⟩) (by assumption) ?_
  rotate_left
  · intro w' hSw; (try dsimp only at hSw); first | (go_simp; done) | (go_simp; with_reducible rfl)
  (try simp only [Act.put, List.setIfInBounds_toArray, List.set_cons_zero, List.set_cons_succ])
  refine wpAnyH_take (i := 7) (oi := { dst := some 18, op := Op.move (Operand.tmp 17), type := 4, pos := "l09_key.go:16", after := #[{ on := 6, ground := Ground.data }, { on := 5, ground := Ground.chain }], guard := none }) (v := ?_) rfl (by kernel_rfl) (by kernel_rfl) (by kernel_rfl) (fun _ _ _ h => h) (Or.inl ⟨by rfl, ?_⟩) (by assumption) ?_
  rotate_left
  · intro w' hSw; (try dsimp only at hSw); first | (go_simp; done) | (go_simp; with_reducible rfl)
  (try simp only [Act.put, List.setIfInBounds_toArray, List.set_cons_zero, List.set_cons_succ])
  refine wpAnyH_take (i := 8) (oi := { dst := some 19, op := Op.move (Operand.tmp 0), type := 25, pos := "l09_key.go:16", after := #[{ on := 7, ground := Ground.guard }], guard := some (7, false) }) (v := ?_) rfl (by kernel_rfl) (by kernel_rfl) (by kernel_rfl) (fun _ _ _ h => h) (Or.inl ⟨by rfl, ?_⟩) (by assumption) ?_
  rotate_left
  · intro w' hSw; (try dsimp only at hSw); first | (go_simp; done) | (go_simp; with_reducible rfl)
  (try simp only [Act.put, List.setIfInBounds_toArray, List.set_cons_zero, List.set_cons_succ])
  refine wpAnyH_take (i := 9) (oi := { dst := some 20, op := Op.move (Operand.tmp 3), type := 3, pos := "l09_key.go:16", after := #[{ on := 7, ground := Ground.guard }], guard := some (7, false) }) (v := ?_) rfl (by kernel_rfl) (by kernel_rfl) (by kernel_rfl) (fun _ _ _ h => h) (Or.inl ⟨by rfl, ?_⟩) (by assumption) ?_
  rotate_left
  · intro w' hSw; (try dsimp only at hSw); first | (go_simp; done) | (go_simp; with_reducible rfl)
  (try simp only [Act.put, List.setIfInBounds_toArray, List.set_cons_zero, List.set_cons_succ])
  refine wpAnyH_take (i := 10) (oi := { dst := some 21, op := Op.indexAddr 25 (Operand.tmp 19) (Operand.tmp 20), type := 0, pos := "l09_key.go:16", after := #[{ on := 8, ground := Ground.data }, { on := 9, ground := Ground.data }, { on := 7, ground := Ground.guard }], guard := some (7, false) }) (v := ?_) rfl (by kernel_rfl) (by kernel_rfl) (by kernel_rfl) (fun _ _ _ h => h) (Or.inl ⟨by rfl, ?_⟩) (by assumption) ?_
  rotate_left
  · intro w' hSw; (try dsimp only at hSw); first | (go_simp; done) | (go_simp; with_reducible rfl)
  (try simp only [Act.put, List.setIfInBounds_toArray, List.set_cons_zero, List.set_cons_succ])
  refine wpAnyH_take (i := 11) (oi := { dst := some 22, op := Op.fieldAddr 67 (Operand.tmp 21) 0, type := 0, pos := "l09_key.go:16", after := #[{ on := 10, ground := Ground.data }, { on := 7, ground := Ground.guard }], guard := some (7, false) }) (v := ?_) rfl (by kernel_rfl) (by kernel_rfl) (by kernel_rfl) (fun _ _ _ h => h) (Or.inl ⟨by rfl, ?_⟩) (by assumption) ?_
  rotate_left
  · intro w' hSw; (try dsimp only at hSw); first | (go_simp; done) | (go_simp; with_reducible rfl)
  (try simp only [Act.put, List.setIfInBounds_toArray, List.set_cons_zero, List.set_cons_succ])
  refine wpAnyH_take (i := 12) (oi := { dst := some 23, op := Op.fieldAddr 34 (Operand.tmp 22) 0, type := 0, pos := "l09_key.go:16", after := #[{ on := 11, ground := Ground.data }, { on := 7, ground := Ground.guard }], guard := some (7, false) }) (v := ?_) rfl (by kernel_rfl) (by kernel_rfl) (by kernel_rfl) (fun _ _ _ h => h) (Or.inl ⟨by rfl, ?_⟩) (by assumption) ?_
  rotate_left
  · intro w' hSw; (try dsimp only at hSw); first | (go_simp; done) | (go_simp; with_reducible rfl)
  (try simp only [Act.put, List.setIfInBounds_toArray, List.set_cons_zero, List.set_cons_succ])
  refine wpAnyH_take (i := 13) (oi := { dst := some 24, op := Op.load 29 (Operand.tmp 23), type := 29, pos := "l09_key.go:16", after := #[{ on := 12, ground := Ground.data }, { on := 7, ground := Ground.guard }], guard := some (7, false) }) (v := ?_) rfl (by kernel_rfl) (by kernel_rfl) (by kernel_rfl) (fun _ _ _ h => h) (Or.inl ⟨by rfl, ?_⟩) (by assumption) ?_
  rotate_left
  · intro w' hSw; (try dsimp only at hSw); first | (go_simp; done) | (go_simp; with_reducible rfl)
  (try simp only [Act.put, List.setIfInBounds_toArray, List.set_cons_zero, List.set_cons_succ])
  refine wpAnyH_take (i := 14) (oi := { dst := some 25, op := Op.call { callee := Callee.builtin Builtin.len, args := #[Operand.tmp 24], argTypes := #[29] }, type := 3, pos := "l09_key.go:16", after := #[{ on := 13, ground := Ground.data }, { on := 7, ground := Ground.guard }], guard := some (7, false) }) (v := ?_) rfl (by kernel_rfl) (by kernel_rfl) (by kernel_rfl) (fun _ _ _ h => h) (Or.inl ⟨by rfl, ?_⟩) (by assumption) ?_
  rotate_left
  · intro w' hSw; (try dsimp only at hSw); first | (go_simp; done) | (go_simp; with_reducible rfl)
  (try simp only [Act.put, List.setIfInBounds_toArray, List.set_cons_zero, List.set_cons_succ])
  refine wpAnyH_take (i := 15) (oi := { dst := some 26, op := Op.binOp BinOp.eql 3 (Operand.tmp 25) (Operand.const (Value.int IntKind.i64 0)) 3, type := 4, pos := "l09_key.go:16", after := #[{ on := 14, ground := Ground.data }, { on := 7, ground := Ground.guard }], guard := some (7, false) }) (v := ?_) rfl (by kernel_rfl) (by kernel_rfl) (by kernel_rfl) (fun _ _ _ h => h) (Or.inl ⟨by rfl, ?_⟩) (by assumption) ?_
  rotate_left
  · intro w' hSw; (try dsimp only at hSw); first | (go_simp; done) | (go_simp; with_reducible rfl)
  (try simp only [Act.put, List.setIfInBounds_toArray, List.set_cons_zero, List.set_cons_succ])
  refine wpAnyH_take (i := 16) (oi := { dst := some 27, op := Op.pick (Operand.tmp 18) (Operand.const (Value.bool true)) (Operand.tmp 26), type := 4, pos := "l09_key.go:16", after := #[{ on := 7, ground := Ground.data }, { on := 15, ground := Ground.data }], guard := none }) (v := ?_) rfl (by kernel_rfl) (by kernel_rfl) (by kernel_rfl) (fun _ _ _ h => h) (Or.inl ⟨by rfl, ?_⟩) (by assumption) ?_
  rotate_left
  · intro w' hSw; (try dsimp only at hSw); first | (go_simp; done) | (go_simp; with_reducible rfl)
  (try simp only [Act.put, List.setIfInBounds_toArray, List.set_cons_zero, List.set_cons_succ])
  refine wpAnyH_take (i := 17) (oi := { dst := some 28, op := Op.move (Operand.tmp 27), type := 4, pos := "l09_key.go:16", after := #[{ on := 16, ground := Ground.data }, { on := 7, ground := Ground.chain }], guard := none }) (v := ?_) rfl (by kernel_rfl) (by kernel_rfl) (by kernel_rfl) (fun _ _ _ h => h) (Or.inl ⟨by rfl, ?_⟩) (by assumption) ?_
  rotate_left
  · intro w' hSw; (try dsimp only at hSw); first | (go_simp; done) | (go_simp; with_reducible rfl)
  (try simp only [Act.put, List.setIfInBounds_toArray, List.set_cons_zero, List.set_cons_succ])
  refine wpAnyH_take (i := 18) (oi := { dst := some 29, op := Op.move (Operand.tmp 0), type := 25, pos := "l09_key.go:16", after := #[{ on := 17, ground := Ground.guard }], guard := some (17, false) }) (v := ?_) rfl (by kernel_rfl) (by kernel_rfl) (by kernel_rfl) (fun _ _ _ h => h) (Or.inl ⟨by rfl, ?_⟩) (by assumption) ?_
  rotate_left
  · intro w' hSw; (try dsimp only at hSw); first | (go_simp; done) | (go_simp; with_reducible rfl)
  (try simp only [Act.put, List.setIfInBounds_toArray, List.set_cons_zero, List.set_cons_succ])
  refine wpAnyH_take (i := 19) (oi := { dst := some 30, op := Op.move (Operand.tmp 3), type := 3, pos := "l09_key.go:16", after := #[{ on := 17, ground := Ground.guard }], guard := some (17, false) }) (v := ?_) rfl (by kernel_rfl) (by kernel_rfl) (by kernel_rfl) (fun _ _ _ h => h) (Or.inl ⟨by rfl, ?_⟩) (by assumption) ?_
  rotate_left
  · intro w' hSw; (try dsimp only at hSw); first | (go_simp; done) | (go_simp; with_reducible rfl)
  (try simp only [Act.put, List.setIfInBounds_toArray, List.set_cons_zero, List.set_cons_succ])
  refine wpAnyH_take (i := 20) (oi := { dst := some 31, op := Op.indexAddr 25 (Operand.tmp 29) (Operand.tmp 30), type := 0, pos := "l09_key.go:16", after := #[{ on := 18, ground := Ground.data }, { on := 19, ground := Ground.data }, { on := 17, ground := Ground.guard }], guard := some (17, false) }) (v := ?_) rfl (by kernel_rfl) (by kernel_rfl) (by kernel_rfl) (fun _ _ _ h => h) (Or.inl ⟨by rfl, ?_⟩) (by assumption) ?_
  rotate_left
  · intro w' hSw; (try dsimp only at hSw); first | (go_simp; done) | (go_simp; with_reducible rfl)
  (try simp only [Act.put, List.setIfInBounds_toArray, List.set_cons_zero, List.set_cons_succ])
  refine wpAnyH_take (i := 21) (oi := { dst := some 32, op := Op.fieldAddr 67 (Operand.tmp 31) 1, type := 0, pos := "l09_key.go:16", after := #[{ on := 20, ground := Ground.data }, { on := 17, ground := Ground.guard }], guard := some (17, false) }) (v := ?_) rfl (by kernel_rfl) (by kernel_rfl) (by kernel_rfl) (fun _ _ _ h => h) (Or.inl ⟨by rfl, ?_⟩) (by assumption) ?_
  rotate_left
  · intro w' hSw; (try dsimp only at hSw); first | (go_simp; done) | (go_simp; with_reducible rfl)
  (try simp only [Act.put, List.setIfInBounds_toArray, List.set_cons_zero, List.set_cons_succ])
  refine wpAnyH_take (i := 22) (oi := { dst := some 33, op := Op.load 3 (Operand.tmp 32), type := 3, pos := "l09_key.go:16", after := #[{ on := 21, ground := Ground.data }, { on := 17, ground := Ground.guard }], guard := some (17, false) }) (v := ?_) rfl (by kernel_rfl) (by kernel_rfl) (by kernel_rfl) (fun _ _ _ h => h) (Or.inl ⟨by rfl, ?_⟩) (by assumption) ?_
  rotate_left
  · intro w' hSw; (try dsimp only at hSw); first | (go_simp; done) | (go_simp; with_reducible rfl)
  (try simp only [Act.put, List.setIfInBounds_toArray, List.set_cons_zero, List.set_cons_succ])
  refine wpAnyH_ready (rs := [23]) (by kernel_rfl) (by simp) ?_
  refine AllReadyH.cons (o := { dst := some 34, op := Op.call { callee := Callee.value (Operand.func 49), args := #[Operand.tmp 33], argTypes := #[3] }, type := 4, pos := "l09_key.go:16", after := #[{ on := 22, ground := Ground.data }, { on := 17, ground := Ground.chain }, { on := 17, ground := Ground.guard }], guard := some (17, false) }) rfl (fun K hK => ?_) AllReadyH.nil
  go_simp
  refine (sSecV true HV2.out).mono ?_
  rintro e wx ⟨rfl, hb⟩
  replace Hd_a := Lib.hid (Hd_a.out.on hb)
  replace Hd_t := Lib.hid (Hd_t.out.on hb)
  replace K1 := Lib.hid ((hb.cell (cell_lt K1.out)).trans K1.out)
  replace K2 := Lib.hid ((hb.cell (cell_lt K2.out)).trans K2.out)
  replace BB := Lib.hid (BB.out.trans (hb.mono BB.out.size)); clear hb
  (try go_wp2_with fail)
  clear hHeld
  refine hK.out _ _ ?_ (fun hHeld => ?_)
  · (try dsimp only); exact ⟨K1.out, K2.out⟩
  clear hK K
  (try simp only [Act.put, List.setIfInBounds_toArray, List.set_cons_zero, List.set_cons_succ])
  refine wpAnyH_take (i := 24) (oi := { dst := some 35, op := Op.unOp UnOp.not 4 (Operand.tmp 34), type := 4, pos := "l09_key.go:16", after := #[{ on := 23, ground := Ground.data }, { on := 17, ground := Ground.guard }], guard := some (17, false) }) (v := ?_) rfl (by kernel_rfl) (by kernel_rfl) (by kernel_rfl) (fun _ _ _ h => h) (Or.inl ⟨by rfl, ?_⟩) (by assumption) ?_
  rotate_left
  · intro w' hSw; (try dsimp only at hSw); first | (go_simp; done) | (go_simp; with_reducible rfl)
  (try simp only [Act.put, List.setIfInBounds_toArray, List.set_cons_zero, List.set_cons_succ])
  refine wpAnyH_take (i := 25) (oi := { dst := some 36, op := Op.pick (Operand.tmp 28) (Operand.const (Value.bool true)) (Operand.tmp 35), type := 4, pos := "l09_key.go:16", after := #[{ on := 17, ground := Ground.data }, { on := 24, ground := Ground.data }], guard := none }) (v := ?_) rfl (by kernel_rfl) (by kernel_rfl) (by kernel_rfl) (fun _ _ _ h => h) (Or.inl ⟨by rfl, ?_⟩) (by assumption) ?_
  rotate_left
  · intro w' hSw; (try dsimp only at hSw); first | (go_simp; done) | (go_simp; with_reducible rfl)
  (try simp only [Act.put, List.setIfInBounds_toArray, List.set_cons_zero, List.set_cons_succ])
  refine wpAnyH_take (i := 26) (oi := { dst := some 37, op := Op.move (Operand.tmp 36), type := 4, pos := "l09_key.go:16", after := #[{ on := 25, ground := Ground.data }, { on := 23, ground := Ground.chain }], guard := none }) (v := ?_) rfl (by kernel_rfl) (by kernel_rfl) (by kernel_rfl) (fun _ _ _ h => h) (Or.inl ⟨by rfl, ?_⟩) (by assumption) ?_
  rotate_left
  · intro w' hSw; (try dsimp only at hSw); first | (go_simp; done) | (go_simp; with_reducible rfl)
  (try simp only [Act.put, List.setIfInBounds_toArray, List.set_cons_zero, List.set_cons_succ])
  refine wpAnyH_take (i := 27) (oi := { dst := some 38, op := Op.move (Operand.tmp 0), type := 25, pos := "l09_key.go:16", after := #[{ on := 26, ground := Ground.guard }], guard := some (26, false) }) (v := ?_) rfl (by kernel_rfl) (by kernel_rfl) (by kernel_rfl) (fun _ _ _ h => h) (Or.inl ⟨by rfl, ?_⟩) (by assumption) ?_
  rotate_left
  · intro w' hSw; (try dsimp only at hSw); first | (go_simp; done) | (go_simp; with_reducible rfl)
  (try simp only [Act.put, List.setIfInBounds_toArray, List.set_cons_zero, List.set_cons_succ])
  refine wpAnyH_take (i := 28) (oi := { dst := some 39, op := Op.move (Operand.tmp 3), type := 3, pos := "l09_key.go:16", after := #[{ on := 26, ground := Ground.guard }], guard := some (26, false) }) (v := ?_) rfl (by kernel_rfl) (by kernel_rfl) (by kernel_rfl) (fun _ _ _ h => h) (Or.inl ⟨by rfl, ?_⟩) (by assumption) ?_
  rotate_left
  · intro w' hSw; (try dsimp only at hSw); first | (go_simp; done) | (go_simp; with_reducible rfl)
  (try simp only [Act.put, List.setIfInBounds_toArray, List.set_cons_zero, List.set_cons_succ])
  refine wpAnyH_take (i := 29) (oi := { dst := some 40, op := Op.slice 25 (Operand.tmp 38) none (some (Operand.tmp 39)) none, type := 25, pos := "l09_key.go:16", after := #[{ on := 27, ground := Ground.data }, { on := 28, ground := Ground.data }, { on := 26, ground := Ground.guard }], guard := some (26, false) }) (v := ?_) rfl (by kernel_rfl) (by kernel_rfl) (by kernel_rfl) (fun _ _ _ h => h) (Or.inl ⟨by rfl, ?_⟩) (by assumption) ?_
  rotate_left
  · intro w' hSw; (try dsimp only at hSw); first | (go_simp; done) | (go_simp; with_reducible rfl)
  (try simp only [Act.put, List.setIfInBounds_toArray, List.set_cons_zero, List.set_cons_succ])
  refine wpAnyH_take (i := 30) (oi := { dst := some 41, op := Op.move (Operand.tmp 0), type := 25, pos := "l09_key.go:16", after := #[{ on := 26, ground := Ground.guard }], guard := some (26, false) }) (v := ?_) rfl (by kernel_rfl) (by kernel_rfl) (by kernel_rfl) (fun _ _ _ h => h) (Or.inl ⟨by rfl, ?_⟩) (by assumption) ?_
  rotate_left
  · intro w' hSw; (try dsimp only at hSw); first | (go_simp; done) | (go_simp; with_reducible rfl)
  (try simp only [Act.put, List.setIfInBounds_toArray, List.set_cons_zero, List.set_cons_succ])
  refine wpAnyH_take (i := 31) (oi := { dst := some 42, op := Op.move (Operand.tmp 3), type := 3, pos := "l09_key.go:16", after := #[{ on := 26, ground := Ground.guard }], guard := some (26, false) }) (v := ?_) rfl (by kernel_rfl) (by kernel_rfl) (by kernel_rfl) (fun _ _ _ h => h) (Or.inl ⟨by rfl, ?_⟩) (by assumption) ?_
  rotate_left
  · intro w' hSw; (try dsimp only at hSw); first | (go_simp; done) | (go_simp; with_reducible rfl)
  (try simp only [Act.put, List.setIfInBounds_toArray, List.set_cons_zero, List.set_cons_succ])
  refine wpAnyH_take (i := 32) (oi := { dst := some 43, op := Op.indexAddr 25 (Operand.tmp 41) (Operand.tmp 42), type := 0, pos := "l09_key.go:16", after := #[{ on := 30, ground := Ground.data }, { on := 31, ground := Ground.data }, { on := 26, ground := Ground.guard }], guard := some (26, false) }) (v := ?_) rfl (by kernel_rfl) (by kernel_rfl) (by kernel_rfl) (fun _ _ _ h => h) (Or.inl ⟨by rfl, ?_⟩) (by assumption) ?_
  rotate_left
  · intro w' hSw; (try dsimp only at hSw); first | (go_simp; done) | (go_simp; with_reducible rfl)
  (try simp only [Act.put, List.setIfInBounds_toArray, List.set_cons_zero, List.set_cons_succ])
  refine wpAnyH_take (i := 33) (oi := { dst := some 44, op := Op.fieldAddr 67 (Operand.tmp 43) 0, type := 0, pos := "l09_key.go:16", after := #[{ on := 32, ground := Ground.data }, { on := 26, ground := Ground.guard }], guard := some (26, false) }) (v := ?_) rfl (by kernel_rfl) (by kernel_rfl) (by kernel_rfl) (fun _ _ _ h => h) (Or.inl ⟨by rfl, ?_⟩) (by assumption) ?_
  rotate_left
  · intro w' hSw; (try dsimp only at hSw); first | (go_simp; done) | (go_simp; with_reducible rfl)
  (try simp only [Act.put, List.setIfInBounds_toArray, List.set_cons_zero, List.set_cons_succ])
  refine wpAnyH_take (i := 34) (oi := { dst := some 45, op := Op.load 34 (Operand.tmp 44), type := 34, pos := "l09_key.go:16", after := #[{ on := 33, ground := Ground.data }, { on := 26, ground := Ground.guard }], guard := some (26, false) }) (v := ?_) rfl (by kernel_rfl) (by kernel_rfl) (by kernel_rfl) (fun _ _ _ h => h) (Or.inl ⟨by rfl, ?_⟩) (by assumption) ?_
  rotate_left
  · intro w' hSw; (try dsimp only at hSw); first | (go_simp; done) | (go_simp; with_reducible rfl)
  (try simp only [Act.put, List.setIfInBounds_toArray, List.set_cons_zero, List.set_cons_succ])
  refine wpAnyH_ready (rs := [35]) (by kernel_rfl) (by simp) ?_
  refine AllReadyH.cons (o := { dst := some 46, op := Op.call { callee := Callee.value (Operand.func 50), args := #[Operand.tmp 40, Operand.tmp 45], argTypes := #[25, 34] }, type := 3, pos := "l09_key.go:16", after := #[{ on := 29, ground := Ground.data }, { on := 34, ground := Ground.data }, { on := 26, ground := Ground.chain }, { on := 26, ground := Ground.guard }], guard := some (26, false) }) rfl (fun K hK => ?_) AllReadyH.nil
  go_simp
  refine (l9V r HR.out Hd_t.out Hd_a.out HTL.out HTS.out HSL.out).mono ?_
  rintro e wx ⟨rfl, hb⟩
  replace Hd_a := Lib.hid (Hd_a.out.on hb)
  replace Hd_t := Lib.hid (Hd_t.out.on hb)
  replace K1 := Lib.hid ((hb.cell (cell_lt K1.out)).trans K1.out)
  replace K2 := Lib.hid ((hb.cell (cell_lt K2.out)).trans K2.out)
  replace BB := Lib.hid (BB.out.trans (hb.mono BB.out.size)); clear hb
  (try go_wp2_with fail)
  clear hHeld
  refine hK.out _ _ ?_ (fun hHeld => ?_)
  · (try dsimp only); exact ⟨K1.out, K2.out⟩
  clear hK K
  (try simp only [Act.put, List.setIfInBounds_toArray, List.set_cons_zero, List.set_cons_succ])
  refine wpAnyH_take (i := 36) (oi := { dst := some 47, op := Op.binOp BinOp.geq 3 (Operand.tmp 46) (Operand.const (Value.int IntKind.i64 0)) 3, type := 4, pos := "l09_key.go:16", after := #[{ on := 35, ground := Ground.data }, { on := 26, ground := Ground.guard }], guard := some (26, false) }) (v := ?_) rfl (by kernel_rfl) (by kernel_rfl) (by kernel_rfl) (fun _ _ _ h => h) (Or.inl ⟨by rfl, ?_⟩) (by assumption) ?_
  rotate_left
  · intro w' hSw; (try dsimp only at hSw); first | (go_simp; done) | (go_simp; with_reducible rfl)
  (try simp only [Act.put, List.setIfInBounds_toArray, List.set_cons_zero, List.set_cons_succ])
  refine wpAnyH_take (i := 37) (oi := { dst := some 48, op := Op.pick (Operand.tmp 37) (Operand.const (Value.bool true)) (Operand.tmp 47), type := 4, pos := "l09_key.go:16", after := #[{ on := 26, ground := Ground.data }, { on := 36, ground := Ground.data }], guard := none }) (v := ?_) rfl (by kernel_rfl) (by kernel_rfl) (by kernel_rfl) (fun _ _ _ h => h) (Or.inl ⟨by rfl, ?_⟩) (by assumption) ?_
  rotate_left
  · intro w' hSw; (try dsimp only at hSw); first | (go_simp; done) | (go_simp; with_reducible rfl)
  (try simp only [Act.put, List.setIfInBounds_toArray, List.set_cons_zero, List.set_cons_succ])
  refine wpAnyH_done (by kernel_rfl) ?_ _
  exact NoPanic.normal (HQ.out _ _ _ _ _ _ _ _ _ _ _ _ _ _ _ _ _ _ _ _ _ _ _ _ _ _ _ _ _ _ _ _ _ _ _ _ _ _ BB.out)

end Go.Proofs.Ytnblopilgfdjkaa.Row.Ring
/- Slices of elements of several cells, for any program: parts of them; clear and copy on a row of the call's own. No conditions but that lengths fit. -/
namespace Go.Proofs.Ytnblopilgfdjkaa.Row
open Go.ChangeShapes Go.WideShapes Go.ChangeAt Go.RowKit
set_option linter.unusedVariables false
set_option maxRecDepth 100000

section
variable {α : Type} {enc : α → List Value} {sz : Nat}
theorem flat_take (hs : Sz enc sz) (l : List α) (i : Nat) (hi : i ≤ l.length) : flat enc (l.take i) = (flat enc l).take (i * sz) := by
  have h1 : (flat enc (l.take i)).length = i * sz := by rw [flat_length hs, List.length_take]; congr 1; omega
  have h2 : flat enc l = flat enc (l.take i) ++ flat enc (l.drop i) := by rw [← flat_append, List.take_append_drop]
  rw [h2, ← h1, List.take_left]
theorem flat_drop (hs : Sz enc sz) (l : List α) (i : Nat) (hi : i ≤ l.length) : flat enc (l.drop i) = (flat enc l).drop (i * sz) := by
  have h1 : (flat enc (l.take i)).length = i * sz := by rw [flat_length hs, List.length_take]; congr 1; omega
  have h2 : flat enc l = flat enc (l.take i) ++ flat enc (l.drop i) := by rw [← flat_append, List.take_append_drop]
  rw [h2, ← h1, List.drop_left]
variable {e : TypeId} {B : Nat} {w w' : World} {v : Value} {l : List α} {x : Option Addr} {n cap : Nat}
theorem OwnK.take (hs : Sz enc sz) (h : OwnK e enc sz B w (.slice x n cap) l) {i : Nat} (hi : i ≤ l.length) : OwnK e enc sz B w (.slice x i cap) (l.take i) := by
  have hl : (l.take i).length = i := by rw [List.length_take]; omega
  refine ⟨by rw [flat_length hs], ?_⟩
  rcases h.2 with ⟨hv, hn⟩ | ⟨g, cap', cur, hv, hB, hc, h1, h2, h3, h4⟩
  · cases hv
    refine Or.inl ⟨?_, by omega⟩
    rw [show i = 0 by omega]
  · cases hv
    refine Or.inr ⟨g, cap, cur, by rw [hl], hB, hc, by omega, h2, h3, ?_⟩
    rw [flat_take hs l i hi, ← h4, List.take_take, hl]
    congr 1
    have : i * sz ≤ l.length * sz := Nat.mul_le_mul_right _ hi
    omega
theorem HoldsK.take (hs : Sz enc sz) (h : HoldsK enc sz w (.slice x n cap) l) {i : Nat} (hi : i ≤ l.length) : HoldsK enc sz w (.slice x i cap) (l.take i) := by
  obtain ⟨x', cap', hv, hc, hh⟩ := h
  cases hv
  have hl : (l.take i).length = i := by rw [List.length_take]; omega
  refine ⟨x, cap, by rw [hl], by omega, ?_⟩
  rcases hh with rfl | ⟨b, off, hx, hh⟩
  · exact Or.inl (by simp)
  · refine Or.inr ⟨b, off, hx, fun j hj => ?_⟩
    rw [hl] at hj
    have : i * sz ≤ l.length * sz := Nat.mul_le_mul_right _ hi
    obtain ⟨u, h1, h2⟩ := hh j (by omega)
    exact ⟨u, by rw [flat_take hs l i hi, List.getElem?_take, if_pos hj]; exact h1, h2⟩
theorem HoldsK.drop (hs : Sz enc sz) {b off : Nat} (h : HoldsK enc sz w (.slice (some ⟨b, off, none⟩) n cap) l) {i : Nat} (hi : i ≤ l.length) : HoldsK enc sz w (.slice (some ⟨b, off + i * sz, none⟩) (n - i) (cap - i)) (l.drop i) := by
  obtain ⟨x', cap', hv, hc, hh⟩ := h
  cases hv
  refine ⟨some ⟨b, off + i * sz, none⟩, cap - i, by rw [List.length_drop], by rw [List.length_drop]; omega, ?_⟩
  rcases hh with rfl | ⟨b', off', hx, hh⟩
  · exact Or.inl (by simp)
  · cases hx
    refine Or.inr ⟨b, off + i * sz, rfl, fun j hj => ?_⟩
    rw [List.length_drop, Nat.sub_mul] at hj
    obtain ⟨u, h1, h2⟩ := hh (i * sz + j) (by omega)
    exact ⟨u, by rw [flat_drop hs l i hi, List.getElem?_drop]; exact h1, by rw [Nat.add_assoc]; exact h2⟩
/-- A row of the call's own: its block's cells. -/
theorem OwnK.cur (h : OwnK e enc sz B w (.slice x n cap) l) (hn : 0 < l.length) : ∃ g cur, x = some ⟨g, 0, none⟩ ∧ n = l.length ∧ B ≤ g ∧ w.heap[g]? = some (.cells cur e (0, 0)) ∧ l.length ≤ cap ∧ cap ≤ maxLen ∧ cur.size = cap * sz ∧ cur.toList.take (l.length * sz) = flat enc l := by
  rcases h.2 with ⟨hv, h0⟩ | ⟨g, cap', cur, hv, hB, hc, h1, h2, h3, h4⟩
  · omega
  · cases hv
    exact ⟨g, cur, rfl, rfl, hB, hc, h1, h2, h3, h4⟩
end

section
variable {P : Program} {α : Type} {enc : α → List Value} {sz : Nat} {e t : TypeId} {bytes : Nat} {z : Value}
end
end Go.Proofs.Ytnblopilgfdjkaa.Row
/- The contract of the model's ValidKeys. No conditions but that lengths fit. -/
namespace Go.Proofs.Ytnblopilgfdjkaa.Row.Ring
open Go.ChangeShapes Go.WideShapes Go.ChangeAt Go.RowKit Go.Instr
set_option linter.unusedVariables false
set_option maxRecDepth 100000

def okM (T : List (List ByteArray × Int)) (k : Nat) : Prop := okS T k ∧ ((T.take k).map (·.1)).Nodup
theorem okM_zero (T : List (List ByteArray × Int)) : okM T 0 := ⟨okS_zero T, by simp⟩
theorem named {T : List (List ByteArray × Int)} {m : List ByteArray} : 0 ≤ ixT (isN m) T ↔ m ∈ T.map (·.1) := by
  rcases ixT_cases (isN m) T with ⟨h1, -, h3⟩ | ⟨i, hi, h1, -, h3, -⟩
  · rw [h1]
    constructor
    · intro h; omega
    · intro h
      obtain ⟨x, hx, rfl⟩ := List.mem_map.1 h
      obtain ⟨j, hj, rfl⟩ := List.getElem_of_mem hx
      have := h3 j hj
      rw [nth_eq hj] at this
      unfold isN at this
      rw [eqB_true rfl] at this
      cases this
  · rw [h1]
    refine ⟨fun _ => ?_, fun _ => by omega⟩
    have e : (nth T i).1 = m := by
      apply Classical.byContradiction
      intro e
      unfold isN at h3
      rw [eqB_false e] at h3
      cases h3
    rw [← e]
    exact List.mem_map_of_mem (nth_mem hi)
theorem okM_next {T : List (List ByteArray × Int)} {k : Nat} (h : okM T k) (hk : k < T.length) (hv : vkey (nth T k) = true) (hn : ¬ 0 ≤ ixT (isN (nth T k).1) (T.take k)) (hs : ∀ j, j < k → (nth T j).2 ≠ (nth T k).2) : okM T (k + 1) := by
  refine ⟨okS_next h.1 hk hv fun hm => ?_, ?_⟩
  · obtain ⟨x, hx, e⟩ := List.mem_map.1 hm
    obtain ⟨j, hj, rfl⟩ := List.getElem_of_mem hx
    rw [List.length_take] at hj
    have := hs j (by omega)
    rw [nth_eq (by omega)] at this
    rw [List.getElem_take] at e
    exact this e
  · rw [List.take_succ_eq_append_getElem hk, ← nth_eq hk, List.map_append, List.nodup_append]
    exact ⟨h.2, by simp, fun a ha b hb e => hn (named.2 (by simp at hb; rw [← hb, ← e]; exact ha))⟩
theorem validK_named {T : List (List ByteArray × Int)} {k : Nat} (hk : k < T.length) (hs : 0 ≤ ixT (isN (nth T k).1) (T.take k)) : validK T = false :=
  validK_no fun h => by
    have h2 : ((T.take (k + 1)).map (·.1)).Nodup := by
      have e : T.map (·.1) = (T.take (k + 1)).map (·.1) ++ (T.drop (k + 1)).map (·.1) := by rw [← List.map_append, List.take_append_drop]
      have h3 := h.2.1
      rw [e, List.nodup_append] at h3
      exact h3.1
    rw [List.take_succ_eq_append_getElem hk, ← nth_eq hk, List.map_append, List.nodup_append] at h2
    exact h2.2.2 _ (named.1 hs) _ (by simp) rfl
theorem validK_pair {T : List (List ByteArray × Int)} {k j : Nat} (hk : k < T.length) (hj : j < k) (hs : (nth T j).2 = (nth T k).2) : validK T = false :=
  validK_twice hk (by
    rw [← hs]
    refine List.mem_map_of_mem ?_
    rw [nth_eq (by omega), List.mem_take_iff_getElem]
    exact ⟨j, by omega, rfl⟩)
theorem validK_all {T : List (List ByteArray × Int)} (h : okM T T.length) : validK T = decide (T.length ≤ 8) := by
  rw [validK_of h.1]
  have h2 := h.2
  rw [List.take_length] at h2
  rw [decide_eq_true h2, Bool.and_true]
theorem vkey_not1 {l : List ByteArray} {s : Int} (h : validN l = false) : vkey (l, s) = false := by unfold vkey; rw [show validN (l, s).1 = false from h]; rfl
theorem vkey_not2 {l : List ByteArray} {s : Int} (h : l.length = 0) : vkey (l, s) = false := by unfold vkey; rw [show decide (0 < (l, s).1.length) = false from decide_eq_false (by show ¬ 0 < l.length; omega)]; simp
theorem vkey_not3 {l : List ByteArray} {s : Int} (h : Num.inB s 1 2147483646 = false) : vkey (l, s) = false := by unfold vkey; rw [show Num.inB (l, s).2 1 2147483646 = false from h]; simp
theorem vkey_yes {l : List ByteArray} {s : Int} (h1 : validN l = true) (h2 : 0 < l.length) (h3 : Num.inB s 1 2147483646 = true) : vkey (l, s) = true := by unfold vkey; rw [show validN (l, s).1 = true from h1, show Num.inB (l, s).2 1 2147483646 = true from h3, decide_eq_true (show 0 < (l, s).1.length from h2)]; rfl
theorem TabH.upto {w : World} {x : Option Addr} {n cap : Nat} {L : List Ent} (h : TabH w (.slice x n cap) L) {k : Nat} (hk : k ≤ L.length) : TabH w (.slice x k cap) (L.take k) := ⟨h.1.take szE hk, fun y hy => h.2 y (List.mem_of_mem_take hy)⟩

set_option maxHeartbeats 8000000 in
theorem specValidKeys (v : Value) (T : List (List ByteArray × Int)) (w : World) (h : TabHolds w v T) (hl : T.length ≤ 4000000) (hT : smT T) :
    Calls Try.prog 11 #[v] w fun e w' => e = .returned (.bool (validK T)) ∧ Below w.heap.size w w' := by
  obtain ⟨L, rfl, h⟩ := h
  obtain ⟨x, n, cx, rfl, hn, hcx, hh⟩ := h.shapeN
  rw [strip_length, ← hn] at hl
  have HN := Lib.hid hn; have HH := Lib.hid hh; have HT := Lib.hid hT
  clear hn h hh hT
  go_enter Try.func11, Try.ntmps11
  go_wp2_with fail
  go_loopw [3] (fun i wr => ∃ k : Nat, k ≤ n ∧ i = .int .i64 k ∧ Hid (okM (strip L) k) ∧ Hid (Below w.heap.size w wr)) (fun i _ => n - (intOf i).toNat)
  case atStart => exact ⟨0, Nat.zero_le _, rfl, Lib.hid (okM_zero _), Lib.hid (Below.refl _ _)⟩
  case round =>
    obtain ⟨k, hk, rfl, hO, hB⟩ := hrel
    by_cases hlt : k < n
    · have HKL := Lib.hid (show k < L.length by have := HN.out; omega)
      have HHr := Lib.hid (HH.out.on hB.out)
      obtain ⟨b, off, rfl, hc, hd, hnm⟩ := HHr.out.at HKL.out
      have HPS := Lib.hid (smT_ps HT.out HKL.out)
      have HE := Lib.hid (strip_nth HKL.out)
      have HKT := Lib.hid (show k < (strip L).length by rw [strip_length]; exact HKL.out)
      have HC := Lib.hid hc; have HD := Lib.hid hd; have HNM := Lib.hid hnm
      have hkc : k ≤ cx := by omega
      have hlen0 := hnm.lenEq
      have HLEN := Lib.hid hlen0
      clear hc hd hnm hlen0
      obtain ⟨z1, hz1⟩ : ∃ z, validN (nth L k).ps = z := ⟨_, rfl⟩
      have HZ1 := Lib.hid hz1
      clear hz1
      cases z1 with
      | false =>
        have HV := Lib.hid (validK_bad HKT.out (by rw [HE.out]; exact vkey_not1 HZ1.out))
        go_wp2_with fail
        refine regK1 hlt hkc hl HC HD HNM HPS HZ1 ?_
        intro u11 u12 u13 u14 u15 u16 u17 u18 u19 u20 u21 u22 u23 u24 u25 u26 u27 u28 u29 u30 u31 u32 u33 u34 u35 u36 u37 u38 u39 u40 u41 u42 u43 u44 u45 u46 u47 wx hb1
        have HB2 := Lib.hid (hB.out.trans (hb1.mono hB.out.size))
        clear hb1
        go_wp2_with fail
        go_ret
        exact ⟨ret_bool HV.out.symm, HB2.out⟩
      | true =>
        by_cases hna : (nth L k).n = 0
        · have HV := Lib.hid (validK_bad HKT.out (by rw [HE.out]; exact vkey_not2 (by have := HLEN.out; omega)))
          rw [hna] at HC HNM
          clear hna
          go_wp2_with fail
          refine regK2 hlt hkc hl HC HD HNM HPS HZ1 ?_
          intro u11 u12 u13 u14 u15 u16 u17 u18 u19 u20 u21 u22 u23 u24 u25 u26 u27 u28 u29 u30 u31 u32 u33 u34 u35 u36 u37 u38 u39 u40 u41 u42 u43 u44 u45 u46 u47 wx hb1
          have HB2 := Lib.hid (hB.out.trans (hb1.mono hB.out.size))
          clear hb1
          go_wp2_with fail
          go_ret
          exact ⟨ret_bool HV.out.symm, HB2.out⟩
        · have HNA := Lib.hid (show (((nth L k).n : Int) == 0) = false by simpa using hna)
          have HP0 := Lib.hid (show 0 < (nth L k).ps.length by have := HLEN.out; omega)
          clear hna
          obtain ⟨z2, hz2⟩ : ∃ z, Num.inB (nth L k).val 1 2147483646 = z := ⟨_, rfl⟩
          have HZ2 := Lib.hid hz2
          clear hz2
          cases z2 with
          | false =>
            have HV := Lib.hid (validK_bad HKT.out (by rw [HE.out]; exact vkey_not3 HZ2.out))
            go_wp2_with fail
            refine regK3 hlt hkc hl HC HD HNM HPS HNA.out HZ1 HZ2 ?_
            intro u11 u12 u13 u14 u15 u16 u17 u18 u19 u20 u21 u22 u23 u24 u25 u26 u27 u28 u29 u30 u31 u32 u33 u34 u35 u36 u37 u38 u39 u40 u41 u42 u43 u44 u45 u46 u47 wx hb1
            have HB2 := Lib.hid (hB.out.trans (hb1.mono hB.out.size))
            clear hb1
            go_wp2_with fail
            go_ret
            exact ⟨ret_bool HV.out.symm, HB2.out⟩
          | true =>
            obtain ⟨r, hr⟩ : ∃ r, ixT (isN (nth L k).ps) (strip (L.take k)) = r := ⟨_, rfl⟩
            have HR := Lib.hid hr
            have HR2 := Lib.hid (show ixT (isN (nth (strip L) k).1) ((strip L).take k) = r by rw [HE.out, ← strip_take]; exact hr)
            have HT1 := Lib.hid (HHr.out.upto (Nat.le_of_lt HKL.out))
            have HT2 := Lib.hid (show (strip (L.take k)).length ≤ 100000000 by rw [strip_length, List.length_take]; have := HN.out; omega)
            have HT3 := Lib.hid (show smT (strip (L.take k)) by rw [strip_take]; exact smT_take HT.out k)
            have HT4 := Lib.hid (smT_psl HT.out HKL.out)
            clear hr
            by_cases hr0 : 0 ≤ r
            · have hrd : decide (0 ≤ r) = true := decide_eq_true hr0
              have HV := Lib.hid (validK_named HKT.out (by rw [HR2.out]; exact hr0))
              go_wp2_with fail
              refine regK4 hlt hkc hl HC HD HNM HPS HNA.out HT1 HT2 HT3 HT4 HR HZ1 HZ2 ?_
              intro u11 u12 u13 u14 u15 u16 u17 u18 u19 u20 u21 u22 u23 u24 u25 u26 u27 u28 u29 u30 u31 u32 u33 u34 u35 u36 u37 u38 u39 u40 u41 u42 u43 u44 u45 u46 u47 wx hb1
              have HB2 := Lib.hid (hB.out.trans (hb1.mono hB.out.size))
              clear hb1
              go_wp2_with fail
              go_ret
              exact ⟨ret_bool HV.out.symm, HB2.out⟩
            · have hrd : decide (0 ≤ r) = false := decide_eq_false hr0
              have HRN := Lib.hid (show ¬ 0 ≤ ixT (isN (nth (strip L) k).1) ((strip L).take k) by rw [HR2.out]; exact hr0)
              go_wp2_with fail
              refine regK4 hlt hkc hl HC HD HNM HPS HNA.out HT1 HT2 HT3 HT4 HR HZ1 HZ2 ?_
              intro u11 u12 u13 u14 u15 u16 u17 u18 u19 u20 u21 u22 u23 u24 u25 u26 u27 u28 u29 u30 u31 u32 u33 u34 u35 u36 u37 u38 u39 u40 u41 u42 u43 u44 u45 u46 u47 wx hb1
              have HB2 := Lib.hid (hB.out.trans (hb1.mono hB.out.size))
              have HH2 := Lib.hid (HHr.out.on hb1)
              clear hb1 HHr HT1 HT2 HT3 HR HR2 HC HD HNM
              go_wp2_with fail
              go_loopw [4] (fun i wq => ∃ j : Nat, j ≤ k ∧ i = .int .i64 j ∧ Hid (∀ p, p < j → (nth (strip L) p).2 ≠ (nth (strip L) k).2) ∧ Hid (Below wx.heap.size wx wq)) (fun i _ => k - (intOf i).toNat)
              case atStart => exact ⟨0, Nat.zero_le _, rfl, Lib.hid (fun p hp => absurd hp (by omega)), Lib.hid (Below.refl _ _)⟩
              case round =>
                obtain ⟨j, hj, rfl, hS, hB3⟩ := hrel
                by_cases hjk : j < k
                · have hjl : j < L.length := Nat.lt_trans hjk HKL.out
                  have HJ := Lib.hid (strip_nth hjl)
                  obtain ⟨b', off', hxx, -, hdj, -⟩ := (HH2.out.on hB3.out).at hjl
                  cases hxx
                  obtain ⟨b'', off'', hxx, -, hdk, -⟩ := (HH2.out.on hB3.out).at HKL.out
                  cases hxx
                  have hjn : (j : Int) < (n : Int) := by omega
                  have hkn : (k : Int) < (n : Int) := by omega
                  clear hjl
                  by_cases hs : (nth L j).val = (nth L k).val
                  · have ht : ((nth L j).val == (nth L k).val) = true := by simpa using hs
                    have HV := Lib.hid (validK_pair HKT.out hjk (by rw [HE.out, HJ.out]; exact hs))
                    clear hs
                    go_wp2_with (go_quiet (fail))
                    all_goals
                      go_ret
                      exact ⟨ret_bool HV.out.symm, Lib.hid (below_drewN (HB2.out.trans (hB3.out.mono HB2.out.size)) _) |>.out⟩
                  · have ht : ((nth L j).val == (nth L k).val) = false := by simpa using hs
                    have HS2 := Lib.hid (show ∀ p, p < j + 1 → (nth (strip L) p).2 ≠ (nth (strip L) k).2 from fun p hp => by
                      by_cases e : p = j
                      · subst e; rw [HE.out, HJ.out]; exact hs
                      · exact hS.out p (by omega))
                    clear hs
                    go_wp2_with (go_quiet (fail))
                    all_goals
                      go_roundw
                      case rel => exact ⟨j + 1, by omega, by go_num, HS2, Lib.hid (below_drewN hB3.out _)⟩
                      case measure => simp [intOf]; omega
                · obtain rfl : j = k := by omega
                  have HO2 := Lib.hid (okM_next hO.out HKT.out (by rw [HE.out]; exact vkey_yes HZ1.out HP0.out HZ2.out) (by have := HRN.out; omega) hS.out)
                  have HB4 := Lib.hid (HB2.out.trans (hB3.out.mono HB2.out.size))
                  clear hjk
                  go_wp2_with fail
                  go_roundw
                  case rel => exact ⟨j + 1, by omega, by go_num, HO2, HB4⟩
                  case measure => simp [intOf]; omega
    · obtain rfl : k = n := by omega
      have hV := validK_all (T := strip L) (by rw [strip_length, ← HN.out]; exact hO.out)
      rw [strip_length, ← HN.out] at hV
      have HV := Lib.hid hV
      clear hlt hV
      go_wp2_with fail
      go_ret
      refine ⟨ret_bool ?_, hB.out⟩
      rw [HV.out]
      exact decide_eq_decide.2 (by omega)
end Go.Proofs.Ytnblopilgfdjkaa.Row.Ring
/- Plain mathematics of names and their texts, no program in sight: a text is split at its slashes; joined again it is the text; a joined list of parts without slashes is split into the parts; runes and bytes. No conditions. -/
namespace Go.Proofs.Ytnblopilgfdjkaa.Row
open Go.ChangeShapes Go.WideShapes Go.ChangeAt Go.RowKit Go.Instr
set_option linter.unusedVariables false
set_option maxRecDepth 100000

def bl (s : ByteArray) : List UInt8 := s.data.toList
def mk (l : List UInt8) : ByteArray := ⟨l.toArray⟩
theorem mk_bl (s : ByteArray) : mk (bl s) = s := by
  show ByteArray.mk (s.data.toList.toArray) = s
  rw [Array.toArray_toList]
theorem bl_mk (l : List UInt8) : bl (mk l) = l := by
  show (l.toArray).toList = l
  rfl
theorem bl_inj {a b : ByteArray} (h : bl a = bl b) : a = b := by rw [← mk_bl a, ← mk_bl b, h]
theorem bl_append (a b : ByteArray) : bl (a ++ b) = bl a ++ bl b := by
  unfold bl
  simp only [ByteArray.data_append, Array.toList_append]
theorem mk_append (a b : List UInt8) : mk a ++ mk b = mk (a ++ b) := by apply bl_inj; rw [bl_append, bl_mk, bl_mk, bl_mk]
theorem mk_size (l : List UInt8) : (mk l).size = l.length := by
  show l.toArray.size = l.length
  exact List.size_toArray

/-! ### splitting at slashes -/
def goS (cur : List UInt8) : List UInt8 → List (List UInt8)
  | [] => [cur]
  | c :: t => if c = 47 then cur :: goS [] t else goS (cur ++ [c]) t
/-! ### texts of names -/
def fmtL (l : List ByteArray) : List UInt8 := 47 :: Lib.join (l.map bl) [47]
def fmtS (l : List ByteArray) : ByteArray := mk (fmtL l)
def splitB (s : ByteArray) : List ByteArray := (goS [] (bl s)).map mk
def fullB (s : ByteArray) : Bool := decide (s.size ≠ 0)
def partsB (s : ByteArray) : List ByteArray := (splitB s).filter fullB
def pOk (s : ByteArray) : Bool := validN (partsB s) && decide (fmtS (partsB s) = s)
def pN (s : ByteArray) : List ByteArray := if pOk s = true then partsB s else []
theorem fmtS_nil : fmtS [] = mk [47] := by simp [fmtS, fmtL, Lib.join_nil]
/-! ### runs of bytes and runes -/
def seg (s : ByteArray) (f i : Nat) : List UInt8 := ((bl s).drop f).take (i - f)
def rest (s : ByteArray) (i : Nat) : List UInt8 := (bl s).drop i
end Go.Proofs.Ytnblopilgfdjkaa.Row
/- The contracts of the library that are proved once over any program, laid at this seat in plain words. -/
namespace Go.Proofs
open Go.Shelf
def Try.lays169_ren : Go.Shelf.Ren := ⟨fun | 169 => 93 | n => n, fun | 70 => 104 | 9 => 9 | 0 => 0 | 72 => 106 | 37 => 38 | 127 => 118 | 3 => 3 | 5 => 5 | n => n, fun | n => n⟩
def Try.lays241_ren : Go.Shelf.Ren := ⟨fun | 241 => 104 | 277 => 115 | n => n, fun | 70 => 104 | 3 => 3 | 0 => 0 | 72 => 106 | 37 => 38 | 5 => 5 | n => n, fun | n => n⟩
def Try.lays165_ren : Go.Shelf.Ren := ⟨fun | 165 => 91 | 240 => 103 | 241 => 104 | 276 => 114 | 277 => 115 | n => n, fun | 70 => 104 | 3 => 3 | 0 => 0 | 4 => 4 | 9 => 9 | 20 => 20 | 72 => 106 | 37 => 38 | 164 => 124 | 5 => 5 | n => n, fun | n => n⟩
def Try.lays156_ren : Go.Shelf.Ren := ⟨fun | 156 => 74 | 165 => 91 | 166 => 92 | 169 => 93 | 240 => 103 | 241 => 104 | 276 => 114 | 277 => 115 | n => n, fun | 31 => 29 | 9 => 9 | 3 => 3 | 4 => 4 | 0 => 0 | 20 => 20 | 72 => 106 | 76 => 109 | 70 => 104 | 37 => 38 | 75 => 108 | 127 => 118 | 164 => 124 | 5 => 5 | 80 => 111 | n => n, fun | n => n⟩
theorem Try.lays156 : Go.Proofs.Lays.n156 Try.prog Try.lays156_ren := {
  mixed := by kernel_rfl
  f156 := Try.func74.trans (congrArg some (by kernel_rfl))
  f165 := Try.func91.trans (congrArg some (by kernel_rfl))
  f166 := Try.func92.trans (congrArg some (by kernel_rfl))
  f169 := Try.func93.trans (congrArg some (by kernel_rfl))
  f240 := Try.func103.trans (congrArg some (by kernel_rfl))
  f241 := Try.func104.trans (congrArg some (by kernel_rfl))
  f276 := Try.func114.trans (congrArg some (by kernel_rfl))
  f277 := Try.func115.trans (congrArg some (by kernel_rfl))
  t0 := Try.underlying0
  a0 := Try.isAgg0
  z0 := Try.sizeOf0
  v0 := Try.zeroValue0
  t3 := Try.underlying3
  a3 := Try.isAgg3
  z3 := Try.sizeOf3
  v3 := Try.zeroValue3
  t4 := Try.underlying4
  a4 := Try.isAgg4
  z4 := Try.sizeOf4
  v4 := Try.zeroValue4
  t9 := Try.underlying9
  a9 := Try.isAgg9
  z9 := Try.sizeOf9
  v9 := Try.zeroValue9
  t20 := Try.underlying20
  a20 := Try.isAgg20
  z20 := Try.sizeOf20
  v20 := Try.zeroValue20
  t31 := Try.underlying29
  a31 := Try.isAgg29
  z31 := Try.sizeOf29
  v31 := Try.zeroValue29
  t37 := Try.underlying38
  a37 := Try.isAgg38
  z37 := Try.sizeOf38
  v37 := Try.zeroValue38
  t70 := Try.underlying104
  a70 := Try.isAgg104
  z70 := Try.sizeOf104
  v70 := Try.zeroValue104
  t72 := Try.underlying106
  a72 := Try.isAgg106
  z72 := Try.sizeOf106
  v72 := Try.zeroValue106
  t75 := Try.underlying108
  a75 := Try.isAgg108
  z75 := Try.sizeOf108
  v75 := Try.zeroValue108
  t76 := Try.underlying109
  a76 := Try.isAgg109
  z76 := Try.sizeOf109
  v76 := Try.zeroValue109
  t127 := Try.underlying118
  a127 := Try.isAgg118
  z127 := Try.sizeOf118
  v127 := Try.zeroValue118
  t164 := Try.underlying124
  a164 := Try.isAgg124
  z164 := Try.sizeOf124
  v164 := Try.zeroValue124 }
theorem Try.Builder_Extra_156 : Builder.Extra Try.prog Try.lays156_ren := {
  sizeBuilder := by kernel_rfl
  liesBuilder := by kernel_rfl
  t5 := Try.underlying5
  a5 := Try.isAgg5
  z5 := Try.sizeOf5
  v5 := Try.zeroValue5
  infoByte := by kernel_rfl
  cellsByte := by kernel_rfl
  sizeByte := by kernel_rfl
  neB5 := by decide }
open Go.RowKit in
/-- No element: the empty string; the world is as it was. (Whatever the slice's address and capacity: a nil slice too.) (LAID: no walk: one application.) -/
theorem Try.strings_Join_none (a : Option Addr) (c : Nat) (sep : ByteArray) (w : World) :
    Calls Try.prog 74 #[.slice a 0 c, .string sep] w fun e w' => e = .returned (.string ⟨#[]⟩) ∧ w' = w := Any.strings_Join_none Try.lays156 Try.Builder_Extra_156 a c sep w
open Go.RowKit in
/-- strings.Join: "Join concatenates the elements of its first argument to create a single string. The separator string sep is placed between elements in the resulting string.": HOWEVER MANY ELEMENTS. Below the heap's end the world is as it was. (LAID: no walk: one application.) -/
theorem Try.strings_Join (bk o c : Nat) (xs : List ByteArray) (sep : ByteArray) (w : World) (hcells : ∀ (j : Nat) x, xs[j]? = some x → w.cell? ⟨bk, o + j, none⟩ = some (.string x)) (hbk : bk < w.heap.size) (hN : xs.length ≤ 140737488355328) (hcap : xs.length ≤ c) (hlen : (Lib.join (xs.map (·.data.toList)) sep.data.toList).length ≤ 140737488355328) :
    Calls Try.prog 74 #[.slice (some ⟨bk, o, none⟩) xs.length c, .string sep] w fun e w' => e = .returned (.string ⟨(Lib.join (xs.map (·.data.toList)) sep.data.toList).toArray⟩) ∧ Below w.heap.size w w' := Any.strings_Join Try.lays156 Try.Builder_Extra_156 bk o c xs sep w hcells hbk hN hcap hlen
def Try.laysNm216_ren : Go.Shelf.Ren := ⟨fun | 16 => 102 | n => n, fun | 24 => 29 | 9 => 9 | 4 => 4 | n => n, fun | n => n⟩
end Go.Proofs
/- Contracts of FormatName, the program's and the reference model's: each part behind a slash; a slash alone where there is none. No conditions but that lengths fit. -/
namespace Go.Proofs.Ytnblopilgfdjkaa.Row
open Go.ChangeShapes Go.WideShapes Go.ChangeAt Go.RowKit Go.Instr
set_option linter.unusedVariables false
set_option maxRecDepth 100000

/-- The text behind the first k parts. -/
def fT (l : List ByteArray) (k : Nat) : ByteArray := mk (Lib.joinTail [47] ((l.map bl).take k))
theorem fT_zero (l : List ByteArray) : fT l 0 = mk [] := by simp [fT, Lib.joinTail]
theorem fT_succ (l : List ByteArray) {k : Nat} (h : k < l.length) : fT l (k + 1) = fT l k ++ mk [47] ++ nth l k := by
  unfold fT
  rw [Lib.joinTail_take_succ [47] _ k (bl (nth l k)) (by rw [List.getElem?_map, nth_eq h, List.getElem?_eq_getElem h]; rfl), ← mk_append, ← mk_append, mk_bl]
theorem fT_size (l : List ByteArray) : ∀ k, k ≤ l.length → (fT l k).size + l.length = bulkTo l k + k
  | 0, _ => by rw [fT_zero, mk_size, bulkTo_zero]; simp
  | k + 1, h => by
    have ih := fT_size l k (by omega)
    rw [fT_succ l (by omega), ByteArray.size_append, ByteArray.size_append, mk_size, bulkTo_succ l (by omega)]
    simp; omega
theorem fT_le (l : List ByteArray) {k : Nat} (h : k ≤ l.length) : (fT l k).size ≤ bulk l := by
  have h1 := fT_size l k h
  have h2 := bulkTo_le l k
  omega
theorem fT_all {l : List ByteArray} (h : l ≠ []) : fT l l.length = fmtS l := by
  unfold fT fmtS fmtL
  rw [List.take_of_length_le (by simp)]
  obtain ⟨x, r, rfl⟩ : ∃ x r, l = x :: r := by
    cases l with
    | nil => exact absurd rfl h
    | cons x r => exact ⟨x, r, rfl⟩
  rw [List.map_cons, Lib.join_cons]
  congr 1
theorem join_size (l : List ByteArray) : (Lib.join (l.map bl) [47]).length ≤ bulk l := by
  by_cases h : l = []
  · subst h; simp [Lib.join_nil]
  · have h1 := congrArg ByteArray.size (fT_all h)
    have h2 := fT_le l (Nat.le_refl l.length)
    rw [h1] at h2
    unfold fmtS fmtL at h2
    rw [mk_size] at h2
    simp at h2; omega

set_option maxHeartbeats 1000000 in
theorem implFormatName (v : Value) (l : List ByteArray) (w : World) (h : Holds Value.string w v l) (hl : bulk l ≤ 100000000) :
    Calls Try.prog 73 #[.agg #[v]] w fun e w' => e = .returned (.string (fmtS l)) ∧ Below w.heap.size w w' := by
  obtain ⟨x, n, cap, rfl, hn, hcap, hh⟩ := h.shapeN
  have hjs := join_size l
  have hll := bigLen hl
  have HB := Lib.hid ((Below.refl w.heap.size w).alloc (Nat.le_refl _) (.cells #[.slice x n cap] 34))
  have HJ : Hid (∀ W, Holds Value.string W (.slice x n cap) l → Calls Try.prog 74 #[.slice x n cap, .string (mk [47])] W fun e w' => e = .returned (.string (mk (Lib.join (l.map bl) [47]))) ∧ Below W.heap.size W w') := by
    refine Lib.hid fun W hW => ?_
    obtain ⟨x', cap', hv, hc', hh'⟩ := hW
    cases hv
    by_cases hne : l = []
    · subst hne
      refine (Try.strings_Join_none x cap (mk [47]) W).mono ?_
      rintro e w' ⟨rfl, rfl⟩
      exact ⟨rfl, Below.refl _ _⟩
    · rcases hh' with h0 | ⟨b, off, rfl, hc⟩
      · exact absurd h0 hne
      · have hlp : 0 < l.length := List.length_pos_iff.2 hne
        exact Try.strings_Join b off cap l (mk [47]) W (fun j y hy => by
          have hj : j < l.length := (List.getElem?_eq_some_iff.1 hy).1
          rw [hc j hj, nth_eq hj]
          rw [List.getElem?_eq_getElem hj] at hy
          cases hy; rfl) (by have := cell_lt (hc 0 hlp); exact this) (by omega) hc' (by show (Lib.join (l.map bl) [47]).length ≤ _; omega)
  obtain ⟨jn, hjn⟩ : ∃ jn, jn = mk (Lib.join (l.map bl) [47]) := ⟨_, rfl⟩
  have hjz : jn.size ≤ 100000000 := by rw [hjn, mk_size]; omega
  rw [← hjn] at HJ
  have HE := Lib.hid (show mk [47] ++ jn = fmtS l by rw [hjn, mk_append]; rfl)
  have HH := Lib.hid (hh.on HB.out)
  clear hh h hn hjn
  go_enter Try.func73, Try.ntmps73
  go_wp2_with fail
  refine (HJ.out _ HH.out).mono ?_
  rintro e w' ⟨rfl, hb⟩
  have HB2 := Lib.hid (HB.out.trans (hb.mono (by simp))); clear hb
  go_wp2
  go_ret
  exact ⟨ret_str HE.out, HB2.out⟩

set_option maxHeartbeats 1000000 in
theorem specFormatName (v : Value) (l : List ByteArray) (w : World) (h : Holds Value.string w v l) (hl : bulk l ≤ 100000000) :
    Calls Try.prog 72 #[.agg #[v]] w fun e w' => e = .returned (.string (fmtS l)) ∧ Below w.heap.size w w' := by
  obtain ⟨x, n, cap, rfl, hn, hcap, hh⟩ := h.shapeN
  have hll := bigLen hl
  have HSZ := Lib.hid (fun k (hk : k ≤ l.length) => Nat.le_trans (fT_le l hk) hl)
  have HNZ := Lib.hid (fun k (hk : k < l.length) => size_nth hl hk)
  have HB := Lib.hid ((Below.refl w.heap.size w).alloc (Nat.le_refl _) (.cells #[.slice x n cap] 34))
  have HH := Lib.hid (hh.on HB.out)
  have HN := Lib.hid hn
  rw [← hn] at hll
  clear hh h hn hl
  go_enter Try.func72, Try.ntmps72
  go_wp2_with fail
  go_loop [3, 4] (fun sv iv => ∃ (k : Nat) (s : ByteArray), k ≤ n ∧ iv = .int .i64 k ∧ sv = .string s ∧ s.size ≤ 100000000 ∧ Hid (s = fT l k)) (fun _ iv => n - (intOf iv).toNat)
  case atStart => exact ⟨0, mk [], Nat.zero_le _, rfl, rfl, by rw [mk_size]; simp, Lib.hid (fT_zero l).symm⟩
  case round =>
    obtain ⟨k, s, hk, rfl, rfl, hs, he⟩ := hrel
    by_cases hlt : k < n
    · have hlen := HN.out
      obtain ⟨b, off, rfl, hc⟩ := HH.out.at (j := k) (by omega)
      have hz := HNZ.out k (by omega)
      have HS2 := Lib.hid (fT_succ l (k := k) (by omega))
      have HZ2 := Lib.hid (HSZ.out (k + 1) (by omega))
      clear hlen
      go_wp2
      go_round
      case rel => exact ⟨k + 1, _, by omega, by go_num, rfl, by have := HZ2.out; rw [HS2.out, ← he.out] at this; exact this, Lib.hid (by rw [HS2.out, he.out]; rfl)⟩
      case measure => simp [intOf]; omega
    · obtain rfl : k = n := by omega
      clear hlt
      by_cases h0 : k = 0
      · subst h0
        have HE := Lib.hid (show fmtS l = mk [47] by
          have : l = [] := List.eq_nil_of_length_eq_zero HN.out.symm
          rw [this, fmtS_nil])
        go_wp2
        go_ret
        exact ⟨ret_str HE.out.symm, HB.out⟩
      · have hne : ((k : Int) == 0) = false := by simpa using h0
        have HE := Lib.hid (show s = fmtS l by
          have h1 : l ≠ [] := fun e => h0 (by rw [HN.out, e]; rfl)
          rw [he.out, HN.out, fT_all h1])
        clear h0
        go_wp2
        go_ret
        exact ⟨ret_str HE.out, HB.out⟩

end Go.Proofs.Ytnblopilgfdjkaa.Row
/- Contracts of FormatKeys, the program's and the model's: the names' texts, a space between. No conditions but that lengths fit. -/
namespace Go.Proofs.Ytnblopilgfdjkaa.Row.Ring
open Go.ChangeShapes Go.WideShapes Go.ChangeAt Go.RowKit Go.Instr
set_option linter.unusedVariables false
set_option maxRecDepth 100000

/-- The names' texts. -/
def txs (T : List (List ByteArray × Int)) : List ByteArray := T.map (fun t => fmtS t.1)
theorem txs_length (T : List (List ByteArray × Int)) : (txs T).length = T.length := by simp [txs]
theorem txs_nth {T : List (List ByteArray × Int)} {k : Nat} (h : k < T.length) : nth (txs T) k = fmtS (nth T k).1 := by simp [txs, nth, List.getD, h]
/-- The first k texts, a space between. -/
def jT (l : List ByteArray) : Nat → ByteArray
  | 0 => mk []
  | k + 1 => (if k = 0 then jT l k else jT l k ++ mk [32]) ++ nth l k
theorem jT_step {l : List ByteArray} {k : Nat} (h : k ≠ 0) : jT l (k + 1) = jT l k ++ mk [32] ++ nth l k := by
  rw [show jT l (k + 1) = (if k = 0 then jT l k else jT l k ++ mk [32]) ++ nth l k from rfl, if_neg h]
theorem mk_nil_append (a : ByteArray) : mk [] ++ a = a := by
  rw [← mk_bl a, mk_append]; rfl
theorem jT_join (x : ByteArray) (r : List ByteArray) : ∀ k, k ≤ r.length → jT (x :: r) (k + 1) = mk (bl x ++ Lib.joinTail [32] ((r.map bl).take k))
  | 0, _ => by
    unfold jT
    rw [if_pos rfl]
    unfold jT
    rw [mk_nil_append, show nth (x :: r) 0 = x from rfl]
    simp [Lib.joinTail, mk_bl]
  | k + 1, h => by
    have ih := jT_join x r k (by omega)
    unfold jT
    rw [if_neg (by omega), ih, Lib.joinTail_take_succ [32] _ k (bl (nth r k)) (by rw [List.getElem?_map, nth_eq (by omega), List.getElem?_eq_getElem (by omega)]; rfl)]
    rw [show nth (x :: r) (k + 1) = nth r k by simp [nth]]
    conv => lhs; rw [← mk_bl (nth r k)]
    rw [mk_append, mk_append]
    simp [List.append_assoc]
theorem jT_all {l : List ByteArray} (h : l ≠ []) : jT l l.length = mk (Lib.join (l.map bl) [32]) := by
  obtain ⟨x, r, rfl⟩ : ∃ x r, l = x :: r := by
    cases l with
    | nil => exact absurd rfl h
    | cons x r => exact ⟨x, r, rfl⟩
  rw [List.length_cons, jT_join x r r.length (Nat.le_refl _), List.take_of_length_le (by simp), List.map_cons, Lib.join_cons]
def fmtK (T : List (List ByteArray × Int)) : ByteArray := if T.length = 0 then mk [45] else jT (txs T) T.length
theorem fmtS_size (l : List ByteArray) : (fmtS l).size ≤ bulk l + 1 := by
  by_cases h : l = []
  · subst h; rw [fmtS_nil, mk_size]; simp
  · rw [← fT_all h]
    have := fT_le l (Nat.le_refl l.length)
    omega
theorem jT_size (T : List (List ByteArray × Int)) : ∀ k, k ≤ T.length → (jT (txs T) k).size + T.length ≤ bulkTTo T k + 2 * k
  | 0, _ => by unfold jT; rw [mk_size, bulkTTo_zero]; simp
  | k + 1, h => by
    have ih := jT_size T k (by omega)
    have h1 := bulkTTo_succ T (k := k) (by omega)
    have h2 := fmtS_size (nth T k).1
    have h3 := txs_nth (T := T) (k := k) (by omega)
    unfold jT
    rw [ByteArray.size_append, h3]
    split
    · omega
    · rw [ByteArray.size_append, mk_size]; simp; omega
theorem jT_le {T : List (List ByteArray × Int)} (hb : bulkT T ≤ 9000000) {k : Nat} (h : k ≤ T.length) : (jT (txs T) k).size ≤ 18000000 := by
  have h1 := jT_size T k h
  have h2 := bulkTTo_le T k
  have h3 := bulkT_len T
  omega
set_option maxHeartbeats 4000000 in
theorem specFormatKeys (v : Value) (T : List (List ByteArray × Int)) (w : World) (h : TabHolds w v T) (hb : bulkT T ≤ 9000000) :
    Calls Try.prog 46 #[v] w fun e w' => e = .returned (.string (fmtK T)) ∧ Below w.heap.size w w' := by
  obtain ⟨L, rfl, h⟩ := h
  obtain ⟨x, n, cx, rfl, hn, hcx, hh⟩ := h.shapeN
  have hl : n ≤ 9000000 := by have := bulkT_len (strip L); rw [strip_length] at this; omega
  have HN := Lib.hid hn; have HH := Lib.hid hh; have HT := Lib.hid (smT_of hb)
  have HSZ := Lib.hid (fun k (hk : k ≤ (strip L).length) => jT_le hb hk)
  have HLN := Lib.hid (strip_length L)
  clear hn h hh hb
  go_enter Try.func46, Try.ntmps46
  go_wp2_with fail
  go_loopw [3, 4] (fun sv i wr => ∃ (k : Nat) (s : ByteArray), k ≤ n ∧ i = .int .i64 k ∧ sv = .string s ∧ s.size ≤ 18000000 ∧ Hid (s = jT (txs (strip L)) k) ∧ Hid (Below w.heap.size w wr)) (fun _ i _ => n - (intOf i).toNat)
  case atStart => exact ⟨0, mk [], Nat.zero_le _, rfl, rfl, by rw [mk_size]; simp, Lib.hid rfl, Lib.hid (Below.refl _ _)⟩
  case round =>
    obtain ⟨k, s, hk, rfl, rfl, hs, he, hB⟩ := hrel
    by_cases hlt : k < n
    · have HKL := Lib.hid (show k < L.length by have := HN.out; omega)
      obtain ⟨b, off, rfl, hc, hd, hnm⟩ := (HH.out.on hB.out).at HKL.out
      have HPS := Lib.hid (smT_ps HT.out HKL.out)
      have HNM := Lib.hid hnm
      have hk0 : (0 : Int) ≤ (k : Int) := by omega
      have hk1 : (k : Int) < (n : Int) := by omega
      have HE := Lib.hid (show nth (txs (strip L)) k = fmtS (nth L k).ps by rw [txs_nth (by rw [HLN.out]; exact HKL.out), strip_nth HKL.out]; rfl)
      have HS1 := Lib.hid (HSZ.out (k + 1) (by have := HLN.out; have := HKL.out; omega))
      obtain ⟨t, ht⟩ : ∃ t, t = fmtS (nth L k).ps := ⟨_, rfl⟩
      have htz : t.size ≤ 9000001 := by have := fmtS_size (nth L k).ps; have := HPS.out; rw [ht]; omega
      have HTT := Lib.hid ht
      clear hnm hd
      by_cases h0 : k = 0
      · subst h0
        have hc0 : wr.cell? ⟨b, off, none⟩ = some (.slice (nth L 0).ad (nth L 0).n (nth L 0).cap) := by simpa using hc
        have HJ := Lib.hid (show jT (txs (strip L)) (0 + 1) = s ++ t by rw [he.out, HTT.out, ← HE.out]; rfl)
        go_wp2_with fail
        refine (specFormatName _ (nth L 0).ps _ HNM.out (by have := HPS.out; omega)).mono ?_
        rintro e w1 ⟨rfl, hb1⟩
        rw [← HTT.out]
        have HB1 := Lib.hid (hB.out.trans (hb1.mono hB.out.size))
        clear hb1 hc hc0 ht
        have hz : (s ++ t).size ≤ 18000000 := by rw [← HJ.out]; exact HS1.out
        go_wp2_with fail
        go_roundw
        case rel => exact ⟨0 + 1, s ++ t, by omega, by go_num, rfl, hz, Lib.hid HJ.out.symm, HB1⟩
        case measure => simp [intOf]; omega
      · have hpos : (0 : Int) < (k : Int) := by omega
        have HJ := Lib.hid (show jT (txs (strip L)) (k + 1) = s ++ mk [32] ++ t by rw [he.out, HTT.out, ← HE.out, jT_step h0])
        clear h0
        go_wp2_with fail
        refine (specFormatName _ (nth L k).ps _ HNM.out (by have := HPS.out; omega)).mono ?_
        rintro e w1 ⟨rfl, hb1⟩
        rw [← HTT.out]
        have HB1 := Lib.hid (hB.out.trans (hb1.mono hB.out.size))
        clear hb1 hc ht
        have hz : (s ++ mk [32] ++ t).size ≤ 18000000 := by rw [← HJ.out]; exact HS1.out
        have hz1 : (s ++ mk [32]).size = s.size + 1 := by rw [ByteArray.size_append, mk_size]; rfl
        go_wp2_with fail
        go_roundw
        case rel => exact ⟨k + 1, s ++ mk [32] ++ t, by omega, by go_num, rfl, hz, Lib.hid HJ.out.symm, HB1⟩
        case measure => simp [intOf]; omega
    · obtain rfl : k = n := by omega
      clear hlt
      by_cases h0 : k = 0
      · subst h0
        have HE := Lib.hid (show fmtK (strip L) = mk [45] by unfold fmtK; rw [if_pos (by rw [HLN.out]; exact HN.out.symm)])
        go_wp2_with fail
        go_ret
        exact ⟨ret_str HE.out.symm, hB.out⟩
      · have hne : ((k : Int) == 0) = false := by simpa using h0
        have HE := Lib.hid (show s = fmtK (strip L) by unfold fmtK; rw [if_neg (by rw [HLN.out, ← HN.out]; exact h0), he.out, HLN.out, ← HN.out])
        clear h0
        go_wp2_with fail
        go_ret
        exact ⟨ret_str HE.out, hB.out⟩

set_option maxHeartbeats 4000000 in
theorem implFormatKeys (v : Value) (T : List (List ByteArray × Int)) (w : World) (h : TabHolds w v T) (hb : bulkT T ≤ 9000000) :
    Calls Try.prog 47 #[v] w fun e w' => e = .returned (.string (fmtK T)) ∧ Below w.heap.size w w' := by
  obtain ⟨L, rfl, h⟩ := h
  obtain ⟨x, n, cx, rfl, hn, hcx, hh⟩ := h.shapeN
  have hl : n ≤ 9000000 := by have := bulkT_len (strip L); rw [strip_length] at this; omega
  have HN := Lib.hid hn; have HH := Lib.hid hh; have HT := Lib.hid (smT_of hb)
  have HLN := Lib.hid (strip_length L)
  have HJ9 := Lib.hid (jT_le hb (Nat.le_refl (strip L).length))
  clear hn h hh hb
  by_cases h0 : n = 0
  · subst h0
    have HE := Lib.hid (show fmtK (strip L) = mk [45] by unfold fmtK; rw [if_pos (by rw [HLN.out]; exact HN.out.symm)])
    go_enter Try.func47, Try.ntmps47
    go_wp2_with fail
    go_ret
    exact ⟨ret_str HE.out.symm, Below.refl _ _⟩
  have hne : ((n : Int) == 0) = false := by simpa using h0
  have HNE := Lib.hid h0
  obtain ⟨i0, hi, hz0, hz1, hz2⟩ := info_parts elemSTR
  have HI := Lib.hid hi; have HZ0 := Lib.hid hz0; have HZ1 := Lib.hid hz1; have HZ2 := Lib.hid hz2
  clear hi hz0 hz1 hz2 h0
  go_enter Try.func47, Try.ntmps47
  go_wp2_with (at_make; refine wpList_make_own _ rfl _ _ 29 rfl w.heap.size 9 i0 (.string ByteArray.empty) 1 Try.underlying29 HI.out HZ0.out HZ1.out _ _ _ n rfl rfl rfl (by rw [HZ2.out]; omega) (by unfold maxLen; omega) (Nat.le_refl _) ?_)
  intro w1 hown hgrow
  have HO := Lib.hid (show Own 9 Value.string w.heap.size w1 (.slice (some ⟨w.heap.size, 0, none⟩) 0 n) ((txs (strip L)).take 0) from hown)
  have HB := Lib.hid ((Below.refl w.heap.size w).grown hgrow (Nat.le_refl _) (fun g hg => by cases hg))
  clear hown hgrow HI HZ0 HZ1 HZ2
  go_wp2_with fail
  go_loopw [3, 14] (fun u i wr => ∃ k : Nat, k ≤ n ∧ i = .int .i64 k ∧ Hid (Own 9 Value.string w.heap.size wr u ((txs (strip L)).take k)) ∧ Hid (Below w.heap.size w wr)) (fun _ i _ => n - (intOf i).toNat)
  case atStart => exact ⟨0, Nat.zero_le _, rfl, HO, HB⟩
  case round =>
    obtain ⟨k, hk, rfl, hO, hB⟩ := hrel
    obtain ⟨xu, nu, cu, rfl, -, -, ho⟩ := hO.out.shapeN
    have hO := Lib.hid ho
    clear ho
    by_cases hlt : k < n
    · have HKL := Lib.hid (show k < L.length by have := HN.out; omega)
      obtain ⟨b, off, rfl, hc, hd, hnm⟩ := (HH.out.on hB.out).at HKL.out
      have HPS := Lib.hid (smT_ps HT.out HKL.out)
      have hal := (Below.refl wr.heap.size wr).alloc (Nat.le_refl _) (.cells #[.slice (nth L k).ad (nth L k).n (nth L k).cap, .int .i64 (nth L k).val] 67)
      have HNM := Lib.hid (hnm.on hal)
      have HB1 := Lib.hid (hB.out.trans (hal.mono hB.out.size))
      have HO1 := Lib.hid (hO.out.on hal)
      have HE := Lib.hid (show (txs (strip L)).take (k + 1) = (txs (strip L)).take k ++ [fmtS (nth L k).ps] by
        have h1 : k < (txs (strip L)).length := by rw [txs_length, HLN.out]; exact HKL.out
        rw [List.take_succ_eq_append_getElem h1, ← nth_eq h1, txs_nth (by rw [HLN.out]; exact HKL.out), strip_nth HKL.out]; rfl)
      clear hnm hal
      go_wp2_with fail
      refine (implFormatName _ (nth L k).ps _ HNM.out (by have := HPS.out; omega)).mono ?_
      rintro e w2 ⟨rfl, hb2⟩
      have HB2 := Lib.hid (HB1.out.trans (hb2.mono HB1.out.size))
      have HO2 := Lib.hid (HO1.out.on hb2)
      obtain ⟨t, ht⟩ : ∃ t, t = fmtS (nth L k).ps := ⟨_, rfl⟩
      rw [← ht] at HE ⊢
      clear hb2 ht hc hd
      go_wp2_with (at_builtin; refine wpList_app (enc := Value.string) (B := w.heap.size) (l := (txs (strip L)).take k) (m := [t]) rfl _ _ rfl Try.underlying29 elemSTR rfl rfl rfl (HO2.out.on ((Below.refl _ _).alloc (Nat.le_refl _) _)) (holds_one Value.string 9 w2 t) oneStr ?_ (by unfold maxLen; simp; omega) (by have := HB2.out.size; simp; omega) ?_)
      · simp; omega
      intro v3 w3 ho3 hg3
      have HO3 := Lib.hid (show Own 9 Value.string w.heap.size w3 v3 ((txs (strip L)).take (k + 1)) by rw [HE.out]; exact ho3)
      have HB3 := Lib.hid ((HB2.out.alloc HB2.out.size _).grown hg3 (by have := HB2.out.size; simp; omega) (fun g hg => (HO2.out.lt g hg).1))
      clear ho3 hg3
      go_wp2_with fail
      go_roundw
      case rel => exact ⟨k + 1, by omega, by go_num, HO3, HB3⟩
      case measure => simp [intOf]; omega
    · obtain rfl : k = n := by omega
      clear hlt
      have hO9 := hO.out
      rw [List.take_of_length_le (by rw [txs_length, HLN.out, ← HN.out]; exact Nat.le_refl _)] at hO9
      have HO9 := Lib.hid hO9.holds
      have hne2 : txs (strip L) ≠ [] := fun e => HNE.out (by rw [HN.out, ← HLN.out, ← txs_length, e]; rfl)
      have HJA := Lib.hid (jT_all hne2)
      have HJL := Lib.hid (show (Lib.join ((txs (strip L)).map bl) [32]).length ≤ 18000000 by
        have h1 := HJ9.out
        rw [← txs_length, HJA.out, mk_size] at h1
        exact h1)
      have HNE2 := Lib.hid hne2
      have HLX := Lib.hid (show (txs (strip L)).length ≤ 9000000 by rw [txs_length, HLN.out, ← HN.out]; exact hl)
      have HJ : Hid (Calls Try.prog 74 #[.slice xu nu cu, .string (mk [32])] wr fun e w' => e = .returned (.string (mk (Lib.join ((txs (strip L)).map bl) [32]))) ∧ Below wr.heap.size wr w') := by
        refine Lib.hid ?_
        obtain ⟨x', cap', hv, hc', hh'⟩ := HO9.out
        cases hv
        rcases hh' with h0 | ⟨b, off, rfl, hc⟩
        · exact absurd h0 HNE2.out
        · have hlp : 0 < (txs (strip L)).length := List.length_pos_iff.2 HNE2.out
          exact Try.strings_Join b off cu (txs (strip L)) (mk [32]) wr (fun j y hy => by
            have hj : j < (txs (strip L)).length := (List.getElem?_eq_some_iff.1 hy).1
            rw [hc j hj, nth_eq hj]
            rw [List.getElem?_eq_getElem hj] at hy
            cases hy; rfl) (by have := cell_lt (hc 0 hlp); exact this) (by have := HLX.out; omega) hc' (by show (Lib.join ((txs (strip L)).map bl) [32]).length ≤ _; have := HJL.out; omega)
      have HE := Lib.hid (show mk (Lib.join ((txs (strip L)).map bl) [32]) = fmtK (strip L) by
        unfold fmtK
        rw [if_neg (by rw [HLN.out, ← HN.out]; exact HNE.out), ← HJA.out, txs_length])
      clear hO9 hne2
      go_wp2_with fail
      refine HJ.out.mono ?_
      rintro e w9 ⟨rfl, hb9⟩
      have HB9 := Lib.hid (hB.out.trans (hb9.mono hB.out.size))
      clear hb9
      go_wp2_with fail
      go_ret
      exact ⟨ret_str HE.out, HB9.out⟩
end Go.Proofs.Ytnblopilgfdjkaa.Row.Ring
/- Contracts of the library's slices.Grow at the nil slice and slices.Concat at lists of keys, and of the program's AddKey. No conditions but that lengths fit. -/
namespace Go.Proofs.Ytnblopilgfdjkaa.Row.Ring
open Go.ChangeShapes Go.WideShapes Go.ChangeAt Go.RowKit Go.Instr
set_option linter.unusedVariables false
set_option maxRecDepth 100000

/-- A row of keys of the call's own (their names may be others'). -/
def GivesK (w : World) (L : List Ent) (e : Ending) (w' : World) : Prop := ∃ v, e = .returned v ∧ OwnK 67 encE 2 w.heap.size w' v L ∧ Below w.heap.size w w'

set_option maxHeartbeats 1000000 in
theorem growNilK (n : Nat) (w : World) (hn : n ≤ 5000000) :
    Calls Try.prog 90 #[.slice none 0 0, .int .i64 n] w (GivesK w []) := by
  by_cases h0 : 0 < n
  · obtain ⟨i0, hi, hz0, hz1, hz2⟩ := info_parts kindE.elem
    have hrz : ∀ ty, (Builtin.append_ #[25, 3] ty #[.slice none 0 0, .int .i64 (n : Int)]).run Try.prog w =
        .ok (.slice (some ⟨w.heap.size, 0, none⟩) (0 + n) (grownCap w (0 + n) 0 67)) (w.drew.alloc (.cells (([] : List Value).toArray ++ Builtin.zeroCells (Value.agg #[.slice none 0 0, .int .i64 0]).cells n ++ Builtin.zeroCells (Value.agg #[.slice none 0 0, .int .i64 0]).cells (grownCap w (0 + n) 0 67 - (0 + n))) 67)) := fun ty => by
      have hfit := growslice_fits (need := 0 + n) (old := 0) (bytes := i0.bytes) (by omega) (by rw [hz2]; omega)
      exact Lib.run_append_grow_zeros w 25 3 ty 67 i0 (.agg #[.slice none 0 0, .int .i64 0]) .i64 .i64 Try.underlying25 Try.underlying3 hi hz0 none 0 0 [] (by rw [hz1]; exact run_firstCells_none w.drew 2 0 0 0) n h0 (by rw [hz1]; decide) (by omega) (by omega) (by rw [hz2]; omega) hfit
    have hGn : 0 + n ≤ grownCap w (0 + n) 0 67 := grownCap_ge w _ _ _
    have hG63 := grownCap_le_maxLen w (0 + n) 0 67 (by unfold maxLen; omega)
    obtain ⟨G, hG⟩ : ∃ G, G = grownCap w (0 + n) 0 67 := ⟨_, rfl⟩
    rw [← hG] at hrz hGn hG63
    have hown : OwnK 67 encE 2 w.heap.size ((w.alloc (.cells (Builtin.zeroCells #[.slice none 0 0, .int .i64 0] n ++ Builtin.zeroCells #[.slice none 0 0, .int .i64 0] (G - n)) 67)).drew) (.slice (some ⟨w.heap.size, 0, none⟩) 0 G) [] := by
      refine ⟨rfl, .inr ⟨w.heap.size, G, _, rfl, Nat.le_refl _, heap_alloc_new w _, Nat.zero_le _, hG63, ?_, by simp [flat]⟩⟩
      simp only [Array.size_append, size_zeroCells]
      simp; omega
    have HOWN := Lib.hid hown; have HR := Lib.hid hrz
    unfold maxLen at hG63
    clear hi hz0 hz1 hz2 hG hown hrz
    go_enter Try.func90, Try.ntmps90
    go_wp2_with (at_builtin; refine Lib.wpList_append_run _ rfl _ _ _ _ rfl _ _ rfl rfl _ _ (HR.out _) ?_)
    all_goals (go_ret; exact ⟨.slice (some ⟨w.heap.size, 0, none⟩) 0 G, rfl, HOWN.out, ((Below.refl _ _).alloc (Nat.le_refl _) _).drew⟩)
  · obtain rfl : n = 0 := by omega
    go_enter Try.func90, Try.ntmps90
    go_wp2_with fail
    go_ret
    exact ⟨_, rfl, OwnK.nil _ _ _ _ _, Below.refl _ _⟩

/-- The first k lists, one behind the other. -/
def catK (ls : Nat → List Ent) : Nat → List Ent
  | 0 => []
  | k + 1 => catK ls k ++ ls k
theorem catK_mono (ls : Nat → List Ent) {k n : Nat} (h : k ≤ n) : (catK ls k).length ≤ (catK ls n).length := by
  induction n with
  | zero => obtain rfl : k = 0 := by omega
            exact Nat.le_refl _
  | succ n ih =>
    by_cases e : k = n + 1
    · subst e; exact Nat.le_refl _
    · have := ih (by omega)
      simp only [catK, List.length_append]; omega

set_option maxHeartbeats 2000000 in
theorem concatK (b : Nat) (vs : Nat → Value) (ls : Nat → List Ent) (n : Nat) (w : World) (hn : n ≤ 1000) (hc : ∀ j, j < n → w.cell? ⟨b, j, none⟩ = some (vs j)) (hh : ∀ j, j < n → HoldsK encE 2 w (vs j) (ls j)) (hlen : (catK ls n).length ≤ 4000001) :
    Calls Try.prog 70 #[.slice (some ⟨b, 0, none⟩) n n] w (GivesK w (catK ls n)) := by
  have HC := Lib.hid hc; have HH := Lib.hid hh
  clear hc hh
  go_enter Try.func70, Try.ntmps70
  go_wp2_with fail
  go_loop [3, 11] (fun sv iv => ∃ k : Nat, k ≤ n ∧ iv = .int .i64 k ∧ sv = .int .i64 ((catK ls k).length : Nat)) (fun _ iv => n - (intOf iv).toNat)
  case atStart => exact ⟨0, Nat.zero_le _, rfl, rfl⟩
  case round =>
    obtain ⟨k, hk, rfl, rfl⟩ := hrel
    by_cases hlt : k < n
    · have hcell := HC.out k hlt
      obtain ⟨x, cap, hv, hcap, -⟩ := (HH.out k hlt).shape
      rw [hv] at hcell
      have hm := catK_mono ls (k := k + 1) (n := n) (by omega)
      have HS := Lib.hid (show (catK ls (k + 1)).length = (catK ls k).length + (ls k).length by simp [catK])
      have hm2 : (catK ls k).length + (ls k).length ≤ 4000001 := by rw [← HS.out]; omega
      obtain ⟨c, hcc⟩ : ∃ c, c = (catK ls k).length := ⟨_, rfl⟩
      obtain ⟨d, hdd⟩ : ∃ d, d = (ls k).length := ⟨_, rfl⟩
      rw [← hcc, ← hdd] at HS hm2
      rw [← hcc]
      rw [← hdd] at hcell hcap
      clear hv hm hcc hdd
      go_wp2_with fail
      go_round
      case rel => exact ⟨k + 1, by omega, by go_num, by rw [HS.out]; go_num⟩
      case measure => simp [intOf]; omega
    · obtain rfl : k = n := by omega
      clear hlt
      have HG := Lib.hid (growNilK (catK ls k).length w (by omega))
      obtain ⟨c, hcc⟩ : ∃ c, c = (catK ls k).length := ⟨_, rfl⟩
      have HL := Lib.hid hlen
      rw [← hcc] at HG ⊢
      clear hcc hlen
      go_wp2_with fail
      refine HG.out.mono ?_
      rintro e w1 ⟨v1, rfl, ho, hb⟩
      have HO := Lib.hid ho; have HB := Lib.hid hb
      clear ho hb
      go_wp2_with fail
      go_loopw [6, 27] (fun rv iv wr => ∃ j : Nat, j ≤ k ∧ iv = .int .i64 j ∧ Hid (OwnK 67 encE 2 w.heap.size wr rv (catK ls j)) ∧ Hid (Below w.heap.size w wr)) (fun _ iv _ => k - (intOf iv).toNat)
      case atStart => exact ⟨0, Nat.zero_le _, rfl, HO, HB⟩
      case round =>
        obtain ⟨j, hj, rfl, hr, hbr⟩ := hrel
        by_cases hlt : j < k
        · have hcell := hbr.out.cell (cell_lt (HC.out j hlt))
          rw [HC.out j hlt] at hcell
          have HHJ := (HH.out j hlt).on hbr.out
          have hmono := catK_mono ls (k := j + 1) (n := k) (by omega)
          have hsum : (catK ls j).length + (ls j).length ≤ 4000001 := by
            have := HL.out
            simp only [catK, List.length_append] at hmono; omega
          obtain ⟨x, cap, hv, hcap, hh⟩ := HHJ.shape
          rw [hv] at hcell
          have HHH := Lib.hid hh
          clear hv hmono HHJ hh
          go_wp2_with (at_builtin; refine wpList_appK kindE (B := w.heap.size) (l := catK ls j) (m := ls j) rfl _ _ rfl Try.underlying25 rfl rfl hr.out HHH.out (by omega) (by unfold maxLen; omega) hbr.out.size ?_)
          intro v2 w2 ho hg
          have HO2 := Lib.hid ho; have HB2 := Lib.hid (hbr.out.grown hg hbr.out.size (fun g hh => (hr.out.lt g hh).1))
          clear ho hg
          go_wp2_with fail
          go_roundw
          case rel => exact ⟨j + 1, by omega, by go_num, HO2, HB2⟩
          case measure => simp [intOf]; omega
        · obtain rfl : j = k := by omega
          clear hlt
          go_wp2_with fail
          go_ret
          exact ⟨_, rfl, hr.out, hbr.out⟩

/-! ### AddKey -/
def addK (T : List (List ByteArray × Int)) (x : List ByteArray × Int) : List (List ByteArray × Int) := if validK (T ++ [x]) then T ++ [x] else T
/-- A list of keys of the call's own, and whether the key is in it. -/
def GivesKB (w : World) (T : List (List ByteArray × Int)) (z : Bool) (e : Ending) (w' : World) : Prop := ∃ v, e = .returned (.tuple #[v, .bool z]) ∧ TabOwn w.heap.size w' v T ∧ Below w.heap.size w w'
theorem smT_snoc {T : List (List ByteArray × Int)} {x : List ByteArray × Int} (h : smT T) (hx : bulk x.1 ≤ 9000000) : smT (T ++ [x]) := fun t ht => by
  rcases List.mem_append.1 ht with ht | ht
  · exact h t ht
  · rw [List.mem_singleton.1 ht]; exact hx

set_option maxHeartbeats 8000000 in
theorem implAddKey (v u : Value) (T : List (List ByteArray × Int)) (l : List ByteArray) (s : Int) (w : World) (h : TabHolds w v T) (g : Holds Value.string w u l) (hl : T.length ≤ 3000000) (hT : smT T) (hW : ∀ t ∈ T, (Lit.int .i64 t.2).wf = true) (hs : (Lit.int .i64 s).wf = true) (hbl : bulk l ≤ 9000000) :
    Calls Try.prog 42 #[v, .agg #[u, .int .i64 s]] w (GivesKB w (addK T (l, s)) (validK (T ++ [(l, s)]))) := by
  obtain ⟨L, rfl, h⟩ := h
  obtain ⟨y, n, cy, rfl, hn, hcy, hh⟩ := h.shapeN
  obtain ⟨x, q, cx, rfl, hq, hcx, hg⟩ := g.shapeN
  obtain ⟨z, hz⟩ : ∃ z, validK (strip L ++ [(l, s)]) = z := ⟨_, rfl⟩
  have HZ := Lib.hid hz
  rw [hz]
  have hsx : strip (L ++ [⟨x, q, cx, l, s⟩]) = strip L ++ [(l, s)] := by rw [strip_append]; rfl
  have hb0 := (Below.refl w.heap.size w).alloc (Nat.le_refl _) (.cells #[.slice x q cx, .int .i64 s] 67)
  have hb1 := hb0.alloc (by simp) (.cells #[.slice x q cx, .int .i64 s] 67)
  have hb2 := hb1.alloc (by simp <;> omega) (.cells #[.slice y n cy, .slice (some ⟨w.heap.size + 1, 0, none⟩) 1 1] 25)
  have HB := Lib.hid hb2
  have hone := holdsK_one szE 67 (w.alloc (.cells #[.slice x q cx, .int .i64 s] 67)) (⟨x, q, cx, l, s⟩ : Ent)
  rw [World.size_alloc] at hone
  have hone2 : HoldsK encE 2 (((w.alloc (.cells #[.slice x q cx, .int .i64 s] 67)).alloc (.cells #[.slice x q cx, .int .i64 s] 67)).alloc (.cells #[.slice y n cy, .slice (some ⟨w.heap.size + 1, 0, none⟩) 1 1] 25)) (.slice (some ⟨w.heap.size + 1, 0, none⟩) 1 1) [⟨x, q, cx, l, s⟩] := HoldsK.on hone ((Below.refl _ _).alloc (Nat.le_refl _) _)
  have HR := Lib.hid (Ret.Blk.new' (w := (w.alloc (.cells #[.slice x q cx, .int .i64 s] 67)).alloc (.cells #[.slice x q cx, .int .i64 s] 67)) (n := w.heap.size + 2) #[.slice y n cy, .slice (some ⟨w.heap.size + 1, 0, none⟩) 1 1] 25 (by simp))
  have HCON := Lib.hid (concatK (w.heap.size + 2) (fun j => if j = 0 then .slice y n cy else .slice (some ⟨w.heap.size + 1, 0, none⟩) 1 1) (fun j => if j = 0 then L else [⟨x, q, cx, l, s⟩]) 2 _ (by decide)
    (fun j hj => by
      rcases (show j = 0 ∨ j = 1 by omega) with rfl | rfl
      · exact HR.out.cell 0
      · exact HR.out.cell 1)
    (fun j hj => by
      rcases (show j = 0 ∨ j = 1 by omega) with rfl | rfl
      · exact hh.1.on hb2
      · exact hone2)
    (by rw [strip_length] at hl; simp [catK]; omega))
  have hcat : catK (fun j => if j = 0 then L else [⟨x, q, cx, l, s⟩]) 2 = L ++ [⟨x, q, cx, l, s⟩] := by simp [catK]
  rw [hcat] at HCON
  have HH := Lib.hid hh; have HG := Lib.hid hg; have HT := Lib.hid hT; have HL := Lib.hid hl; have HSX := Lib.hid hsx
  have HTX := Lib.hid (smT_snoc (x := (l, s)) hT hbl)
  have HLX := Lib.hid (show (strip L ++ [(l, s)]).length ≤ 4000000 by rw [List.length_append]; simp; omega)
  have HWX := Lib.hid (show ∀ t ∈ strip L ++ [(l, s)], (Lit.int .i64 t.2).wf = true from fun t ht => by
    rcases List.mem_append.1 ht with ht | ht
    · exact hW t ht
    · rw [List.mem_singleton.1 ht]; exact hs)
  clear hz hsx hb0 hb1 hb2 hone hone2 HR hcat hn hh h hq hg g hT hl hW hs hbl hcy hcx
  go_enter Try.func42, Try.ntmps42
  go_wp2_with fail
  refine HCON.out.mono ?_
  rintro e w1 ⟨v1, rfl, ho1, hb1⟩
  have HB1 := Lib.hid (HB.out.trans (hb1.mono HB.out.size))
  have HT1 := Lib.hid (show TabHolds w1 v1 (strip L ++ [(l, s)]) from ⟨_, HSX.out, ho1.holds, fun a ha => by
    rcases List.mem_append.1 ha with ha | ha
    · exact (HH.out.2 a ha).on HB1.out
    · rw [List.mem_singleton.1 ha]; exact HG.out.on HB1.out⟩)
  clear ho1 hb1 HCON
  go_wp2_with fail
  refine (cloneKeys v1 _ w1 HT1.out HLX.out HTX.out).mono ?_
  rintro e w2 ⟨v2, rfl, ho2, hb2⟩
  have HB2 := Lib.hid (HB1.out.trans (hb2.mono HB1.out.size))
  have HO2 := Lib.hid (ho2.mono HB1.out.size)
  clear ho2 hb2 HT1
  go_wp2_with fail
  refine (implValidKeys v2 _ w2 HO2.out.holds HLX.out HTX.out HWX.out).mono ?_
  rintro e w3 ⟨rfl, hb3⟩
  rw [HZ.out]
  have HB3 := Lib.hid (HB2.out.trans (hb3.mono HB2.out.size))
  have HO3 := Lib.hid (HO2.out.on hb3)
  clear hb3 HO2
  cases z with
  | true =>
    have HA := Lib.hid (show addK (strip L) (l, s) = strip L ++ [(l, s)] by unfold addK; rw [HZ.out]; rfl)
    go_wp2_with fail
    go_ret2
    exact ⟨v2, rfl, by rw [HA.out]; exact HO3.out, HB3.out⟩
  | false =>
    have HA := Lib.hid (show addK (strip L) (l, s) = strip L by unfold addK; rw [HZ.out]; rfl)
    go_wp2_with fail
    refine (cloneKeys _ (strip L) w3 ⟨L, rfl, HH.out.on HB3.out⟩ (Nat.le_trans HL.out (by decide)) HT.out).mono ?_
    rintro e w4 ⟨v4, rfl, ho4, hb4⟩
    have HB4 := Lib.hid (HB3.out.trans (hb4.mono HB3.out.size))
    have HO4 := Lib.hid (ho4.mono HB3.out.size)
    clear ho4 hb4
    go_wp2_with fail
    go_ret2
    exact ⟨v4, rfl, by rw [HA.out]; exact HO4.out, HB4.out⟩
end Go.Proofs.Ytnblopilgfdjkaa.Row.Ring
/- Slices of ints in the words of the exact laws. No conditions but that lengths fit. -/
namespace Go.Proofs.Ytnblopilgfdjkaa.Row
open Go.ChangeShapes Go.WideShapes Go.ChangeAt Go.RowKit Go.Instr
set_option linter.unusedVariables false
set_option maxRecDepth 100000

def kI : Kd (List Int) (Rw Int) := kS 3 (Value.int .i64) (fun _ => rfl)
section
variable {w : World} {v V : Value} {l : List Int} {B E : Nat}
theorem kI_own (h : Sl.Own 3 .i64 B w v l) : kI.In B w.heap.size w v l := kS_own h
theorem kI_mk (h : Sl.Own 3 .i64 B w v l) (hE : ∀ g, v.ownBlock = some g → g < E) : kI.In B E w v l := kS_mk h hE
theorem kI_shape (h : kI.In B E w V l) : ∃ x n c, V = .slice x n c ∧ kI.In B E w (.slice x n c) l := by
  obtain ⟨x, n, c, rfl, -⟩ := (kS_in h).1.shapeN
  exact ⟨x, n, c, rfl, h⟩
end
theorem sameI' (V U : Value) (l : List Int) (w : World) (h : kI.At w V l) (g : kI.At w U l) (hl : l.length ≤ 100000000) :
    Calls Try.prog 36 #[V, U] w fun e w' => e = .returned (.bool true) ∧ Below w.heap.size w w' := Sl.sameIntS V U l w (kS_at h) (kS_at g) hl
theorem markI (B E : Nat) (V : Value) (l : List Int) (w : World) (k : Int) (h : kI.In B E w V l) (hl : l.length ≤ 100000000) (h0 : 0 ≤ k) (h1 : k ≤ 1000000000) :
    Calls Try.prog 37 #[V, .int .i64 k] w fun e w' => e = .returned (.int .i64 (k + (l.length : Int))) ∧ kI.In B E w' V (Sl.marks .i64 k l.length) ∧ Wrote B E w w' :=
  (Sl.markIntS B V l w k (kS_in h).1 hl h0 (by omega)).mono fun e w' ⟨a, b, c⟩ => ⟨a, kI_mk b (kS_in h).2, Wrote.of c (fun g hg => ⟨((kS_in h).1.lt g hg).1, (kS_in h).2 g hg⟩)⟩
theorem heldI (V : Value) (w : World) (k : Int) (l : List Int) (h : kI.At w V (Sl.marks .i64 k l.length)) (hl : l.length ≤ 100000000) (h0 : 0 ≤ k) (h1 : k ≤ 1000000000) :
    Calls Try.prog 38 #[V, .int .i64 k] w fun e w' => e = .returned (.int .i64 (k + (l.length : Int))) ∧ Below w.heap.size w w' :=
  (Sl.heldIntS V w k l.length (kS_at h) hl h0 (by omega)).mono fun e w' ⟨a, b⟩ => ⟨a, b ▸ Below.refl _ _⟩
end Go.Proofs.Ytnblopilgfdjkaa.Row
/- Chapter 8's functions, the model's and the program's, in the words of kinds. No conditions but that lengths fit. -/
namespace Go.Proofs.Ytnblopilgfdjkaa.Row
open Go.ChangeShapes Go.WideShapes Go.ChangeAt Go.RowKit Go.Instr
set_option linter.unusedVariables false
set_option maxRecDepth 100000

set_option maxHeartbeats 4000000 in
theorem implValidData (a b c : Value) (x : Dt) (w : World) (h : DHold w a b c x) (h1 : bulk x.1 ≤ 9000000) (h3 : bulk x.2.2.1 ≤ 9000000) :
    Calls Try.prog 60 #[.agg (dc a b c x.2.2.2.1 x.2.2.2.2)] w fun e w' => e = .returned (.bool (validD x)) ∧ Below w.heap.size w w' := by
  obtain ⟨l, m, k, f, s⟩ := x
  simp only at h1 h3 ⊢
  obtain ⟨xa, na, ca, xb, nb, cb, xc, nc, cc, rfl, rfl, rfl⟩ := h.shape
  have HA := Lib.hid (show na = l.length from Holds.lenEq h.1); have HM := Lib.hid (show nb = m.length from Sl.Holds.lenEq h.2.1)
  have HB := Lib.hid ((Below.refl w.heap.size w).alloc (Nat.le_refl _) (.cells (dc (.slice xa na ca) (.slice xb nb cb) (.slice xc nc cc) f s) 40))
  have H0 := Lib.hid h
  have HX := Lib.hid (Ret.Blk.new w (dc (.slice xa na ca) (.slice xb nb cb) (.slice xc nc cc) f s) 40)
  clear h
  obtain ⟨v1, hv1⟩ : ∃ z, validN l = z := ⟨_, rfl⟩
  obtain ⟨v2, hv2⟩ : ∃ z, validN k = z := ⟨_, rfl⟩
  have HV1 := Lib.hid hv1; have HV2 := Lib.hid hv2
  clear hv1 hv2
  go_enter Try.func60, Try.ntmps60
  go_wp2_with fail
  refine (implValidName _ l _ (H0.out.on HB.out).1 (by omega)).mono ?_
  rintro e w1 ⟨rfl, hb⟩
  rw [HV1.out]
  replace HX := Lib.hid (HX.out.on hb)
  replace HB := Lib.hid (HB.out.trans (hb.mono HB.out.size)); clear hb
  have q0 : w1.cell? ⟨w.heap.size, 0, none⟩ = some (.slice xa na ca) := HX.out.cell 0
  have q1 : w1.cell? ⟨w.heap.size, 1, none⟩ = some (.slice xb nb cb) := HX.out.cell 1
  have q2 : w1.cell? ⟨w.heap.size, 2, none⟩ = some (.slice xc nc cc) := HX.out.cell 2
  have q3 : w1.cell? ⟨w.heap.size, 3, none⟩ = some (.int .i64 f) := HX.out.cell 3
  have q4 : w1.cell? ⟨w.heap.size, 4, none⟩ = some (.int .i64 s) := HX.out.cell 4
  cases v1 with
  | false =>
    have HV := Lib.hid (validD_no (x := (l, m, k, f, s)) (fun e => by have h9 := e.1; rw [show validN l = false from HV1.out] at h9; cases h9))
    go_wp2_with fail
    go_ret
    exact ⟨ret_bool HV.out.symm, HB.out⟩
  | true =>
    by_cases hn : 0 < na
    · have t2 : decide ((0 : Int) < (na : Int)) = true := by simp; omega
      by_cases hm : nb ≤ 60
      · have t3 : decide ((nb : Int) ≤ 60) = true := by simp; omega
        go_wp2_with fail
        clear q0 q1 q2 q3 q4
        refine (implValidName _ k _ (H0.out.on HB.out).2.2 (by omega)).mono ?_
        rintro e w2 ⟨rfl, hb⟩
        rw [HV2.out]
        replace HX := Lib.hid (HX.out.on hb)
        replace HB := Lib.hid (HB.out.trans (hb.mono HB.out.size)); clear hb
        have q0 : w2.cell? ⟨w.heap.size, 0, none⟩ = some (.slice xa na ca) := HX.out.cell 0
        have q1 : w2.cell? ⟨w.heap.size, 1, none⟩ = some (.slice xb nb cb) := HX.out.cell 1
        have q2 : w2.cell? ⟨w.heap.size, 2, none⟩ = some (.slice xc nc cc) := HX.out.cell 2
        have q3 : w2.cell? ⟨w.heap.size, 3, none⟩ = some (.int .i64 f) := HX.out.cell 3
        have q4 : w2.cell? ⟨w.heap.size, 4, none⟩ = some (.int .i64 s) := HX.out.cell 4
        cases v2 with
        | false =>
          have HV := Lib.hid (validD_no (x := (l, m, k, f, s)) (fun e => by have h9 := e.2.2.2.1; rw [show validN k = false from HV2.out] at h9; cases h9))
          go_wp2_with fail
          go_ret
          exact ⟨ret_bool HV.out.symm, HB.out⟩
        | true =>
          by_cases hf : 0 ≤ f ∧ f ≤ 100000
          · have HI := Lib.hid (fun wx => Num.implIn_true hf.1 hf.2 wx)
            have H_hf := Lib.hid hf
            clear hf
            go_wp2_with fail
            refine (HI.out _).mono ?_
            rintro e w' ⟨rfl, rfl⟩
            clear HI
            by_cases hs : 0 ≤ s ∧ s ≤ 2147483646
            · have HI := Lib.hid (fun wx => Num.implIn_true hs.1 hs.2 wx)
              have H_hs := Lib.hid hs
              clear hs
              go_wp2_with fail
              refine (HI.out _).mono ?_
              rintro e w' ⟨rfl, rfl⟩
              clear HI
              have HV := Lib.hid ((validD_iff (x := (l, m, k, f, s))).2 (show validN l = true ∧ 0 < l.length ∧ m.length ≤ 60 ∧ validN k = true ∧ (0 ≤ f ∧ f ≤ 100000) ∧ (0 ≤ s ∧ s ≤ 2147483646) from ⟨HV1.out, by rw [← HA.out]; exact hn, by rw [← HM.out]; exact hm, HV2.out, H_hf.out, H_hs.out⟩))
              go_wp2_with fail
              go_ret
              exact ⟨ret_bool HV.out.symm, HB.out⟩
            · have HI := Lib.hid (fun wx => Num.implIn_false hs wx)
              have HV := Lib.hid (validD_no (x := (l, m, k, f, s)) (fun e => hs e.2.2.2.2.2))
              clear hs
              go_wp2_with fail
              refine (HI.out _).mono ?_
              rintro e w' ⟨rfl, rfl⟩
              go_wp2_with fail
              go_ret
              exact ⟨ret_bool HV.out.symm, HB.out⟩
          · have HI := Lib.hid (fun wx => Num.implIn_false hf wx)
            have HV := Lib.hid (validD_no (x := (l, m, k, f, s)) (fun e => hf e.2.2.2.2.1))
            clear hf
            go_wp2_with fail
            refine (HI.out _).mono ?_
            rintro e w' ⟨rfl, rfl⟩
            go_wp2_with fail
            go_ret
            exact ⟨ret_bool HV.out.symm, HB.out⟩
      · have t3 : decide ((nb : Int) ≤ 60) = false := by simp; omega
        have HV := Lib.hid (validD_no (x := (l, m, k, f, s)) (fun e => hm (by rw [HM.out]; exact e.2.2.1)))
        go_wp2_with fail
        go_ret
        exact ⟨ret_bool HV.out.symm, HB.out⟩
    · have t2 : decide ((0 : Int) < (na : Int)) = false := by simp; omega
      have HV := Lib.hid (validD_no (x := (l, m, k, f, s)) (fun e => hn (by rw [HA.out]; exact e.2.1)))
      go_wp2_with fail
      go_ret
      exact ⟨ret_bool HV.out.symm, HB.out⟩

end Go.Proofs.Ytnblopilgfdjkaa.Row
/- EncodeData, model and program; the program's numbers. No conditions but that lengths fit. -/
namespace Go.Proofs.Ytnblopilgfdjkaa.Row
open Go.ChangeShapes Go.WideShapes Go.ChangeAt Go.RowKit Go.Instr
set_option linter.unusedVariables false
set_option maxRecDepth 100000

def encD (x : Dt) : List Int := if validD x = true then appName (appName [] x.1 ++ Var.var x.2.1.length ++ x.2.1) x.2.2.1 ++ Sl.encs [x.2.2.2.1, x.2.2.2.2] else []
end Go.Proofs.Ytnblopilgfdjkaa.Row
/- Contract of the program's EqualData. No conditions but that lengths fit. -/
namespace Go.Proofs.Ytnblopilgfdjkaa.Row
open Go.ChangeShapes Go.WideShapes Go.ChangeAt Go.RowKit Go.Instr
set_option linter.unusedVariables false
set_option maxRecDepth 100000

end Go.Proofs.Ytnblopilgfdjkaa.Row
/- Mathematics of DecodeData. No conditions but that lengths fit. -/
namespace Go.Proofs.Ytnblopilgfdjkaa.Row
open Go.ChangeShapes Go.WideShapes Go.ChangeAt Go.RowKit Go.Instr
set_option linter.unusedVariables false
set_option maxRecDepth 100000

def d0 : Dt := ([], [], [], 0, 0)
def rN1 (b : List Int) : List ByteArray × Int × Bool := rdN b 0
def rB1 (b : List Int) : List Int × Int × Bool := Sl.readB b (rN1 b).2.1 60
def rN2 (b : List Int) : List ByteArray × Int × Bool := rdN b (rB1 b).2.1
def rI1 (b : List Int) : List Int × Int × Bool := Sl.readIs b (rN2 b).2.1 2
/-- What DecodeData reads. -/
def gotD (b : List Int) : Dt := ((rN1 b).1, (rB1 b).1, (rN2 b).1, Sl.nth (rI1 b).1 0, Sl.nth (rI1 b).1 1)
def okD (b : List Int) : Prop := (rN1 b).2.2 = true ∧ (rB1 b).2.2 = true ∧ (rN2 b).2.2 = true ∧ (rI1 b).2.2 = true
noncomputable def dcD (b : List Int) : Dt × Bool := open Classical in if okD b ∧ (rI1 b).2.1 = b.length ∧ validD (gotD b) = true then (gotD b, true) else (d0, false)
theorem DOwn.nil (B : Nat) (w : World) : DOwn B w (.slice none 0 0) (.slice none 0 0) (.slice none 0 0) d0 := ⟨Own.nil _ _ _ _, Sl.Own.nil _ _ _ _, Own.nil _ _ _ _, fun g e => by (cases e), fun g e => by (cases e), fun g e => by (cases e)⟩
theorem DOwn.on {B : Nat} {w w' : World} {a b c : Value} {x : Dt} (h : DOwn B w a b c x) (hb : Below w.heap.size w w') : DOwn B w' a b c x := ⟨h.1.on hb, Sl.Own.on h.2.1 hb, h.2.2.1.on hb, h.2.2.2⟩
end Go.Proofs.Ytnblopilgfdjkaa.Row
/- Contract of the model's DecodeData. No conditions but that lengths fit. -/
namespace Go.Proofs.Ytnblopilgfdjkaa.Row
open Go.ChangeShapes Go.WideShapes Go.ChangeAt Go.RowKit Go.Instr
set_option linter.unusedVariables false
set_option maxRecDepth 100000

end Go.Proofs.Ytnblopilgfdjkaa.Row
/- Contract of the program's read and DecodeData. No conditions but that lengths fit. -/
namespace Go.Proofs.Ytnblopilgfdjkaa.Row
open Go.ChangeShapes Go.WideShapes Go.ChangeAt Go.RowKit Go.Instr
set_option linter.unusedVariables false
set_option maxRecDepth 100000

/-- What read leaves: the packet at block g, or nothing. -/
def ReadPost (w : World) (g : Nat) (b : List Int) (e : Ending) (w' : World) : Prop :=
  (okD b ∧ e = .returned (.tuple #[.int .i64 (rI1 b).2.1, .bool true]) ∧ w.grownBy w' (some g) ∧ ∃ a1 b1 c1, Ret.Blk w' g (dc a1 b1 c1 (gotD b).2.2.2.1 (gotD b).2.2.2.2) 40 ∧ DOwn w.heap.size w' a1 b1 c1 (gotD b)) ∨
  (¬ okD b ∧ e = .returned (.tuple #[.int .i64 0, .bool false]) ∧ Below w.heap.size w w')
end Go.Proofs.Ytnblopilgfdjkaa.Row
/- Chapter 8's functions, the model's and the program's, in the words of kinds. No conditions but that lengths fit. -/
namespace Go.Proofs.Ytnblopilgfdjkaa.Row
open Go.ChangeShapes Go.WideShapes Go.ChangeAt Go.RowKit Go.Instr
set_option linter.unusedVariables false
set_option maxRecDepth 100000

def eqD (x y : Dt) : Bool := decide (x = y)
theorem sgD_adv (t : Int) (x : Dt) : advD (sgD t x) = advD x := rfl
theorem WfD.byt {x : Dt} (h : WfD x) : Sl.Byt x.2.1 := Sl.byt_of_wf h.2.1
section
variable {P : Program} {f : FuncId} {args : Array Value} {w : World}
theorem giveI {l : List Int} (h : Calls P f args w (Sl.GivesI w l)) : Calls P f args w fun e w' => ∃ U, e = .returned U ∧ kI.In w.heap.size w'.heap.size w' U l ∧ Below w.heap.size w w' := h.mono fun e w' ⟨v, a, b, c⟩ => ⟨v, a, kI_own b, c⟩
theorem giveDB {x : Dt} {z : Bool} (h : Calls P f args w (GivesDB w x z)) : Calls P f args w fun e w' => ∃ U, e = .returned (.tuple #[U, .bool z]) ∧ kD.In w.heap.size w'.heap.size w' U x ∧ Below w.heap.size w w' := h.mono fun e w' ⟨a, b, c, p, q, r⟩ => ⟨_, p, kD_own q, r⟩
end
theorem specVerifyDataK (V : Value) (t : Int) (x : Dt) (w : World) (h : kD.At w V x) (hn : WfD x) (hl : bulkD x ≤ 1200000) :
    Calls Try.prog 65 #[.int .i64 t, V] w fun e w' => e = .returned (.bool (verD t x)) ∧ Below w.heap.size w w' := by
  obtain ⟨a, b, c, rfl, h9⟩ := kD_at h
  exact specVerifyData a b c x t w h9 hn.byt (smD_of hl)
theorem implVerifyDataK (V : Value) (t : Int) (x : Dt) (w : World) (h : kD.At w V x) (hn : WfD x) (hl : bulkD x ≤ 1200000) :
    Calls Try.prog 66 #[.int .i64 t, V] w fun e w' => e = .returned (.bool (verD t x)) ∧ Below w.heap.size w w' := by
  obtain ⟨a, b, c, rfl, h9⟩ := kD_at h
  exact implVerifyData a b c x t w h9 hn.byt (smD_of hl)
end Go.Proofs.Ytnblopilgfdjkaa.Row
/- Contracts of VerifySignature and MatchingKeys, the program's and the model's. No conditions but that lengths fit. -/
namespace Go.Proofs.Ytnblopilgfdjkaa.Row.Ring
open Go.ChangeShapes Go.WideShapes Go.ChangeAt Go.RowKit Go.Instr
set_option linter.unusedVariables false
set_option maxRecDepth 100000

/-- A packet's cells, with its parts' slices. -/
theorem kD_cells {w : World} {xa xb xc : Option Addr} {na ca nb cb nc cc : Nat} {f0 s0 : Int} {x : Dt} (h : kD.At w (.agg #[.slice xa na ca, .slice xb nb cb, .slice xc nc cc, .int .i64 f0, .int .i64 s0]) x) : DHold w (.slice xa na ca) (.slice xb nb cb) (.slice xc nc cc) x ∧ f0 = x.2.2.2.1 ∧ s0 = x.2.2.2.2 := by
  obtain ⟨a, b, c, e, hd⟩ := kD_at h
  simp only [Value.agg.injEq] at e
  have e2 := congrArg Array.toList e
  simp only [List.cons.injEq, Value.int.injEq, true_and, and_true] at e2
  obtain ⟨rfl, rfl, rfl, rfl, rfl⟩ := e2
  exact ⟨hd, rfl, rfl⟩
/-- The places of the keys that verify, up to place k. -/
def matTo (T : List (List ByteArray × Int)) (x : Dt) (k : Nat) : List Int := ((List.range k).filter (fun i => verD (nth T i).2 x)).map (fun i : Nat => (i : Int))
def matK (T : List (List ByteArray × Int)) (x : Dt) : List Int := matTo T x T.length
theorem matTo_yes {T : List (List ByteArray × Int)} {x : Dt} {k : Nat} (h : verD (nth T k).2 x = true) : matTo T x (k + 1) = matTo T x k ++ [(k : Int)] := by
  unfold matTo
  rw [List.range_succ, List.filter_append, List.map_append]
  simp [h]
theorem matTo_no {T : List (List ByteArray × Int)} {x : Dt} {k : Nat} (h : verD (nth T k).2 x = false) : matTo T x (k + 1) = matTo T x k := by
  unfold matTo
  rw [List.range_succ, List.filter_append, List.map_append]
  simp [h]
theorem matTo_le (T : List (List ByteArray × Int)) (x : Dt) (k : Nat) : (matTo T x k).length ≤ k := by
  unfold matTo
  rw [List.length_map]
  have := List.length_filter_le (fun i => verD (nth T i).2 x) (List.range k)
  rwa [List.length_range] at this

set_option maxHeartbeats 4000000 in
theorem specVerifySignature (v V : Value) (T : List (List ByteArray × Int)) (x : Dt) (w : World) (h : TabHolds w v T) (g : kD.At w V x) (gn : WfD x) (hl : T.length ≤ 4000000) (hT : smT T) (hx : bulkD x ≤ 1200000) :
    Calls Try.prog 31 #[v, V] w fun e w' => e = .returned (.bool (verD (lkN T x.2.2.1) x)) ∧ Below w.heap.size w w' := by
  obtain ⟨y, n, cy, rfl, -, -, hh⟩ := h.shapeN
  obtain ⟨xa, na, ca, xb, nb, cb, xc, nc, cc, rfl, hg⟩ := kD_shapeA g
  obtain ⟨l, m, k, f, s⟩ := x
  simp only at hg ⊢
  have hb0 := ((Below.refl w.heap.size w).alloc (Nat.le_refl _) (.cells #[.slice xa na ca, .slice xb nb cb, .slice xc nc cc, .int .i64 f, .int .i64 s] 40)).drew
  have HB := Lib.hid hb0; have HH := Lib.hid (hh.on hb0); have HG := Lib.hid (hg.on hb0)
  have HK := Lib.hid ((kD_cells hg).1.2.2.on hb0)
  have HX := Lib.hid (Ret.Blk.new w #[.slice xa na ca, .slice xb nb cb, .slice xc nc cc, .int .i64 f, .int .i64 s] 40)
  have HL := Lib.hid hl; have HT := Lib.hid hT; have HN := Lib.hid gn; have HZ := Lib.hid hx
  have HKB := Lib.hid (show bulk k ≤ 9000000 by unfold bulkD at hx; simp only at hx; omega)
  obtain ⟨r, hr⟩ : ∃ r, lkN T k = r := ⟨_, rfl⟩
  obtain ⟨z, hz⟩ : ∃ z, verD r (l, m, k, f, s) = z := ⟨_, rfl⟩
  have HRR := Lib.hid hr; have HZZ := Lib.hid hz
  have KS0 := Lib.hid (show (w.alloc (.cells #[.slice xa na ca, .slice xb nb cb, .slice xc nc cc, .int .i64 f, .int .i64 s] 40)).drew.cell? ⟨w.heap.size, 0, none⟩ = some (.slice xa na ca) ∧ (w.alloc (.cells #[.slice xa na ca, .slice xb nb cb, .slice xc nc cc, .int .i64 f, .int .i64 s] 40)).drew.cell? ⟨w.heap.size, 1, none⟩ = some (.slice xb nb cb) ∧ (w.alloc (.cells #[.slice xa na ca, .slice xb nb cb, .slice xc nc cc, .int .i64 f, .int .i64 s] 40)).drew.cell? ⟨w.heap.size, 2, none⟩ = some (.slice xc nc cc) ∧ (w.alloc (.cells #[.slice xa na ca, .slice xb nb cb, .slice xc nc cc, .int .i64 f, .int .i64 s] 40)).drew.cell? ⟨w.heap.size, 3, none⟩ = some (.int .i64 f) ∧ (w.alloc (.cells #[.slice xa na ca, .slice xb nb cb, .slice xc nc cc, .int .i64 f, .int .i64 s] 40)).drew.cell? ⟨w.heap.size, 4, none⟩ = some (.int .i64 s) ∧ Below w.heap.size w (w.alloc (.cells #[.slice xa na ca, .slice xb nb cb, .slice xc nc cc, .int .i64 f, .int .i64 s] 40)).drew from ⟨HX.out.cell 0, HX.out.cell 1, HX.out.cell 2, HX.out.cell 3, HX.out.cell 4, HB.out⟩)
  rw [hr, hz]
  clear hb0 hh hg h g gn hl hT hx hr hz
  go_enter Try.func31, Try.ntmps31
  go_wp2_with fail
  go_region_held3 (fun w' => w'.cell? ⟨w.heap.size, 0, none⟩ = some (.slice xa na ca) ∧ w'.cell? ⟨w.heap.size, 1, none⟩ = some (.slice xb nb cb) ∧ w'.cell? ⟨w.heap.size, 2, none⟩ = some (.slice xc nc cc) ∧ w'.cell? ⟨w.heap.size, 3, none⟩ = some (.int .i64 f) ∧ w'.cell? ⟨w.heap.size, 4, none⟩ = some (.int .i64 s) ∧ Below w.heap.size w w') (first | exact KS0.out | exact KS1.out | exact KS2.out) (first | (go_at_call 65; refine (specVerifyDataK _ r (l, m, k, f, s) _ (HG.out.on hb1) HN.out HZ.out).mono ?_; rintro e w2 ⟨rfl, hb2⟩; rw [HZZ.out]; have KS2 := Lib.hid (show w2.cell? ⟨w.heap.size, 0, none⟩ = some (.slice xa na ca) ∧ w2.cell? ⟨w.heap.size, 1, none⟩ = some (.slice xb nb cb) ∧ w2.cell? ⟨w.heap.size, 2, none⟩ = some (.slice xc nc cc) ∧ w2.cell? ⟨w.heap.size, 3, none⟩ = some (.int .i64 f) ∧ w2.cell? ⟨w.heap.size, 4, none⟩ = some (.int .i64 s) ∧ Below w.heap.size w w2 from ⟨kc KS1.out.1 hb2, kc KS1.out.2.1 hb2, kc KS1.out.2.2.1 hb2, kc KS1.out.2.2.2.1 hb2, kc KS1.out.2.2.2.2.1 hb2, KS1.out.2.2.2.2.2.trans (hb2.mono KS1.out.2.2.2.2.2.size)⟩)) | (go_at_call 16; refine (specSecretOf _ _ T k _ HH.out HK.out HL.out HT.out HKB.out).mono ?_; rintro e w1 ⟨rfl, hb1⟩; rw [HRR.out]; have KS1 := Lib.hid (show w1.cell? ⟨w.heap.size, 0, none⟩ = some (.slice xa na ca) ∧ w1.cell? ⟨w.heap.size, 1, none⟩ = some (.slice xb nb cb) ∧ w1.cell? ⟨w.heap.size, 2, none⟩ = some (.slice xc nc cc) ∧ w1.cell? ⟨w.heap.size, 3, none⟩ = some (.int .i64 f) ∧ w1.cell? ⟨w.heap.size, 4, none⟩ = some (.int .i64 s) ∧ Below w.heap.size w w1 from ⟨kc KS0.out.1 hb1, kc KS0.out.2.1 hb1, kc KS0.out.2.2.1 hb1, kc KS0.out.2.2.2.1 hb1, kc KS0.out.2.2.2.2.1 hb1, KS0.out.2.2.2.2.2.trans (hb1.mono KS0.out.2.2.2.2.2.size)⟩)))
  all_goals
    go_wp2_with fail
    go_ret
    exact ⟨rfl, KS2.out.2.2.2.2.2⟩

set_option maxHeartbeats 4000000 in
theorem implVerifySignature (v V : Value) (T : List (List ByteArray × Int)) (x : Dt) (w : World) (h : TabHolds w v T) (g : kD.At w V x) (gn : WfD x) (hl : T.length ≤ 4000000) (hT : smT T) (hx : bulkD x ≤ 1200000) :
    Calls Try.prog 33 #[v, V] w fun e w' => e = .returned (.bool (verD (lkN T x.2.2.1) x)) ∧ Below w.heap.size w w' := by
  obtain ⟨y, n, cy, rfl, -, -, hh⟩ := h.shapeN
  obtain ⟨xa, na, ca, xb, nb, cb, xc, nc, cc, rfl, hg⟩ := kD_shapeA g
  obtain ⟨l, m, k, f, s⟩ := x
  simp only at hg ⊢
  have hb0 := ((Below.refl w.heap.size w).alloc (Nat.le_refl _) (.cells #[.slice xa na ca, .slice xb nb cb, .slice xc nc cc, .int .i64 f, .int .i64 s] 40)).drew
  have HB := Lib.hid hb0; have HH := Lib.hid (hh.on hb0); have HG := Lib.hid (hg.on hb0)
  have HK := Lib.hid ((kD_cells hg).1.2.2.on hb0)
  have HX := Lib.hid (Ret.Blk.new w #[.slice xa na ca, .slice xb nb cb, .slice xc nc cc, .int .i64 f, .int .i64 s] 40)
  have HL := Lib.hid hl; have HT := Lib.hid hT; have HN := Lib.hid gn; have HZ := Lib.hid hx
  have HKB := Lib.hid (show bulk k ≤ 9000000 by unfold bulkD at hx; simp only at hx; omega)
  obtain ⟨r, hr⟩ : ∃ r, lkN T k = r := ⟨_, rfl⟩
  obtain ⟨z, hz⟩ : ∃ z, verD r (l, m, k, f, s) = z := ⟨_, rfl⟩
  have HRR := Lib.hid hr; have HZZ := Lib.hid hz
  have KS0 := Lib.hid (show (w.alloc (.cells #[.slice xa na ca, .slice xb nb cb, .slice xc nc cc, .int .i64 f, .int .i64 s] 40)).drew.cell? ⟨w.heap.size, 0, none⟩ = some (.slice xa na ca) ∧ (w.alloc (.cells #[.slice xa na ca, .slice xb nb cb, .slice xc nc cc, .int .i64 f, .int .i64 s] 40)).drew.cell? ⟨w.heap.size, 1, none⟩ = some (.slice xb nb cb) ∧ (w.alloc (.cells #[.slice xa na ca, .slice xb nb cb, .slice xc nc cc, .int .i64 f, .int .i64 s] 40)).drew.cell? ⟨w.heap.size, 2, none⟩ = some (.slice xc nc cc) ∧ (w.alloc (.cells #[.slice xa na ca, .slice xb nb cb, .slice xc nc cc, .int .i64 f, .int .i64 s] 40)).drew.cell? ⟨w.heap.size, 3, none⟩ = some (.int .i64 f) ∧ (w.alloc (.cells #[.slice xa na ca, .slice xb nb cb, .slice xc nc cc, .int .i64 f, .int .i64 s] 40)).drew.cell? ⟨w.heap.size, 4, none⟩ = some (.int .i64 s) ∧ Below w.heap.size w (w.alloc (.cells #[.slice xa na ca, .slice xb nb cb, .slice xc nc cc, .int .i64 f, .int .i64 s] 40)).drew from ⟨HX.out.cell 0, HX.out.cell 1, HX.out.cell 2, HX.out.cell 3, HX.out.cell 4, HB.out⟩)
  rw [hr, hz]
  clear hb0 hh hg h g gn hl hT hx hr hz
  go_enter Try.func33, Try.ntmps33
  go_wp2_with fail
  go_region_held3 (fun w' => w'.cell? ⟨w.heap.size, 0, none⟩ = some (.slice xa na ca) ∧ w'.cell? ⟨w.heap.size, 1, none⟩ = some (.slice xb nb cb) ∧ w'.cell? ⟨w.heap.size, 2, none⟩ = some (.slice xc nc cc) ∧ w'.cell? ⟨w.heap.size, 3, none⟩ = some (.int .i64 f) ∧ w'.cell? ⟨w.heap.size, 4, none⟩ = some (.int .i64 s) ∧ Below w.heap.size w w') (first | exact KS0.out | exact KS1.out | exact KS2.out) (first | (go_at_call 66; refine (implVerifyDataK _ r (l, m, k, f, s) _ (HG.out.on hb1) HN.out HZ.out).mono ?_; rintro e w2 ⟨rfl, hb2⟩; rw [HZZ.out]; have KS2 := Lib.hid (show w2.cell? ⟨w.heap.size, 0, none⟩ = some (.slice xa na ca) ∧ w2.cell? ⟨w.heap.size, 1, none⟩ = some (.slice xb nb cb) ∧ w2.cell? ⟨w.heap.size, 2, none⟩ = some (.slice xc nc cc) ∧ w2.cell? ⟨w.heap.size, 3, none⟩ = some (.int .i64 f) ∧ w2.cell? ⟨w.heap.size, 4, none⟩ = some (.int .i64 s) ∧ Below w.heap.size w w2 from ⟨kc KS1.out.1 hb2, kc KS1.out.2.1 hb2, kc KS1.out.2.2.1 hb2, kc KS1.out.2.2.2.1 hb2, kc KS1.out.2.2.2.2.1 hb2, KS1.out.2.2.2.2.2.trans (hb2.mono KS1.out.2.2.2.2.2.size)⟩)) | (go_at_call 18; refine (implSecretOf _ _ T k _ HH.out HK.out HL.out HT.out HKB.out).mono ?_; rintro e w1 ⟨rfl, hb1⟩; rw [HRR.out]; have KS1 := Lib.hid (show w1.cell? ⟨w.heap.size, 0, none⟩ = some (.slice xa na ca) ∧ w1.cell? ⟨w.heap.size, 1, none⟩ = some (.slice xb nb cb) ∧ w1.cell? ⟨w.heap.size, 2, none⟩ = some (.slice xc nc cc) ∧ w1.cell? ⟨w.heap.size, 3, none⟩ = some (.int .i64 f) ∧ w1.cell? ⟨w.heap.size, 4, none⟩ = some (.int .i64 s) ∧ Below w.heap.size w w1 from ⟨kc KS0.out.1 hb1, kc KS0.out.2.1 hb1, kc KS0.out.2.2.1 hb1, kc KS0.out.2.2.2.1 hb1, kc KS0.out.2.2.2.2.1 hb1, KS0.out.2.2.2.2.2.trans (hb1.mono KS0.out.2.2.2.2.2.size)⟩)))
  all_goals
    go_wp2_with fail
    go_ret
    exact ⟨rfl, KS2.out.2.2.2.2.2⟩

set_option maxHeartbeats 8000000 in
theorem specMatchingKeys (v V : Value) (T : List (List ByteArray × Int)) (x : Dt) (w : World) (h : TabHolds w v T) (g : kD.At w V x) (gn : WfD x) (hl : T.length ≤ 4000000) (hT : smT T) (hx : bulkD x ≤ 1200000) :
    Calls Try.prog 34 #[v, V] w (Sl.GivesI w (matK T x)) := by
  obtain ⟨L, rfl, h⟩ := h
  obtain ⟨y, n, cy, rfl, hn, -, hh⟩ := h.shapeN
  obtain ⟨xa, na, ca, xb, nb, cb, xc, nc, cc, rfl, hg⟩ := kD_shapeA g
  obtain ⟨l, m, k, f, s⟩ := x
  simp only at hg ⊢
  rw [strip_length, ← hn] at hl
  have hb0 := (Below.refl w.heap.size w).alloc (Nat.le_refl _) (.cells #[.slice xa na ca, .slice xb nb cb, .slice xc nc cc, .int .i64 f, .int .i64 s] 40)
  have hb1 := hb0.alloc (by simp) (.cells #[] 3)
  have HB0 := Lib.hid hb1; have HH := Lib.hid hh; have HG := Lib.hid hg
  have HX0 := Lib.hid ((Ret.Blk.new w #[.slice xa na ca, .slice xb nb cb, .slice xc nc cc, .int .i64 f, .int .i64 s] 40).on ((Below.refl _ _).alloc (Nat.le_refl _) (.cells #[] 3)))
  have hoe := Sl.own_empty .i64 3 (w.alloc (.cells #[.slice xa na ca, .slice xb nb cb, .slice xc nc cc, .int .i64 f, .int .i64 s] 40))
  rw [World.size_alloc] at hoe
  have HO0 := Lib.hid (show Sl.Own 3 .i64 (w.heap.size + 1) ((w.alloc (.cells #[.slice xa na ca, .slice xb nb cb, .slice xc nc cc, .int .i64 f, .int .i64 s] 40)).alloc (.cells #[] 3)) (.slice (some ⟨w.heap.size + 1, 0, none⟩) 0 0) (matTo (strip L) (l, m, k, f, s) 0) from hoe)
  have HL := Lib.hid hl; have HT := Lib.hid hT; have HN := Lib.hid gn; have HZ := Lib.hid hx; have HLN := Lib.hid hn
  clear hb0 hb1 hh hg h g gn hT hx hn hoe
  go_enter Try.func34, Try.ntmps34
  go_wp2_with fail
  go_loopw [5, 6] (fun ov i wr => ∃ j : Nat, j ≤ n ∧ i = .int .i64 j ∧ Hid (Sl.Own 3 .i64 (w.heap.size + 1) wr ov (matTo (strip L) (l, m, k, f, s) j)) ∧ Hid (Below w.heap.size w wr) ∧ Hid (Ret.Blk wr w.heap.size #[.slice xa na ca, .slice xb nb cb, .slice xc nc cc, .int .i64 f, .int .i64 s] 40)) (fun _ i _ => n - (intOf i).toNat)
  case atStart => exact ⟨0, Nat.zero_le _, rfl, HO0, HB0, HX0⟩
  case round =>
    obtain ⟨j, hj, rfl, hO, hB, hX⟩ := hrel
    obtain ⟨xo, co, rfl, -, -⟩ := hO.out.holds.shape
    obtain ⟨no, hno⟩ : ∃ z, z = (matTo (strip L) (l, m, k, f, s) j).length := ⟨_, rfl⟩
    rw [← hno] at hO ⊢
    have HNO := Lib.hid hno
    clear hno
    by_cases hlt : j < n
    · have HJL := Lib.hid (show j < L.length by have := HLN.out; omega)
      obtain ⟨b, off, rfl, hc, hd, -⟩ := (HH.out.on hB.out).at HJL.out
      have HE := Lib.hid (strip_nth HJL.out)
      obtain ⟨z, hz⟩ : ∃ z, verD (nth L j).val (l, m, k, f, s) = z := ⟨_, rfl⟩
      have HZZ := Lib.hid hz
      have hj0 : (0 : Int) ≤ (j : Int) := by omega
      have hj1 : (j : Int) < (n : Int) := by omega
      clear hz hc
      have hdr : Below wr.heap.size wr wr.drew := (Below.refl _ _).drew
      have HGr := Lib.hid ((HG.out.on hB.out).on hdr)
      have HOr := Lib.hid (hO.out.on hdr); have HXr := Lib.hid (hX.out.on hdr)
      have HSr := Lib.hid (show w.heap.size + 1 ≤ wr.drew.heap.size from hX.out.lt)
      have KS0 := Lib.hid (show wr.drew.cell? ⟨b, off + j * 2 + 1, none⟩ = some (.int .i64 (nth L j).val) ∧ wr.drew.cell? ⟨w.heap.size, 0, none⟩ = some (.slice xa na ca) ∧ wr.drew.cell? ⟨w.heap.size, 1, none⟩ = some (.slice xb nb cb) ∧ wr.drew.cell? ⟨w.heap.size, 2, none⟩ = some (.slice xc nc cc) ∧ wr.drew.cell? ⟨w.heap.size, 3, none⟩ = some (.int .i64 f) ∧ wr.drew.cell? ⟨w.heap.size, 4, none⟩ = some (.int .i64 s) ∧ Below w.heap.size w wr.drew from ⟨hd, hX.out.cell 0, hX.out.cell 1, hX.out.cell 2, hX.out.cell 3, hX.out.cell 4, hB.out.drew⟩)
      clear hdr hd
      go_wp2_with fail
      go_region_held3 (fun w' => w'.cell? ⟨b, off + j * 2 + 1, none⟩ = some (.int .i64 (nth L j).val) ∧ w'.cell? ⟨w.heap.size, 0, none⟩ = some (.slice xa na ca) ∧ w'.cell? ⟨w.heap.size, 1, none⟩ = some (.slice xb nb cb) ∧ w'.cell? ⟨w.heap.size, 2, none⟩ = some (.slice xc nc cc) ∧ w'.cell? ⟨w.heap.size, 3, none⟩ = some (.int .i64 f) ∧ w'.cell? ⟨w.heap.size, 4, none⟩ = some (.int .i64 s) ∧ Below w.heap.size w w') (first | exact KS0.out | exact KS1.out) ((go_at_call 65; refine (specVerifyDataK _ (nth L j).val (l, m, k, f, s) _ HGr.out HN.out HZ.out).mono ?_; rintro e wz ⟨rfl, hb1⟩; rw [HZZ.out]; have KS1 := Lib.hid (show wz.cell? ⟨b, off + j * 2 + 1, none⟩ = some (.int .i64 (nth L j).val) ∧ wz.cell? ⟨w.heap.size, 0, none⟩ = some (.slice xa na ca) ∧ wz.cell? ⟨w.heap.size, 1, none⟩ = some (.slice xb nb cb) ∧ wz.cell? ⟨w.heap.size, 2, none⟩ = some (.slice xc nc cc) ∧ wz.cell? ⟨w.heap.size, 3, none⟩ = some (.int .i64 f) ∧ wz.cell? ⟨w.heap.size, 4, none⟩ = some (.int .i64 s) ∧ Below w.heap.size w wz from ⟨kc KS0.out.1 hb1, kc KS0.out.2.1 hb1, kc KS0.out.2.2.1 hb1, kc KS0.out.2.2.2.1 hb1, kc KS0.out.2.2.2.2.1 hb1, kc KS0.out.2.2.2.2.2.1 hb1, KS0.out.2.2.2.2.2.2.trans (hb1.mono KS0.out.2.2.2.2.2.2.size)⟩)))
      have HO2 := Lib.hid (HOr.out.on hb1); have HX2 := Lib.hid (HXr.out.on hb1)
      have HB2 := Lib.hid KS1.out.2.2.2.2.2.2
      have HS2 := Lib.hid (show w.heap.size + 1 ≤ wz.heap.size by have := hb1.size; have := HSr.out; omega)
      clear hb1 KS0 KS1 HOr HXr
      cases z with
      | true =>
        have HM := Lib.hid (matTo_yes (T := strip L) (x := (l, m, k, f, s)) (k := j) (by rw [HE.out]; exact HZZ.out))
        go_wp2_with (at_builtin; refine Sl.wpList_app (k := .i64) (B := w.heap.size + 1) (l := matTo (strip L) (l, m, k, f, s) j) (m := [(j : Int)]) rfl _ _ rfl Try.underlying57 Sl.elemINT rfl rfl rfl (HO2.out.on ((Below.refl _ _).alloc (Nat.le_refl _) _)) (Sl.holds_one .i64 _ _ _) ?_ (by decide) ?_ ?_)
        · have := matTo_le (strip L) (l, m, k, f, s) j; simp; omega
        · have := HB2.out.size; have := HS2.out; simp; omega
        intro v4 w4 ho4 hg4
        have hal := (Below.refl wz.heap.size wz).alloc (Nat.le_refl _) (.cells #[.int .i64 (j : Int)] 3)
        have HO4 := Lib.hid (show Sl.Own 3 .i64 (w.heap.size + 1) w4 v4 (matTo (strip L) (l, m, k, f, s) (j + 1)) by rw [HM.out]; exact ho4)
        have HB4 := Lib.hid (((HB2.out.trans (hal.mono HB2.out.size))).grown hg4 (by have := HB2.out.size; simp; omega) (fun g hg => Nat.le_trans (Nat.le_succ _) (HO2.out.lt g hg).1))
        have HX4 := Lib.hid ((HX2.out.on hal).grown hg4 (fun e => by have := (HO2.out.lt _ e.symm).1; omega))
        clear ho4 hg4 hal
        go_wp2_with fail
        go_roundw
        case rel => exact ⟨j + 1, by omega, by go_num, HO4, HB4, HX4⟩
        case measure => simp [intOf]; omega
      | false =>
        have HM := Lib.hid (matTo_no (T := strip L) (x := (l, m, k, f, s)) (k := j) (by rw [HE.out]; exact HZZ.out))
        have HO4 := Lib.hid (show Sl.Own 3 .i64 (w.heap.size + 1) wz (.slice xo no co) (matTo (strip L) (l, m, k, f, s) (j + 1)) by rw [HM.out]; exact HO2.out)
        go_wp2_with fail
        go_roundw
        case rel => exact ⟨j + 1, by omega, by go_num, HO4, HB2, HX2⟩
        case measure => simp [intOf]; omega
    · obtain rfl : j = n := by omega
      have HV := Lib.hid (show matTo (strip L) (l, m, k, f, s) j = matK (strip L) (l, m, k, f, s) by unfold matK; rw [strip_length, ← HLN.out])
      clear hlt
      go_wp2_with fail
      go_ret
      exact ⟨_, rfl, by rw [← HV.out]; exact hO.out.mono (Nat.le_succ _), hB.out⟩

set_option maxHeartbeats 8000000 in
theorem implMatchingKeys (v V : Value) (T : List (List ByteArray × Int)) (x : Dt) (w : World) (h : TabHolds w v T) (g : kD.At w V x) (gn : WfD x) (hl : T.length ≤ 4000000) (hT : smT T) (hx : bulkD x ≤ 1200000) :
    Calls Try.prog 35 #[v, V] w (Sl.GivesI w (matK T x)) := by
  obtain ⟨L, rfl, h⟩ := h
  obtain ⟨y, n, cy, rfl, hn, -, hh⟩ := h.shapeN
  obtain ⟨xa, na, ca, xb, nb, cb, xc, nc, cc, rfl, hg⟩ := kD_shapeA g
  obtain ⟨l, m, k, f, s⟩ := x
  simp only at hg ⊢
  rw [strip_length, ← hn] at hl
  have hb0 := (Below.refl w.heap.size w).alloc (Nat.le_refl _) (.cells #[.slice xa na ca, .slice xb nb cb, .slice xc nc cc, .int .i64 f, .int .i64 s] 40)
  have hb1 := hb0.alloc (by simp) (.cells #[] 3)
  have HB0 := Lib.hid hb1; have HH := Lib.hid hh; have HG := Lib.hid hg
  have HX0 := Lib.hid ((Ret.Blk.new w #[.slice xa na ca, .slice xb nb cb, .slice xc nc cc, .int .i64 f, .int .i64 s] 40).on ((Below.refl _ _).alloc (Nat.le_refl _) (.cells #[] 3)))
  have hoe := Sl.own_empty .i64 3 (w.alloc (.cells #[.slice xa na ca, .slice xb nb cb, .slice xc nc cc, .int .i64 f, .int .i64 s] 40))
  rw [World.size_alloc] at hoe
  have HO0 := Lib.hid (show Sl.Own 3 .i64 (w.heap.size + 1) ((w.alloc (.cells #[.slice xa na ca, .slice xb nb cb, .slice xc nc cc, .int .i64 f, .int .i64 s] 40)).alloc (.cells #[] 3)) (.slice (some ⟨w.heap.size + 1, 0, none⟩) 0 0) (matTo (strip L) (l, m, k, f, s) 0) from hoe)
  have HL := Lib.hid hl; have HT := Lib.hid hT; have HN := Lib.hid gn; have HZ := Lib.hid hx; have HLN := Lib.hid hn
  clear hb0 hb1 hh hg h g gn hT hx hn hoe
  go_enter Try.func35, Try.ntmps35
  go_wp2_with fail
  go_loopw [5, 11] (fun ov i wr => ∃ j : Nat, j ≤ n ∧ i = .int .i64 j ∧ Hid (Sl.Own 3 .i64 (w.heap.size + 1) wr ov (matTo (strip L) (l, m, k, f, s) j)) ∧ Hid (Below w.heap.size w wr) ∧ Hid (Ret.Blk wr w.heap.size #[.slice xa na ca, .slice xb nb cb, .slice xc nc cc, .int .i64 f, .int .i64 s] 40)) (fun _ i _ => n - (intOf i).toNat)
  case atStart => exact ⟨0, Nat.zero_le _, rfl, HO0, HB0, HX0⟩
  case round =>
    obtain ⟨j, hj, rfl, hO, hB, hX⟩ := hrel
    obtain ⟨xo, co, rfl, -, -⟩ := hO.out.holds.shape
    obtain ⟨no, hno⟩ : ∃ z, z = (matTo (strip L) (l, m, k, f, s) j).length := ⟨_, rfl⟩
    rw [← hno] at hO ⊢
    have HNO := Lib.hid hno
    clear hno
    by_cases hlt : j < n
    · have HJL := Lib.hid (show j < L.length by have := HLN.out; omega)
      obtain ⟨b, off, rfl, hc, hd, -⟩ := (HH.out.on hB.out).at HJL.out
      have HE := Lib.hid (strip_nth HJL.out)
      obtain ⟨z, hz⟩ : ∃ z, verD (nth L j).val (l, m, k, f, s) = z := ⟨_, rfl⟩
      have HZZ := Lib.hid hz
      have hj0 : (0 : Int) ≤ (j : Int) := by omega
      have hj1 : (j : Int) < (n : Int) := by omega
      clear hz
      have hal := (Below.refl wr.heap.size wr).alloc (Nat.le_refl _) (.cells #[.slice (nth L j).ad (nth L j).n (nth L j).cap, .int .i64 (nth L j).val] 67)
      have HGr := Lib.hid ((HG.out.on hB.out).on hal)
      have HOr := Lib.hid (hO.out.on hal); have HXr := Lib.hid (hX.out.on hal)
      have HBr := Lib.hid (hB.out.trans (hal.mono hB.out.size))
      have q0 := HXr.out.cell 0; have q1 := HXr.out.cell 1; have q2 := HXr.out.cell 2; have q3 := HXr.out.cell 3; have q4 := HXr.out.cell 4
      have q0 : (wr.alloc (.cells #[.slice (nth L j).ad (nth L j).n (nth L j).cap, .int .i64 (nth L j).val] 67)).cell? ⟨w.heap.size, 0, none⟩ = some (.slice xa na ca) := q0
      have q1 : (wr.alloc (.cells #[.slice (nth L j).ad (nth L j).n (nth L j).cap, .int .i64 (nth L j).val] 67)).cell? ⟨w.heap.size, 1, none⟩ = some (.slice xb nb cb) := q1
      have q2 : (wr.alloc (.cells #[.slice (nth L j).ad (nth L j).n (nth L j).cap, .int .i64 (nth L j).val] 67)).cell? ⟨w.heap.size, 2, none⟩ = some (.slice xc nc cc) := q2
      have q3 : (wr.alloc (.cells #[.slice (nth L j).ad (nth L j).n (nth L j).cap, .int .i64 (nth L j).val] 67)).cell? ⟨w.heap.size, 3, none⟩ = some (.int .i64 f) := q3
      have q4 : (wr.alloc (.cells #[.slice (nth L j).ad (nth L j).n (nth L j).cap, .int .i64 (nth L j).val] 67)).cell? ⟨w.heap.size, 4, none⟩ = some (.int .i64 s) := q4
      clear hal
      go_wp2_with fail
      refine (implVerifyDataK _ (nth L j).val (l, m, k, f, s) _ HGr.out HN.out HZ.out).mono ?_
      rintro e wz ⟨rfl, hb1⟩
      rw [HZZ.out]
      have HO2 := Lib.hid (HOr.out.on hb1); have HX2 := Lib.hid (HXr.out.on hb1)
      have HB2 := Lib.hid (HBr.out.trans (hb1.mono HBr.out.size))
      have HS2 := Lib.hid (show w.heap.size + 1 ≤ wz.heap.size from HX2.out.lt)
      clear hb1 HOr HXr HBr q0 q1 q2 q3 q4 hc hd
      cases z with
      | true =>
        have HM := Lib.hid (matTo_yes (T := strip L) (x := (l, m, k, f, s)) (k := j) (by rw [HE.out]; exact HZZ.out))
        go_wp2_with (at_builtin; refine Sl.wpList_app (k := .i64) (B := w.heap.size + 1) (l := matTo (strip L) (l, m, k, f, s) j) (m := [(j : Int)]) rfl _ _ rfl Try.underlying57 Sl.elemINT rfl rfl rfl (HO2.out.on ((Below.refl _ _).alloc (Nat.le_refl _) _)) (Sl.holds_one .i64 _ _ _) ?_ (by decide) ?_ ?_)
        · have := matTo_le (strip L) (l, m, k, f, s) j; simp; omega
        · have := HB2.out.size; have := HS2.out; simp; omega
        intro v4 w4 ho4 hg4
        have hal := (Below.refl wz.heap.size wz).alloc (Nat.le_refl _) (.cells #[.int .i64 (j : Int)] 3)
        have HO4 := Lib.hid (show Sl.Own 3 .i64 (w.heap.size + 1) w4 v4 (matTo (strip L) (l, m, k, f, s) (j + 1)) by rw [HM.out]; exact ho4)
        have HB4 := Lib.hid (((HB2.out.trans (hal.mono HB2.out.size))).grown hg4 (by have := HB2.out.size; simp; omega) (fun g hg => Nat.le_trans (Nat.le_succ _) (HO2.out.lt g hg).1))
        have HX4 := Lib.hid ((HX2.out.on hal).grown hg4 (fun e => by have := (HO2.out.lt _ e.symm).1; omega))
        clear ho4 hg4 hal
        go_wp2_with fail
        go_roundw
        case rel => exact ⟨j + 1, by omega, by go_num, HO4, HB4, HX4⟩
        case measure => simp [intOf]; omega
      | false =>
        have HM := Lib.hid (matTo_no (T := strip L) (x := (l, m, k, f, s)) (k := j) (by rw [HE.out]; exact HZZ.out))
        have HO4 := Lib.hid (show Sl.Own 3 .i64 (w.heap.size + 1) wz (.slice xo no co) (matTo (strip L) (l, m, k, f, s) (j + 1)) by rw [HM.out]; exact HO2.out)
        go_wp2_with fail
        go_roundw
        case rel => exact ⟨j + 1, by omega, by go_num, HO4, HB2, HX2⟩
        case measure => simp [intOf]; omega
    · obtain rfl : j = n := by omega
      have HV := Lib.hid (show matTo (strip L) (l, m, k, f, s) j = matK (strip L) (l, m, k, f, s) by unfold matK; rw [strip_length, ← HLN.out])
      clear hlt
      go_wp2_with fail
      go_ret
      exact ⟨_, rfl, by rw [← HV.out]; exact hO.out.mono (Nat.le_succ _), hB.out⟩
end Go.Proofs.Ytnblopilgfdjkaa.Row.Ring
