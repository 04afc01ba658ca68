/- Contracts and mathematics, joined: DrawU3. No conditions but those that each states. -/
import Derived.Deep.Cut
import Derived.Test.YtkojeajjappchaaGreatB14
/- The model's draws of chapter 10. What was in memory stays as it was. -/
namespace Go.Proofs.YtkojeajjappchaaGreat.Draw
open Go.ChangeShapes Go.WideShapes Go.ChangeAt Go.RowKit Go.Instr
open Go.Proofs.YtkojeajjappchaaGreat.Row (bulk bulk_append bulk_one bulk_nil bulk_cons HB Rlt Rlm kRl kLRl kN OwnK HoldsK wtRl Holds Elem)
open Go.Proofs.YtkojeajjappchaaGreat.Ret (NC Blk Box)
set_option linter.unusedVariables false
set_option maxRecDepth 100000

/-- append to a slice of the call's own, whatever is appended (a nil slice too), as a step of a statement that draws its order. -/
theorem step_appA {P : Program} {ops : Array Oper} {o : Oper} {a : Act} {w : World} {K : Act → World → Prop} {Q : Exit → Act → World → Prop} {E : Prop} {α : Type} [Inhabited α] {enc : α → Value} {e t : TypeId} {bytes : Nat} {z : Value}
    (hg : o.guard = none) (s x : Operand) (hop : o.op = Op.call { callee := Callee.builtin Builtin.append, args := #[s, x], argTypes := #[t, t] }) (ht : P.underlying t = some (.slice e)) (hi : Row.Elem P e z bytes) (hz : z.cells.size = 1)
    {B : Nat} {v vx : Value} {l m : List α} (hs : a.eval s = v) (hx : a.eval x = vx) (hown : Row.Own e enc B w v l) (hsrc : Row.Holds enc w vx m) (h1c : ∀ x, (enc x).oneCell' = true) (hlen : (l.length + m.length) * bytes ≤ 140737488355328) (hmx : l.length + m.length ≤ maxLen) (hB : B ≤ w.heap.size)
    (hK : ∀ v' w', Row.Own e enc B w' v' (l ++ m) → w.grownBy w' v.ownBlock → K (a.put o.dst v') w') :
    if Region.wanted o (yielded ops a.tmps) = true then Oper.wp P o a w K Q else E := by
  obtain ⟨ao, cap, rfl, hcap, hc⟩ := hsrc
  have hsrc : Row.Holds enc w (.slice ao m.length cap) m := ⟨ao, cap, rfl, hcap, hc⟩
  cases ao with
  | some ad => exact step_app hg s x hop ht hi hz hs hx hown hsrc h1c hlen hmx hB hK
  | none =>
    have hw : Region.wanted o (yielded ops a.tmps) = true := by simp [Region.wanted, hg]
    rw [if_pos hw]
    obtain ⟨i, h1, h2, h3, h4⟩ := info_parts hi
    rcases hc with rfl | ⟨b, off, hc, _⟩
    · have hrun : (Builtin.append_ #[t, t] o.type #[v, .slice none 0 cap]).run P w = .ok v w := by
        rcases hown.2 with ⟨rfl, hn⟩ | ⟨g, cap', cur, rfl, _, _, hnc, _⟩
        · simp [Builtin.append_, run_underlying ht, sizeOf, typeInfo, h1, Builtin.lenOf, Builtin.firstCells]
        · simp [Builtin.append_, run_underlying ht, sizeOf, typeInfo, h1, Builtin.lenOf, Builtin.firstCells, hnc, storeCells]
      have hx' : a.eval x = .slice none 0 cap := by simpa using hx
      unfold Oper.wp
      simp [execOp, hop, resolve, invoke, builtin, hs, hx', hrun, Result.andThen]
      exact hK v w (by simpa using hown) (World.grownBy.refl _ _)
    · cases hc
theorem own_blk {w : World} {b B : Nat} (h : Blk w b #[] 9) (hB : B ≤ b) : Row.Own 9 Value.string B w (.slice (some ⟨b, 0, none⟩) 0 0) [] := by
  refine ⟨by simp, Or.inr ⟨b, 0, #[], rfl, hB, h, Nat.le_refl _, by unfold maxLen; omega, rfl, rfl⟩⟩
/-- What is put in an empty row's place leaves all that holds something. -/
theorem holds_empty {w w' : World} {b : Nat} {x : Option Addr} {n c : Nat} {l : List ByteArray} {t : TypeId} (h : Holds Value.string w (.slice x n c) l) (hb : Blk w b #[] t) (hg : w.grownBy w' (some b)) : Holds Value.string w' (.slice x n c) l := by
  obtain ⟨x', cap, hv, hc, hh⟩ := h
  refine ⟨x', cap, hv, hc, ?_⟩
  rcases hh with hh | ⟨q, off, hx, hh⟩
  · exact Or.inl hh
  · refine Or.inr ⟨q, off, hx, fun j hj => ?_⟩
    have h1 := hh j hj
    have hne : q ≠ b := fun e => by
      subst e
      rw [hb.cell] at h1
      simp at h1
    exact hg.cell h1 (fun e => hne (Option.some.inj e))
theorem _root_.Go.Proofs.YtkojeajjappchaaGreat.Row.cell_ne2 {w : World} {g r i : Nat} (h : g ≠ r) (a b : Value) : ((w.setCell ⟨r, 0, none⟩ a).setCell ⟨r, 1, none⟩ b).cell? ⟨g, i, none⟩ = w.cell? ⟨g, i, none⟩ := by
  rw [World.cell?_of_block (w := w.setCell ⟨r, 0, none⟩ a) (Go.RowKit.Below.heap_setCell _ ⟨r, 1, none⟩ _ g h), World.cell?_of_block (w := w) (Go.RowKit.Below.heap_setCell _ ⟨r, 0, none⟩ _ g h)]
theorem kc {w w' : World} {a : Addr} {v : Value} (h : w.cell? a = some v) (hb : Below w.heap.size w w') : w'.cell? a = some v := (hb.cell (Ret.cell_lt h)).trans h
theorem ob_some {b : Nat} {n c : Nat} : (Value.slice (some ⟨b, 0, none⟩) n c).ownBlock = some b := rfl

set_option maxRecDepth 100000 in
set_option maxHeartbeats 4000000 in
theorem cpy {Q : Exit → Act → World → Prop} {v0 v3 v4 v5 v6 v7 v8 v9 v10 v11 v12 v13 v14 v15 : Value} {w : World} {g r n0 c0 n1 c1 : Nat} {x0 x1 : Option Addr} {p q : List ByteArray} (H_p : Hid (Holds Value.string w (.slice x0 n0 c0) p)) (H_q : Hid (Holds Value.string w (.slice x1 n1 c1) q)) (N_p : Hid (p.length ≤ 9000000)) (N_q : Hid (q.length ≤ 9000000)) (HR : Hid (Blk w r #[.slice none 0 0, .slice none 0 0] 28)) (HGR : Hid (g ≠ r)) (K0 : Hid (w.cell? ⟨g, 0, none⟩ = some (.slice x0 n0 c0))) (K1 : Hid (w.cell? ⟨g, 1, none⟩ = some (.slice x1 n1 c1)))
    (hQ : ∀ (u3 u4 u5 u6 u7 u8 u9 u10 u11 u12 u13 u14 u15 : Value) (y7 y13 : Option Addr) (m7 d7 m13 d13 : Nat)  (wx : World), Holds Value.string wx (.slice y7 m7 d7) p → Holds Value.string wx (.slice y13 m13 d13) q → Below w.heap.size w wx → Q .normal ⟨#[v0, .pointer (some ⟨g, 0, none⟩), .pointer (some ⟨r, 0, none⟩), u3, u4, u5, u6, u7, u8, u9, u10, u11, u12, u13, u14, u15], []⟩ ((wx.setCell ⟨r, 0, none⟩ (.slice y7 m7 d7)).setCell ⟨r, 1, none⟩ (.slice y13 m13 d13))) :
    (Code.region 1 #[{ dst := some 3, op := Op.buildSlice 24 0 #[], type := 24, pos := "l10_rule.go:79", after := #[], guard := none },
      { dst := some 4, op := Op.fieldAddr 28 (Operand.tmp 1) 0, type := 0, pos := "l10_rule.go:79", after := #[], guard := none },
      { dst := some 5, op := Op.fieldAddr 26 (Operand.tmp 4) 0, type := 0, pos := "l10_rule.go:79", after := #[{ on := 1, ground := Ground.data }], guard := none },
      { dst := some 6, op := Op.load 24 (Operand.tmp 5), type := 24, pos := "l10_rule.go:79", after := #[{ on := 2, ground := Ground.data }], guard := none },
      { dst := some 7, op := Op.call { callee := Callee.builtin Builtin.append, args := #[Operand.tmp 3, Operand.tmp 6], argTypes := #[24, 24] }, type := 24, pos := "l10_rule.go:79", after := #[{ on := 0, ground := Ground.data }, { on := 3, ground := Ground.data }], guard := none },
      { dst := some 8, op := Op.build 26 #[(0, Operand.tmp 7)], type := 26, pos := "l10_rule.go:79", after := #[{ on := 4, ground := Ground.data }], guard := none },
      { dst := some 9, op := Op.buildSlice 24 0 #[], type := 24, pos := "l10_rule.go:79", after := #[], guard := none },
      { dst := some 10, op := Op.fieldAddr 28 (Operand.tmp 1) 1, type := 0, pos := "l10_rule.go:79", after := #[], guard := none },
      { dst := some 11, op := Op.fieldAddr 26 (Operand.tmp 10) 0, type := 0, pos := "l10_rule.go:79", after := #[{ on := 7, ground := Ground.data }], guard := none },
      { dst := some 12, op := Op.load 24 (Operand.tmp 11), type := 24, pos := "l10_rule.go:79", after := #[{ on := 8, ground := Ground.data }], guard := none },
      { dst := some 13, op := Op.call { callee := Callee.builtin Builtin.append, args := #[Operand.tmp 9, Operand.tmp 12], argTypes := #[24, 24] }, type := 24, pos := "l10_rule.go:79", after := #[{ on := 6, ground := Ground.data }, { on := 9, ground := Ground.data }, { on := 4, ground := Ground.chain }], guard := none },
      { dst := some 14, op := Op.build 26 #[(0, Operand.tmp 13)], type := 26, pos := "l10_rule.go:79", after := #[{ on := 10, ground := Ground.data }], guard := none },
      { dst := some 15, op := Op.build 28 #[(0, Operand.tmp 8), (1, Operand.tmp 14)], type := 28, pos := "l10_rule.go:79", after := #[{ on := 5, ground := Ground.data }, { on := 11, ground := Ground.data }], guard := none },
      { dst := none, op := Op.store 28 (Operand.tmp 2) (Operand.tmp 15), type := 0, pos := "l10_rule.go:79", after := #[{ on := 12, ground := Ground.data }, { on := 10, ground := Ground.chain }, { on := 0, ground := Ground.phase }, { on := 1, ground := Ground.phase }, { on := 2, ground := Ground.phase }, { on := 3, ground := Ground.phase }, { on := 4, ground := Ground.phase }, { on := 5, ground := Ground.phase }, { on := 6, ground := Ground.phase }, { on := 7, ground := Ground.phase }, { on := 8, ground := Ground.phase }, { on := 9, ground := Ground.phase }, { on := 10, ground := Ground.phase }, { on := 11, ground := Ground.phase }, { on := 12, ground := Ground.phase }], guard := none }] true).wp Tryz.prog Q ⟨#[v0, .pointer (some ⟨g, 0, none⟩), .pointer (some ⟨r, 0, none⟩), v3, v4, v5, v6, v7, v8, v9, v10, v11, v12, v13, v14, v15], []⟩ w := by
  have HQ := Lib.hid hQ; clear hQ
  have hdr : Below w.heap.size w w.drew := (Below.refl _ _).drew
  have BB := Lib.hid hdr
  refine wp_region_noPanic ?_
  refine wp_region_held_drew (S := (fun w' => w'.cell? ⟨g, 0, none⟩ = some (.slice x0 n0 c0) ∧ w'.cell? ⟨g, 1, none⟩ = some (.slice x1 n1 c1))) (by kernel_rfl) ?_ (fun hHeld => ?_)
  · exact ⟨kc K0.out BB.out, kc K1.out BB.out⟩
  clear hdr
  generalize w.drew = wd at *
  refine wpAnyH_take (i := 1) (oi := { dst := some 4, op := Op.fieldAddr 28 (Operand.tmp 1) 0, type := 0, pos := "l10_rule.go:79", after := #[], guard := none }) (v := ?_) rfl (by kernel_rfl) (by kernel_rfl) (by kernel_rfl) (fun _ _ _ h => h) (Or.inl ⟨by rfl, ?_⟩) (by assumption) ?_
  rotate_left
  · intro w' hSw; (try dsimp only at hSw); first | (go_simp; done) | (go_simp; with_reducible rfl)
  (try simp only [Act.put, List.setIfInBounds_toArray, List.set_cons_zero, List.set_cons_succ])
  refine wpAnyH_take (i := 2) (oi := { dst := some 5, op := Op.fieldAddr 26 (Operand.tmp 4) 0, type := 0, pos := "l10_rule.go:79", after := #[{ on := 1, ground := Ground.data }], guard := none }) (v := ?_) rfl (by kernel_rfl) (by kernel_rfl) (by kernel_rfl) (fun _ _ _ h => h) (Or.inl ⟨by rfl, ?_⟩) (by assumption) ?_
  rotate_left
  · intro w' hSw; (try dsimp only at hSw); first | (go_simp; done) | (go_simp; with_reducible rfl)
  (try simp only [Act.put, List.setIfInBounds_toArray, List.set_cons_zero, List.set_cons_succ])
  refine wpAnyH_take (i := 3) (oi := { dst := some 6, op := Op.load 24 (Operand.tmp 5), type := 24, pos := "l10_rule.go:79", after := #[{ on := 2, ground := Ground.data }], guard := none }) (v := ?_) rfl (by kernel_rfl) (by kernel_rfl) (by kernel_rfl) (fun _ _ _ h => h) (Or.inl ⟨by rfl, ?_⟩) (by assumption) ?_
  rotate_left
  · intro w' hSw; (try dsimp only at hSw); first | (go_simp; done) | (go_simp; with_reducible rfl)
  (try simp only [Act.put, List.setIfInBounds_toArray, List.set_cons_zero, List.set_cons_succ])
  refine wpAnyH_take (i := 7) (oi := { dst := some 10, op := Op.fieldAddr 28 (Operand.tmp 1) 1, type := 0, pos := "l10_rule.go:79", after := #[], guard := none }) (v := ?_) rfl (by kernel_rfl) (by kernel_rfl) (by kernel_rfl) (fun _ _ _ h => h) (Or.inl ⟨by rfl, ?_⟩) (by assumption) ?_
  rotate_left
  · intro w' hSw; (try dsimp only at hSw); first | (go_simp; done) | (go_simp; with_reducible rfl)
  (try simp only [Act.put, List.setIfInBounds_toArray, List.set_cons_zero, List.set_cons_succ])
  refine wpAnyH_take (i := 8) (oi := { dst := some 11, op := Op.fieldAddr 26 (Operand.tmp 10) 0, type := 0, pos := "l10_rule.go:79", after := #[{ on := 7, ground := Ground.data }], guard := none }) (v := ?_) rfl (by kernel_rfl) (by kernel_rfl) (by kernel_rfl) (fun _ _ _ h => h) (Or.inl ⟨by rfl, ?_⟩) (by assumption) ?_
  rotate_left
  · intro w' hSw; (try dsimp only at hSw); first | (go_simp; done) | (go_simp; with_reducible rfl)
  (try simp only [Act.put, List.setIfInBounds_toArray, List.set_cons_zero, List.set_cons_succ])
  refine wpAnyH_take (i := 9) (oi := { dst := some 12, op := Op.load 24 (Operand.tmp 11), type := 24, pos := "l10_rule.go:79", after := #[{ on := 8, ground := Ground.data }], guard := none }) (v := ?_) rfl (by kernel_rfl) (by kernel_rfl) (by kernel_rfl) (fun _ _ _ h => h) (Or.inl ⟨by rfl, ?_⟩) (by assumption) ?_
  rotate_left
  · intro w' hSw; (try dsimp only at hSw); first | (go_simp; done) | (go_simp; with_reducible rfl)
  (try simp only [Act.put, List.setIfInBounds_toArray, List.set_cons_zero, List.set_cons_succ])
  refine wpAnyH_ready (rs := [0, 6]) (by kernel_rfl) (by simp) ?_
  refine AllReadyH.cons (o := { dst := some 3, op := Op.buildSlice 24 0 #[], type := 24, pos := "l10_rule.go:79", after := #[], guard := none }) rfl (fun K hK => ?_) ?_
  ·
    go_simp
    have hb : Below wd.heap.size wd (wd.alloc (.cells #[] 9)) := (Below.refl _ _).alloc (Nat.le_refl _) _
    obtain ⟨b3, hb3⟩ : ∃ b, b = wd.heap.size := ⟨_, rfl⟩
    have X3 := Lib.hid (show Blk (wd.alloc (.cells #[] 9)) b3 #[] 9 from Ret.Blk.new' #[] 9 hb3)
    have L3 := Lib.hid (show w.heap.size ≤ b3 from hb3 ▸ BB.out.size)
    (first | have HNE := Lib.hid (show b3 ≠ b9 from by have h1 := X9.out.lt; omega) | skip)
    rw [← hb3]
    clear hb3
    replace BB := Lib.hid (BB.out.trans (hb.mono BB.out.size))
    clear hb
    generalize wd.alloc (.cells #[] 9) = wn1 at *
    clear hHeld
    refine hK.out _ _ ?_ (fun hHeld => ?_)
    · (try dsimp only); exact ⟨kc K0.out BB.out, kc K1.out BB.out⟩
    clear hK K
    (try simp only [Act.put, List.setIfInBounds_toArray, List.set_cons_zero, List.set_cons_succ])
    refine wpAnyH_ready (rs := [4, 6]) (by kernel_rfl) (by simp) ?_
    refine AllReadyH.cons (o := { dst := some 7, op := Op.call { callee := Callee.builtin Builtin.append, args := #[Operand.tmp 3, Operand.tmp 6], argTypes := #[24, 24] }, type := 24, pos := "l10_rule.go:79", after := #[{ on := 0, ground := Ground.data }, { on := 3, ground := Ground.data }], guard := none }) rfl (fun K hK => ?_) ?_
    ·
      refine step_appA (enc := Value.string) (B := w.heap.size) (v := .slice (some ⟨b3, 0, none⟩) 0 0) (l := []) (m := p) (vx := .slice x0 n0 c0) rfl _ _ (by rfl) Tryz.underlying24 Row.elemSTR rfl (by rfl) (by rfl) ?_ ?_ Row.oneStr ?_ ?_ ?_ ?_
      · exact own_blk X3.out L3.out
      · exact H_p.out.on BB.out
      · have h5 := N_p.out; simp; omega
      · have h5 := N_p.out; unfold maxLen; simp; omega
      · exact BB.out.size
      intro v7 wn2 ho hg
      rw [ob_some] at hg
      obtain ⟨y7, m7, d7, rfl, -, -, ho⟩ := ho.shapeN
      (first | replace X9 := Lib.hid (X9.out.grown hg (fun e => HNE.out (Option.some.inj e).symm)) | skip)
      have H7 := Lib.hid (show Holds Value.string wn2 (.slice y7 m7 d7) p from ho.holds)
      replace BB := Lib.hid (BB.out.grown hg BB.out.size (fun g e => by have e1 := Option.some.inj e; have := L3.out; omega))
      clear ho hg X3
      clear hHeld
      refine hK.out _ _ ?_ (fun hHeld => ?_)
      · (try dsimp only); exact ⟨kc K0.out BB.out, kc K1.out BB.out⟩
      clear hK K
      (try simp only [Act.put, List.setIfInBounds_toArray, List.set_cons_zero, List.set_cons_succ])
      refine wpAnyH_take (i := 5) (oi := { dst := some 8, op := Op.build 26 #[(0, Operand.tmp 7)], type := 26, pos := "l10_rule.go:79", after := #[{ on := 4, ground := Ground.data }], guard := none }) (v := ?_) rfl (by kernel_rfl) (by kernel_rfl) (by kernel_rfl) (fun _ _ _ h => h) (Or.inl ⟨by rfl, ?_⟩) (by assumption) ?_
      rotate_left
      · intro w' hSw; (try dsimp only at hSw); first | (go_simp; done) | (go_simp; with_reducible rfl)
      (try simp only [Act.put, List.setIfInBounds_toArray, List.set_cons_zero, List.set_cons_succ])
      refine wpAnyH_ready (rs := [6]) (by kernel_rfl) (by simp) ?_
      refine AllReadyH.cons (o := { dst := some 9, op := Op.buildSlice 24 0 #[], type := 24, pos := "l10_rule.go:79", after := #[], guard := none }) rfl (fun K hK => ?_) AllReadyH.nil
      go_simp
      have hb : Below wn2.heap.size wn2 (wn2.alloc (.cells #[] 9)) := (Below.refl _ _).alloc (Nat.le_refl _) _
      obtain ⟨b9, hb9⟩ : ∃ b, b = wn2.heap.size := ⟨_, rfl⟩
      have X9 := Lib.hid (show Blk (wn2.alloc (.cells #[] 9)) b9 #[] 9 from Ret.Blk.new' #[] 9 hb9)
      have L9 := Lib.hid (show w.heap.size ≤ b9 from hb9 ▸ BB.out.size)
      (first | have HNE := Lib.hid (show b3 ≠ b9 from by have h1 := X3.out.lt; omega) | skip)
      rw [← hb9]
      clear hb9
      replace H7 := Lib.hid (H7.out.on hb)
      replace BB := Lib.hid (BB.out.trans (hb.mono BB.out.size))
      clear hb
      generalize wn2.alloc (.cells #[] 9) = wn3 at *
      clear hHeld
      refine hK.out _ _ ?_ (fun hHeld => ?_)
      · (try dsimp only); exact ⟨kc K0.out BB.out, kc K1.out BB.out⟩
      clear hK K
      (try simp only [Act.put, List.setIfInBounds_toArray, List.set_cons_zero, List.set_cons_succ])
      refine wpAnyH_ready (rs := [10]) (by kernel_rfl) (by simp) ?_
      refine AllReadyH.cons (o := { dst := some 13, op := Op.call { callee := Callee.builtin Builtin.append, args := #[Operand.tmp 9, Operand.tmp 12], argTypes := #[24, 24] }, type := 24, pos := "l10_rule.go:79", after := #[{ on := 6, ground := Ground.data }, { on := 9, ground := Ground.data }, { on := 4, ground := Ground.chain }], guard := none }) rfl (fun K hK => ?_) AllReadyH.nil
      refine step_appA (enc := Value.string) (B := w.heap.size) (v := .slice (some ⟨b9, 0, none⟩) 0 0) (l := []) (m := q) (vx := .slice x1 n1 c1) rfl _ _ (by rfl) Tryz.underlying24 Row.elemSTR rfl (by rfl) (by rfl) ?_ ?_ Row.oneStr ?_ ?_ ?_ ?_
      · exact own_blk X9.out L9.out
      · exact H_q.out.on BB.out
      · have h5 := N_q.out; simp; omega
      · have h5 := N_q.out; unfold maxLen; simp; omega
      · exact BB.out.size
      intro v13 wn4 ho hg
      rw [ob_some] at hg
      obtain ⟨y13, m13, d13, rfl, -, -, ho⟩ := ho.shapeN
      replace H7 := Lib.hid (holds_empty H7.out X9.out hg)
      have H13 := Lib.hid (show Holds Value.string wn4 (.slice y13 m13 d13) q from ho.holds)
      replace BB := Lib.hid (BB.out.grown hg BB.out.size (fun g e => by have e1 := Option.some.inj e; have := L9.out; omega))
      clear ho hg X9
      clear hHeld
      refine hK.out _ _ ?_ (fun hHeld => ?_)
      · (try dsimp only); exact ⟨kc K0.out BB.out, kc K1.out BB.out⟩
      clear hK K
      (try simp only [Act.put, List.setIfInBounds_toArray, List.set_cons_zero, List.set_cons_succ])
      refine wpAnyH_take (i := 11) (oi := { dst := some 14, op := Op.build 26 #[(0, Operand.tmp 13)], type := 26, pos := "l10_rule.go:79", after := #[{ on := 10, ground := Ground.data }], guard := none }) (v := ?_) rfl (by kernel_rfl) (by kernel_rfl) (by kernel_rfl) (fun _ _ _ h => h) (Or.inl ⟨by rfl, ?_⟩) (by assumption) ?_
      rotate_left
      · intro w' hSw; (try dsimp only at hSw); first | (go_simp; done) | (go_simp; with_reducible rfl)
      (try simp only [Act.put, List.setIfInBounds_toArray, List.set_cons_zero, List.set_cons_succ])
      refine wpAnyH_take (i := 12) (oi := { dst := some 15, op := Op.build 28 #[(0, Operand.tmp 8), (1, Operand.tmp 14)], type := 28, pos := "l10_rule.go:79", after := #[{ on := 5, ground := Ground.data }, { on := 11, ground := Ground.data }], guard := none }) (v := ?_) rfl (by kernel_rfl) (by kernel_rfl) (by kernel_rfl) (fun _ _ _ h => h) (Or.inl ⟨by rfl, ?_⟩) (by assumption) ?_
      rotate_left
      · intro w' hSw; (try dsimp only at hSw); first | (go_simp; done) | (go_simp; with_reducible rfl)
      (try simp only [Act.put, List.setIfInBounds_toArray, List.set_cons_zero, List.set_cons_succ])
      refine wpAnyH_ready (rs := [13]) (by kernel_rfl) (by simp) ?_
      refine AllReadyH.cons (o := { dst := none, op := Op.store 28 (Operand.tmp 2) (Operand.tmp 15), type := 0, pos := "l10_rule.go:79", after := #[{ on := 12, ground := Ground.data }, { on := 10, ground := Ground.chain }, { on := 0, ground := Ground.phase }, { on := 1, ground := Ground.phase }, { on := 2, ground := Ground.phase }, { on := 3, ground := Ground.phase }, { on := 4, ground := Ground.phase }, { on := 5, ground := Ground.phase }, { on := 6, ground := Ground.phase }, { on := 7, ground := Ground.phase }, { on := 8, ground := Ground.phase }, { on := 9, ground := Ground.phase }, { on := 10, ground := Ground.phase }, { on := 11, ground := Ground.phase }, { on := 12, ground := Ground.phase }], guard := none }) rfl (fun K hK => ?_) AllReadyH.nil
      have r0 := (HR.out.on BB.out).cell 0; have r1 := (HR.out.on BB.out).cell 1
      have t0 := (HR.out.on BB.out).frozen 0; have t1 := (HR.out.on BB.out).frozen 1
      dsimp at r0 r1
      go_simp
      clear hHeld
      refine hK.out _ _ ?_ (fun hHeld => ?_)
      · (try dsimp only); exact ⟨(Row.cell_ne2 HGR.out _ _).trans (kc K0.out BB.out), (Row.cell_ne2 HGR.out _ _).trans (kc K1.out BB.out)⟩
      clear hK K
      (try simp only [Act.put, List.setIfInBounds_toArray, List.set_cons_zero, List.set_cons_succ])
      refine wpAnyH_done (by kernel_rfl) ?_ _
      exact NoPanic.normal (HQ.out _ _ _ _ _ _ _ _ _ _ _ _ _ _ _ _ _ _ _ _ H7.out H13.out BB.out)
    refine AllReadyH.cons (o := { dst := some 9, op := Op.buildSlice 24 0 #[], type := 24, pos := "l10_rule.go:79", after := #[], guard := none }) rfl (fun K hK => ?_) AllReadyH.nil
    go_simp
    have hb : Below wn1.heap.size wn1 (wn1.alloc (.cells #[] 9)) := (Below.refl _ _).alloc (Nat.le_refl _) _
    obtain ⟨b9, hb9⟩ : ∃ b, b = wn1.heap.size := ⟨_, rfl⟩
    have X9 := Lib.hid (show Blk (wn1.alloc (.cells #[] 9)) b9 #[] 9 from Ret.Blk.new' #[] 9 hb9)
    have L9 := Lib.hid (show w.heap.size ≤ b9 from hb9 ▸ BB.out.size)
    (first | have HNE := Lib.hid (show b3 ≠ b9 from by have h1 := X3.out.lt; omega) | skip)
    rw [← hb9]
    clear hb9
    replace X3 := Lib.hid (X3.out.on hb)
    replace BB := Lib.hid (BB.out.trans (hb.mono BB.out.size))
    clear hb
    generalize wn1.alloc (.cells #[] 9) = wn6 at *
    clear hHeld
    refine hK.out _ _ ?_ (fun hHeld => ?_)
    · (try dsimp only); exact ⟨kc K0.out BB.out, kc K1.out BB.out⟩
    clear hK K
    (try simp only [Act.put, List.setIfInBounds_toArray, List.set_cons_zero, List.set_cons_succ])
    refine wpAnyH_ready (rs := [4]) (by kernel_rfl) (by simp) ?_
    refine AllReadyH.cons (o := { dst := some 7, op := Op.call { callee := Callee.builtin Builtin.append, args := #[Operand.tmp 3, Operand.tmp 6], argTypes := #[24, 24] }, type := 24, pos := "l10_rule.go:79", after := #[{ on := 0, ground := Ground.data }, { on := 3, ground := Ground.data }], guard := none }) rfl (fun K hK => ?_) AllReadyH.nil
    refine step_appA (enc := Value.string) (B := w.heap.size) (v := .slice (some ⟨b3, 0, none⟩) 0 0) (l := []) (m := p) (vx := .slice x0 n0 c0) rfl _ _ (by rfl) Tryz.underlying24 Row.elemSTR rfl (by rfl) (by rfl) ?_ ?_ Row.oneStr ?_ ?_ ?_ ?_
    · exact own_blk X3.out L3.out
    · exact H_p.out.on BB.out
    · have h5 := N_p.out; simp; omega
    · have h5 := N_p.out; unfold maxLen; simp; omega
    · exact BB.out.size
    intro v7 wn7 ho hg
    rw [ob_some] at hg
    obtain ⟨y7, m7, d7, rfl, -, -, ho⟩ := ho.shapeN
    (first | replace X9 := Lib.hid (X9.out.grown hg (fun e => HNE.out (Option.some.inj e).symm)) | skip)
    have H7 := Lib.hid (show Holds Value.string wn7 (.slice y7 m7 d7) p from ho.holds)
    replace BB := Lib.hid (BB.out.grown hg BB.out.size (fun g e => by have e1 := Option.some.inj e; have := L3.out; omega))
    clear ho hg X3
    clear hHeld
    refine hK.out _ _ ?_ (fun hHeld => ?_)
    · (try dsimp only); exact ⟨kc K0.out BB.out, kc K1.out BB.out⟩
    clear hK K
    (try simp only [Act.put, List.setIfInBounds_toArray, List.set_cons_zero, List.set_cons_succ])
    refine wpAnyH_take (i := 5) (oi := { dst := some 8, op := Op.build 26 #[(0, Operand.tmp 7)], type := 26, pos := "l10_rule.go:79", after := #[{ on := 4, ground := Ground.data }], guard := none }) (v := ?_) rfl (by kernel_rfl) (by kernel_rfl) (by kernel_rfl) (fun _ _ _ h => h) (Or.inl ⟨by rfl, ?_⟩) (by assumption) ?_
    rotate_left
    · intro w' hSw; (try dsimp only at hSw); first | (go_simp; done) | (go_simp; with_reducible rfl)
    (try simp only [Act.put, List.setIfInBounds_toArray, List.set_cons_zero, List.set_cons_succ])
    refine wpAnyH_ready (rs := [10]) (by kernel_rfl) (by simp) ?_
    refine AllReadyH.cons (o := { dst := some 13, op := Op.call { callee := Callee.builtin Builtin.append, args := #[Operand.tmp 9, Operand.tmp 12], argTypes := #[24, 24] }, type := 24, pos := "l10_rule.go:79", after := #[{ on := 6, ground := Ground.data }, { on := 9, ground := Ground.data }, { on := 4, ground := Ground.chain }], guard := none }) rfl (fun K hK => ?_) AllReadyH.nil
    refine step_appA (enc := Value.string) (B := w.heap.size) (v := .slice (some ⟨b9, 0, none⟩) 0 0) (l := []) (m := q) (vx := .slice x1 n1 c1) rfl _ _ (by rfl) Tryz.underlying24 Row.elemSTR rfl (by rfl) (by rfl) ?_ ?_ Row.oneStr ?_ ?_ ?_ ?_
    · exact own_blk X9.out L9.out
    · exact H_q.out.on BB.out
    · have h5 := N_q.out; simp; omega
    · have h5 := N_q.out; unfold maxLen; simp; omega
    · exact BB.out.size
    intro v13 wn8 ho hg
    rw [ob_some] at hg
    obtain ⟨y13, m13, d13, rfl, -, -, ho⟩ := ho.shapeN
    replace H7 := Lib.hid (holds_empty H7.out X9.out hg)
    have H13 := Lib.hid (show Holds Value.string wn8 (.slice y13 m13 d13) q from ho.holds)
    replace BB := Lib.hid (BB.out.grown hg BB.out.size (fun g e => by have e1 := Option.some.inj e; have := L9.out; omega))
    clear ho hg X9
    clear hHeld
    refine hK.out _ _ ?_ (fun hHeld => ?_)
    · (try dsimp only); exact ⟨kc K0.out BB.out, kc K1.out BB.out⟩
    clear hK K
    (try simp only [Act.put, List.setIfInBounds_toArray, List.set_cons_zero, List.set_cons_succ])
    refine wpAnyH_take (i := 11) (oi := { dst := some 14, op := Op.build 26 #[(0, Operand.tmp 13)], type := 26, pos := "l10_rule.go:79", after := #[{ on := 10, ground := Ground.data }], guard := none }) (v := ?_) rfl (by kernel_rfl) (by kernel_rfl) (by kernel_rfl) (fun _ _ _ h => h) (Or.inl ⟨by rfl, ?_⟩) (by assumption) ?_
    rotate_left
    · intro w' hSw; (try dsimp only at hSw); first | (go_simp; done) | (go_simp; with_reducible rfl)
    (try simp only [Act.put, List.setIfInBounds_toArray, List.set_cons_zero, List.set_cons_succ])
    refine wpAnyH_take (i := 12) (oi := { dst := some 15, op := Op.build 28 #[(0, Operand.tmp 8), (1, Operand.tmp 14)], type := 28, pos := "l10_rule.go:79", after := #[{ on := 5, ground := Ground.data }, { on := 11, ground := Ground.data }], guard := none }) (v := ?_) rfl (by kernel_rfl) (by kernel_rfl) (by kernel_rfl) (fun _ _ _ h => h) (Or.inl ⟨by rfl, ?_⟩) (by assumption) ?_
    rotate_left
    · intro w' hSw; (try dsimp only at hSw); first | (go_simp; done) | (go_simp; with_reducible rfl)
    (try simp only [Act.put, List.setIfInBounds_toArray, List.set_cons_zero, List.set_cons_succ])
    refine wpAnyH_ready (rs := [13]) (by kernel_rfl) (by simp) ?_
    refine AllReadyH.cons (o := { dst := none, op := Op.store 28 (Operand.tmp 2) (Operand.tmp 15), type := 0, pos := "l10_rule.go:79", after := #[{ on := 12, ground := Ground.data }, { on := 10, ground := Ground.chain }, { on := 0, ground := Ground.phase }, { on := 1, ground := Ground.phase }, { on := 2, ground := Ground.phase }, { on := 3, ground := Ground.phase }, { on := 4, ground := Ground.phase }, { on := 5, ground := Ground.phase }, { on := 6, ground := Ground.phase }, { on := 7, ground := Ground.phase }, { on := 8, ground := Ground.phase }, { on := 9, ground := Ground.phase }, { on := 10, ground := Ground.phase }, { on := 11, ground := Ground.phase }, { on := 12, ground := Ground.phase }], guard := none }) rfl (fun K hK => ?_) AllReadyH.nil
    have r0 := (HR.out.on BB.out).cell 0; have r1 := (HR.out.on BB.out).cell 1
    have t0 := (HR.out.on BB.out).frozen 0; have t1 := (HR.out.on BB.out).frozen 1
    dsimp at r0 r1
    go_simp
    clear hHeld
    refine hK.out _ _ ?_ (fun hHeld => ?_)
    · (try dsimp only); exact ⟨(Row.cell_ne2 HGR.out _ _).trans (kc K0.out BB.out), (Row.cell_ne2 HGR.out _ _).trans (kc K1.out BB.out)⟩
    clear hK K
    (try simp only [Act.put, List.setIfInBounds_toArray, List.set_cons_zero, List.set_cons_succ])
    refine wpAnyH_done (by kernel_rfl) ?_ _
    exact NoPanic.normal (HQ.out _ _ _ _ _ _ _ _ _ _ _ _ _ _ _ _ _ _ _ _ H7.out H13.out BB.out)
  refine AllReadyH.cons (o := { dst := some 9, op := Op.buildSlice 24 0 #[], type := 24, pos := "l10_rule.go:79", after := #[], guard := none }) rfl (fun K hK => ?_) AllReadyH.nil
  go_simp
  have hb : Below wd.heap.size wd (wd.alloc (.cells #[] 9)) := (Below.refl _ _).alloc (Nat.le_refl _) _
  obtain ⟨b9, hb9⟩ : ∃ b, b = wd.heap.size := ⟨_, rfl⟩
  have X9 := Lib.hid (show Blk (wd.alloc (.cells #[] 9)) b9 #[] 9 from Ret.Blk.new' #[] 9 hb9)
  have L9 := Lib.hid (show w.heap.size ≤ b9 from hb9 ▸ BB.out.size)
  (first | have HNE := Lib.hid (show b3 ≠ b9 from by have h1 := X3.out.lt; omega) | skip)
  rw [← hb9]
  clear hb9
  replace BB := Lib.hid (BB.out.trans (hb.mono BB.out.size))
  clear hb
  generalize wd.alloc (.cells #[] 9) = wn10 at *
  clear hHeld
  refine hK.out _ _ ?_ (fun hHeld => ?_)
  · (try dsimp only); exact ⟨kc K0.out BB.out, kc K1.out BB.out⟩
  clear hK K
  (try simp only [Act.put, List.setIfInBounds_toArray, List.set_cons_zero, List.set_cons_succ])
  refine wpAnyH_ready (rs := [0]) (by kernel_rfl) (by simp) ?_
  refine AllReadyH.cons (o := { dst := some 3, op := Op.buildSlice 24 0 #[], type := 24, pos := "l10_rule.go:79", after := #[], guard := none }) rfl (fun K hK => ?_) AllReadyH.nil
  go_simp
  have hb : Below wn10.heap.size wn10 (wn10.alloc (.cells #[] 9)) := (Below.refl _ _).alloc (Nat.le_refl _) _
  obtain ⟨b3, hb3⟩ : ∃ b, b = wn10.heap.size := ⟨_, rfl⟩
  have X3 := Lib.hid (show Blk (wn10.alloc (.cells #[] 9)) b3 #[] 9 from Ret.Blk.new' #[] 9 hb3)
  have L3 := Lib.hid (show w.heap.size ≤ b3 from hb3 ▸ BB.out.size)
  (first | have HNE := Lib.hid (show b3 ≠ b9 from by have h1 := X9.out.lt; omega) | skip)
  rw [← hb3]
  clear hb3
  replace X9 := Lib.hid (X9.out.on hb)
  replace BB := Lib.hid (BB.out.trans (hb.mono BB.out.size))
  clear hb
  generalize wn10.alloc (.cells #[] 9) = wn11 at *
  clear hHeld
  refine hK.out _ _ ?_ (fun hHeld => ?_)
  · (try dsimp only); exact ⟨kc K0.out BB.out, kc K1.out BB.out⟩
  clear hK K
  (try simp only [Act.put, List.setIfInBounds_toArray, List.set_cons_zero, List.set_cons_succ])
  refine wpAnyH_ready (rs := [4]) (by kernel_rfl) (by simp) ?_
  refine AllReadyH.cons (o := { dst := some 7, op := Op.call { callee := Callee.builtin Builtin.append, args := #[Operand.tmp 3, Operand.tmp 6], argTypes := #[24, 24] }, type := 24, pos := "l10_rule.go:79", after := #[{ on := 0, ground := Ground.data }, { on := 3, ground := Ground.data }], guard := none }) rfl (fun K hK => ?_) AllReadyH.nil
  refine step_appA (enc := Value.string) (B := w.heap.size) (v := .slice (some ⟨b3, 0, none⟩) 0 0) (l := []) (m := p) (vx := .slice x0 n0 c0) rfl _ _ (by rfl) Tryz.underlying24 Row.elemSTR rfl (by rfl) (by rfl) ?_ ?_ Row.oneStr ?_ ?_ ?_ ?_
  · exact own_blk X3.out L3.out
  · exact H_p.out.on BB.out
  · have h5 := N_p.out; simp; omega
  · have h5 := N_p.out; unfold maxLen; simp; omega
  · exact BB.out.size
  intro v7 wn12 ho hg
  rw [ob_some] at hg
  obtain ⟨y7, m7, d7, rfl, -, -, ho⟩ := ho.shapeN
  (first | replace X9 := Lib.hid (X9.out.grown hg (fun e => HNE.out (Option.some.inj e).symm)) | skip)
  have H7 := Lib.hid (show Holds Value.string wn12 (.slice y7 m7 d7) p from ho.holds)
  replace BB := Lib.hid (BB.out.grown hg BB.out.size (fun g e => by have e1 := Option.some.inj e; have := L3.out; omega))
  clear ho hg X3
  clear hHeld
  refine hK.out _ _ ?_ (fun hHeld => ?_)
  · (try dsimp only); exact ⟨kc K0.out BB.out, kc K1.out BB.out⟩
  clear hK K
  (try simp only [Act.put, List.setIfInBounds_toArray, List.set_cons_zero, List.set_cons_succ])
  refine wpAnyH_take (i := 5) (oi := { dst := some 8, op := Op.build 26 #[(0, Operand.tmp 7)], type := 26, pos := "l10_rule.go:79", after := #[{ on := 4, ground := Ground.data }], guard := none }) (v := ?_) rfl (by kernel_rfl) (by kernel_rfl) (by kernel_rfl) (fun _ _ _ h => h) (Or.inl ⟨by rfl, ?_⟩) (by assumption) ?_
  rotate_left
  · intro w' hSw; (try dsimp only at hSw); first | (go_simp; done) | (go_simp; with_reducible rfl)
  (try simp only [Act.put, List.setIfInBounds_toArray, List.set_cons_zero, List.set_cons_succ])
  refine wpAnyH_ready (rs := [10]) (by kernel_rfl) (by simp) ?_
  refine AllReadyH.cons (o := { dst := some 13, op := Op.call { callee := Callee.builtin Builtin.append, args := #[Operand.tmp 9, Operand.tmp 12], argTypes := #[24, 24] }, type := 24, pos := "l10_rule.go:79", after := #[{ on := 6, ground := Ground.data }, { on := 9, ground := Ground.data }, { on := 4, ground := Ground.chain }], guard := none }) rfl (fun K hK => ?_) AllReadyH.nil
  refine step_appA (enc := Value.string) (B := w.heap.size) (v := .slice (some ⟨b9, 0, none⟩) 0 0) (l := []) (m := q) (vx := .slice x1 n1 c1) rfl _ _ (by rfl) Tryz.underlying24 Row.elemSTR rfl (by rfl) (by rfl) ?_ ?_ Row.oneStr ?_ ?_ ?_ ?_
  · exact own_blk X9.out L9.out
  · exact H_q.out.on BB.out
  · have h5 := N_q.out; simp; omega
  · have h5 := N_q.out; unfold maxLen; simp; omega
  · exact BB.out.size
  intro v13 wn13 ho hg
  rw [ob_some] at hg
  obtain ⟨y13, m13, d13, rfl, -, -, ho⟩ := ho.shapeN
  replace H7 := Lib.hid (holds_empty H7.out X9.out hg)
  have H13 := Lib.hid (show Holds Value.string wn13 (.slice y13 m13 d13) q from ho.holds)
  replace BB := Lib.hid (BB.out.grown hg BB.out.size (fun g e => by have e1 := Option.some.inj e; have := L9.out; omega))
  clear ho hg X9
  clear hHeld
  refine hK.out _ _ ?_ (fun hHeld => ?_)
  · (try dsimp only); exact ⟨kc K0.out BB.out, kc K1.out BB.out⟩
  clear hK K
  (try simp only [Act.put, List.setIfInBounds_toArray, List.set_cons_zero, List.set_cons_succ])
  refine wpAnyH_take (i := 11) (oi := { dst := some 14, op := Op.build 26 #[(0, Operand.tmp 13)], type := 26, pos := "l10_rule.go:79", after := #[{ on := 10, ground := Ground.data }], guard := none }) (v := ?_) rfl (by kernel_rfl) (by kernel_rfl) (by kernel_rfl) (fun _ _ _ h => h) (Or.inl ⟨by rfl, ?_⟩) (by assumption) ?_
  rotate_left
  · intro w' hSw; (try dsimp only at hSw); first | (go_simp; done) | (go_simp; with_reducible rfl)
  (try simp only [Act.put, List.setIfInBounds_toArray, List.set_cons_zero, List.set_cons_succ])
  refine wpAnyH_take (i := 12) (oi := { dst := some 15, op := Op.build 28 #[(0, Operand.tmp 8), (1, Operand.tmp 14)], type := 28, pos := "l10_rule.go:79", after := #[{ on := 5, ground := Ground.data }, { on := 11, ground := Ground.data }], guard := none }) (v := ?_) rfl (by kernel_rfl) (by kernel_rfl) (by kernel_rfl) (fun _ _ _ h => h) (Or.inl ⟨by rfl, ?_⟩) (by assumption) ?_
  rotate_left
  · intro w' hSw; (try dsimp only at hSw); first | (go_simp; done) | (go_simp; with_reducible rfl)
  (try simp only [Act.put, List.setIfInBounds_toArray, List.set_cons_zero, List.set_cons_succ])
  refine wpAnyH_ready (rs := [13]) (by kernel_rfl) (by simp) ?_
  refine AllReadyH.cons (o := { dst := none, op := Op.store 28 (Operand.tmp 2) (Operand.tmp 15), type := 0, pos := "l10_rule.go:79", after := #[{ on := 12, ground := Ground.data }, { on := 10, ground := Ground.chain }, { on := 0, ground := Ground.phase }, { on := 1, ground := Ground.phase }, { on := 2, ground := Ground.phase }, { on := 3, ground := Ground.phase }, { on := 4, ground := Ground.phase }, { on := 5, ground := Ground.phase }, { on := 6, ground := Ground.phase }, { on := 7, ground := Ground.phase }, { on := 8, ground := Ground.phase }, { on := 9, ground := Ground.phase }, { on := 10, ground := Ground.phase }, { on := 11, ground := Ground.phase }, { on := 12, ground := Ground.phase }], guard := none }) rfl (fun K hK => ?_) AllReadyH.nil
  have r0 := (HR.out.on BB.out).cell 0; have r1 := (HR.out.on BB.out).cell 1
  have t0 := (HR.out.on BB.out).frozen 0; have t1 := (HR.out.on BB.out).frozen 1
  dsimp at r0 r1
  go_simp
  clear hHeld
  refine hK.out _ _ ?_ (fun hHeld => ?_)
  · (try dsimp only); exact ⟨(Row.cell_ne2 HGR.out _ _).trans (kc K0.out BB.out), (Row.cell_ne2 HGR.out _ _).trans (kc K1.out BB.out)⟩
  clear hK K
  (try simp only [Act.put, List.setIfInBounds_toArray, List.set_cons_zero, List.set_cons_succ])
  refine wpAnyH_done (by kernel_rfl) ?_ _
  exact NoPanic.normal (HQ.out _ _ _ _ _ _ _ _ _ _ _ _ _ _ _ _ _ _ _ _ H7.out H13.out BB.out)

set_option maxHeartbeats 4000000 in
theorem l10Copy (x0 : Option Addr) (n0 c0 : Nat) (x1 : Option Addr) (n1 c1 : Nat) (x : Rlt) (w : World) (h0 : Holds Value.string w (.slice x0 n0 c0) x.1) (h1 : Holds Value.string w (.slice x1 n1 c1) x.2) (hp : bulk x.1 ≤ 9000000) (hq : bulk x.2 ≤ 9000000) :
    Calls Tryz.prog 36 #[.agg #[.slice x0 n0 c0, .slice x1 n1 c1]] w fun e w' => ∃ (y0 y1 : Option Addr) (m0 d0 m1 d1 : Nat), e = .returned (.agg #[.slice y0 m0 d0, .slice y1 m1 d1]) ∧ Holds Value.string w' (.slice y0 m0 d0) x.1 ∧ Holds Value.string w' (.slice y1 m1 d1) x.2 ∧ Below w.heap.size w w' := by
  have ha1 := (Below.refl w.heap.size w).alloc (Nat.le_refl _) (.cells #[.slice x0 n0 c0, .slice x1 n1 c1] 28)
  have ha2 := (Below.refl (w.alloc (.cells #[.slice x0 n0 c0, .slice x1 n1 c1] 28)).heap.size (w.alloc (.cells #[.slice x0 n0 c0, .slice x1 n1 c1] 28))).alloc (Nat.le_refl _) (.cells #[.slice none 0 0, .slice none 0 0] 28)
  have HB := Lib.hid (ha1.alloc (by simp) (.cells #[.slice none 0 0, .slice none 0 0] 28))
  have HX := Lib.hid ((Blk.new w #[.slice x0 n0 c0, .slice x1 n1 c1] 28).on ha2)
  have HR := Lib.hid (Ret.Blk.new' (w := w.alloc (.cells #[.slice x0 n0 c0, .slice x1 n1 c1] 28)) (n := w.heap.size + 1) #[.slice none 0 0, .slice none 0 0] 28 (by simp))
  have H0 := Lib.hid (h0.on HB.out); have H1 := Lib.hid (h1.on HB.out)
  have N0 := Lib.hid (show x.1.length ≤ 9000000 from Nat.le_trans (Row.bulk_len _) hp); have N1 := Lib.hid (show x.2.length ≤ 9000000 from Nat.le_trans (Row.bulk_len _) hq)
  clear h0 h1 hp hq ha1 ha2
  go_enter Tryz.func36, Tryz.ntmps36
  go_wp2_with fail
  refine cpy H0 H1 N0 N1 HR (Lib.hid (by omega)) (Lib.hid (HX.out.cell 0)) (Lib.hid (HX.out.cell 1)) ?_
  intro u3 u4 u5 u6 u7 u8 u9 u10 u11 u12 u13 u14 u15 y7 y13 m7 d7 m13 d13 wx k7 k13 hb
  have HRW := Lib.hid (HR.out.on hb)
  have ZN := Lib.hid ((HRW.out.set 0 (.slice y7 m7 d7)).set 1 (.slice y13 m13 d13))
  have ZB := Lib.hid (((HB.out.trans (hb.mono HB.out.size)).setCell (p := ⟨w.heap.size + 1, 0, none⟩) (by simp) (.slice y7 m7 d7)).setCell (p := ⟨w.heap.size + 1, 1, none⟩) (by simp) (.slice y13 m13 d13))
  have Z7 := Lib.hid (Row.holds_setBlk (i := 1) (Row.holds_setBlk (i := 0) k7 HRW.out Row.two_noStr (.slice y7 m7 d7)) (HRW.out.set 0 (.slice y7 m7 d7)) Row.two_noStr2 (.slice y13 m13 d13))
  have Z13 := Lib.hid (Row.holds_setBlk (i := 1) (Row.holds_setBlk (i := 0) k13 HRW.out Row.two_noStr (.slice y7 m7 d7)) (HRW.out.set 0 (.slice y7 m7 d7)) Row.two_noStr2 (.slice y13 m13 d13))
  clear hb k7 k13
  go_wp2_with fail
  refine bodyPost_ret (Ret.results_c rfl _ _ (w.heap.size + 1) [.slice y7 m7 d7, .slice y13 m13 d13] rfl Row.aggRl ZN.out.cells) rfl ?_
  exact ⟨_, _, _, _, _, _, rfl, Z7.out, Z13.out, ZB.out⟩
end Go.Proofs.YtkojeajjappchaaGreat.Draw
