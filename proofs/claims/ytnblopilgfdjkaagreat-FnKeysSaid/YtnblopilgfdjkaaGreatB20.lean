/- Contracts and mathematics, joined: RingG. No conditions but those that each states. -/
import Derived.Test.YtnblopilgfdjkaaGreatB18
import Derived.Test.YtnblopilgfdjkaaGreatB19
/- Contracts of the model's AddKey, and of SignWithKey, the model's and the program's. No conditions but that lengths fit. -/
namespace Go.Proofs.YtnblopilgfdjkaaGreat.Row.Ring
open Go.ChangeShapes Go.WideShapes Go.ChangeAt Go.RowKit Go.Instr
set_option linter.unusedVariables false
set_option maxRecDepth 100000

theorem TabO.rowK {B : Nat} {w : World} {v : Value} {L : List Ent} (h : TabO B w v L) : OwnK 37 encE 2 B w v L := h.1
theorem one_key {w : World} (x : Option Addr) (n c : Nat) (l : List ByteArray) (s : Int) (b : Nat) (hb : b = w.heap.size) : HoldsK encE 2 (w.alloc (.cells #[.slice x n c, .int .i64 s] 37)) (.slice (some ⟨b, 0, none⟩) 1 1) [(⟨x, n, c, l, s⟩ : Ent)] := by
  subst hb
  exact holdsK_one szE 37 w (⟨x, n, c, l, s⟩ : Ent)

set_option maxRecDepth 100000 in
set_option maxHeartbeats 4000000 in
theorem addR1 {Q : Exit → Act → World → Prop} {v1 v2 v4 v5 v6 v7 v8 v9 v10 v11 v12 v13 v14 v15 v16 v17 v18 v19 v20 v21 v22 : Value} {w : World} {p nl cl nk ck : Nat} {xl xk : Option Addr} {s : Int} {M : List Ent} {lk : List ByteArray} (HT : Hid (TabH w (.slice xl nl cl) M)) (HK : Hid (Holds Value.string w (.slice xk nk ck) lk)) (HLM : Hid ((strip M).length ≤ 3000000)) (HTS : Hid (smT (strip M))) (HKL : Hid (lk.length ≤ 9000000)) (K0 : Hid (w.cell? ⟨p, 0, none⟩ = some (.slice xk nk ck))) (K1 : Hid (w.cell? ⟨p, 1, none⟩ = some (.int .i64 s)))
    (hQ : ∀ (u7 u8 u9 u10 u11 u12 u13 u14 u15 u16 : Value) (x16 : Option Addr) (n16 c16 : Nat)  (wx : World), TabOwn w.heap.size wx (.slice x16 n16 c16) (strip M ++ [(lk, s)]) → Below w.heap.size w wx → Q .normal ⟨#[.slice xl nl cl, v1, v2, .pointer (some ⟨p, 0, none⟩), v4, v5, .slice x16 n16 c16, u7, u8, u9, u10, u11, u12, u13, u14, u15, u16, v17, v18, v19, v20, v21, v22], []⟩ wx) :
    (Code.region 1 #[{ dst := some 7, op := Op.move (Operand.tmp 0), type := 24, pos := "l09_key.go:66", after := #[], guard := none },
      { dst := some 8, op := Op.call { callee := Callee.value (Operand.func 42), args := #[Operand.tmp 7], argTypes := #[24] }, type := 24, pos := "l09_key.go:66", after := #[{ on := 0, ground := Ground.data }], guard := none },
      { dst := some 9, op := Op.fieldAddr 37 (Operand.tmp 3) 0, type := 0, pos := "l09_key.go:66", after := #[], guard := none },
      { dst := some 10, op := Op.load 27 (Operand.tmp 9), type := 27, pos := "l09_key.go:66", after := #[{ on := 2, ground := Ground.data }], guard := none },
      { dst := some 11, op := Op.call { callee := Callee.value (Operand.func 43), args := #[Operand.tmp 10], argTypes := #[27] }, type := 27, pos := "l09_key.go:66", after := #[{ on := 3, ground := Ground.data }, { on := 1, ground := Ground.chain }], guard := none },
      { dst := some 12, op := Op.fieldAddr 37 (Operand.tmp 3) 1, type := 0, pos := "l09_key.go:66", after := #[], guard := none },
      { dst := some 13, op := Op.load 3 (Operand.tmp 12), type := 3, pos := "l09_key.go:66", after := #[{ on := 5, ground := Ground.data }], guard := none },
      { dst := some 14, op := Op.build 37 #[(0, Operand.tmp 11), (1, Operand.tmp 13)], type := 37, pos := "l09_key.go:66", after := #[{ on := 4, ground := Ground.data }, { on := 6, ground := Ground.data }], guard := none },
      { dst := some 15, op := Op.buildSlice 24 1 #[(0, Operand.tmp 14)], type := 24, pos := "l09_key.go:66", after := #[{ on := 7, ground := Ground.data }], guard := none },
      { dst := some 16, op := Op.call { callee := Callee.builtin Builtin.append, args := #[Operand.tmp 8, Operand.tmp 15], argTypes := #[24, 24] }, type := 24, pos := "l09_key.go:66", after := #[{ on := 1, ground := Ground.data }, { on := 8, ground := Ground.data }, { on := 4, ground := Ground.chain }], guard := none },
      { dst := some 6, op := Op.assign (Operand.tmp 16), type := 24, pos := "l09_key.go:66", after := #[{ on := 9, ground := Ground.data }, { on := 9, ground := Ground.chain }, { on := 0, ground := Ground.phase }, { on := 1, ground := Ground.phase }, { on := 2, ground := Ground.phase }, { on := 3, ground := Ground.phase }, { on := 4, ground := Ground.phase }, { on := 5, ground := Ground.phase }, { on := 6, ground := Ground.phase }, { on := 7, ground := Ground.phase }, { on := 8, ground := Ground.phase }, { on := 9, ground := Ground.phase }], guard := none }] true).wp Tryz.prog Q ⟨#[.slice xl nl cl, v1, v2, .pointer (some ⟨p, 0, none⟩), v4, v5, v6, v7, v8, v9, v10, v11, v12, v13, v14, v15, v16, v17, v18, v19, v20, v21, v22], []⟩ w := by
  have HQ := Lib.hid hQ; clear hQ
  have hdr : Below w.heap.size w w.drew := (Below.refl _ _).drew
  have BB := Lib.hid hdr
  refine wp_region_noPanic ?_
  refine wp_region_held_drew (S := (fun w' => w'.cell? ⟨p, 0, none⟩ = some (.slice xk nk ck) ∧ w'.cell? ⟨p, 1, none⟩ = some (.int .i64 s))) (by kernel_rfl) ?_ (fun hHeld => ?_)
  · exact ⟨kc K0.out BB.out, kc K1.out BB.out⟩
  clear hdr
  generalize w.drew = wd at *
  refine wpAnyH_take (i := 0) (oi := { dst := some 7, op := Op.move (Operand.tmp 0), type := 24, pos := "l09_key.go:66", after := #[], guard := none }) (v := ?_) rfl (by kernel_rfl) (by kernel_rfl) (by kernel_rfl) (fun _ _ _ h => h) (Or.inl ⟨by rfl, ?_⟩) (by assumption) ?_
  rotate_left
  · intro w' hSw; (try dsimp only at hSw); first | (go_simp; done) | (go_simp; with_reducible rfl)
  (try simp only [Act.put, List.setIfInBounds_toArray, List.set_cons_zero, List.set_cons_succ])
  refine wpAnyH_take (i := 2) (oi := { dst := some 9, op := Op.fieldAddr 37 (Operand.tmp 3) 0, type := 0, pos := "l09_key.go:66", after := #[], guard := none }) (v := ?_) rfl (by kernel_rfl) (by kernel_rfl) (by kernel_rfl) (fun _ _ _ h => h) (Or.inl ⟨by rfl, ?_⟩) (by assumption) ?_
  rotate_left
  · intro w' hSw; (try dsimp only at hSw); first | (go_simp; done) | (go_simp; with_reducible rfl)
  (try simp only [Act.put, List.setIfInBounds_toArray, List.set_cons_zero, List.set_cons_succ])
  refine wpAnyH_take (i := 3) (oi := { dst := some 10, op := Op.load 27 (Operand.tmp 9), type := 27, pos := "l09_key.go:66", after := #[{ on := 2, ground := Ground.data }], guard := none }) (v := ?_) rfl (by kernel_rfl) (by kernel_rfl) (by kernel_rfl) (fun _ _ _ h => h) (Or.inl ⟨by rfl, ?_⟩) (by assumption) ?_
  rotate_left
  · intro w' hSw; (try dsimp only at hSw); first | (go_simp; done) | (go_simp; with_reducible rfl)
  (try simp only [Act.put, List.setIfInBounds_toArray, List.set_cons_zero, List.set_cons_succ])
  refine wpAnyH_take (i := 5) (oi := { dst := some 12, op := Op.fieldAddr 37 (Operand.tmp 3) 1, type := 0, pos := "l09_key.go:66", after := #[], guard := none }) (v := ?_) rfl (by kernel_rfl) (by kernel_rfl) (by kernel_rfl) (fun _ _ _ h => h) (Or.inl ⟨by rfl, ?_⟩) (by assumption) ?_
  rotate_left
  · intro w' hSw; (try dsimp only at hSw); first | (go_simp; done) | (go_simp; with_reducible rfl)
  (try simp only [Act.put, List.setIfInBounds_toArray, List.set_cons_zero, List.set_cons_succ])
  refine wpAnyH_take (i := 6) (oi := { dst := some 13, op := Op.load 3 (Operand.tmp 12), type := 3, pos := "l09_key.go:66", after := #[{ on := 5, ground := Ground.data }], guard := none }) (v := ?_) rfl (by kernel_rfl) (by kernel_rfl) (by kernel_rfl) (fun _ _ _ h => h) (Or.inl ⟨by rfl, ?_⟩) (by assumption) ?_
  rotate_left
  · intro w' hSw; (try dsimp only at hSw); first | (go_simp; done) | (go_simp; with_reducible rfl)
  (try simp only [Act.put, List.setIfInBounds_toArray, List.set_cons_zero, List.set_cons_succ])
  refine wpAnyH_ready (rs := [1]) (by kernel_rfl) (by simp) ?_
  refine AllReadyH.cons (o := { dst := some 8, op := Op.call { callee := Callee.value (Operand.func 42), args := #[Operand.tmp 7], argTypes := #[24] }, type := 24, pos := "l09_key.go:66", after := #[{ on := 0, ground := Ground.data }], guard := none }) rfl (fun K hK => ?_) AllReadyH.nil
  go_simp
  refine (l9Copy (.slice xl nl cl) (strip M) _ ⟨M, rfl, HT.out.on BB.out⟩ (Nat.le_trans HLM.out (by decide)) HTS.out).mono ?_
  rintro e wn1 ⟨v8, rfl, ho, hb⟩
  obtain ⟨M8, hM8, ho⟩ := ho
  obtain ⟨x8, n8, c8, rfl, -, -, ho⟩ := ho.shapeN
  (first | have HAP := Lib.hid (show ∀ y ∈ M8, Apart y.v (.slice x11 n11 c11) from fun y hy g h1 h2 => by have h5 := (ho.lt.2 y hy g h1).1; have h6 := (H11.out.lt g h2).2; omega) | skip)
  have H8 := Lib.hid (ho.mono BB.out.size); clear ho
  have E8 := Lib.hid hM8; clear hM8
  have N8 := Lib.hid (show M8.length ≤ 3000000 by rw [← strip_length, E8.out]; exact HLM.out)
  replace BB := Lib.hid (BB.out.trans (hb.mono BB.out.size))
  clear hb
  (try go_wp2_with fail)
  clear hHeld
  refine hK.out _ _ ?_ (fun hHeld => ?_)
  · (try dsimp only); exact ⟨kc K0.out BB.out, kc K1.out BB.out⟩
  clear hK K
  (try simp only [Act.put, List.setIfInBounds_toArray, List.set_cons_zero, List.set_cons_succ])
  refine wpAnyH_ready (rs := [4]) (by kernel_rfl) (by simp) ?_
  refine AllReadyH.cons (o := { dst := some 11, op := Op.call { callee := Callee.value (Operand.func 43), args := #[Operand.tmp 10], argTypes := #[27] }, type := 27, pos := "l09_key.go:66", after := #[{ on := 3, ground := Ground.data }, { on := 1, ground := Ground.chain }], guard := none }) rfl (fun K hK => ?_) AllReadyH.nil
  go_simp
  refine (l4Copy _ lk _ (HK.out.on BB.out) (Nat.le_trans HKL.out (by decide))).mono ?_
  rintro e wn2 ⟨v11, rfl, ho, hb⟩
  obtain ⟨x11, n11, c11, rfl, -, -, ho⟩ := ho.shapeN
  (first | have HAP := Lib.hid (show ∀ y ∈ M8, Apart y.v (.slice x11 n11 c11) from H8.out.fresh (fun g hg => (ho.lt g hg).1)) | skip)
  have H11 := Lib.hid (ho.mono BB.out.size); clear ho
  replace H8 := Lib.hid (H8.out.on hb)
  replace BB := Lib.hid (BB.out.trans (hb.mono BB.out.size))
  clear hb
  (try go_wp2_with fail)
  clear hHeld
  refine hK.out _ _ ?_ (fun hHeld => ?_)
  · (try dsimp only); exact ⟨kc K0.out BB.out, kc K1.out BB.out⟩
  clear hK K
  (try simp only [Act.put, List.setIfInBounds_toArray, List.set_cons_zero, List.set_cons_succ])
  refine wpAnyH_take (i := 7) (oi := { dst := some 14, op := Op.build 37 #[(0, Operand.tmp 11), (1, Operand.tmp 13)], type := 37, pos := "l09_key.go:66", after := #[{ on := 4, ground := Ground.data }, { on := 6, ground := Ground.data }], guard := none }) (v := ?_) rfl (by kernel_rfl) (by kernel_rfl) (by kernel_rfl) (fun _ _ _ h => h) (Or.inl ⟨by rfl, ?_⟩) (by assumption) ?_
  rotate_left
  · intro w' hSw; (try dsimp only at hSw); first | (go_simp; done) | (go_simp; with_reducible rfl)
  (try simp only [Act.put, List.setIfInBounds_toArray, List.set_cons_zero, List.set_cons_succ])
  refine wpAnyH_ready (rs := [8]) (by kernel_rfl) (by simp) ?_
  refine AllReadyH.cons (o := { dst := some 15, op := Op.buildSlice 24 1 #[(0, Operand.tmp 14)], type := 24, pos := "l09_key.go:66", after := #[{ on := 7, ground := Ground.data }], guard := none }) rfl (fun K hK => ?_) AllReadyH.nil
  go_simp
  have hb : Below wn2.heap.size wn2 (wn2.alloc (.cells #[.slice x11 n11 c11, .int .i64 s] 37)) := (Below.refl _ _).alloc (Nat.le_refl _) _
  obtain ⟨b15, hb15⟩ : ∃ b, b = wn2.heap.size := ⟨_, rfl⟩
  have H15 := Lib.hid (one_key (w := wn2) x11 n11 c11 lk s b15 hb15)
  rw [← hb15]
  clear hb15
  replace H8 := Lib.hid (H8.out.on hb)
  replace H11 := Lib.hid (H11.out.on hb)
  replace BB := Lib.hid (BB.out.trans (hb.mono BB.out.size))
  clear hb
  generalize wn2.alloc (.cells #[.slice x11 n11 c11, .int .i64 s] 37) = wn3 at *
  clear hHeld
  refine hK.out _ _ ?_ (fun hHeld => ?_)
  · (try dsimp only); exact ⟨kc K0.out BB.out, kc K1.out BB.out⟩
  clear hK K
  (try simp only [Act.put, List.setIfInBounds_toArray, List.set_cons_zero, List.set_cons_succ])
  refine wpAnyH_ready (rs := [9]) (by kernel_rfl) (by simp) ?_
  refine AllReadyH.cons (o := { dst := some 16, op := Op.call { callee := Callee.builtin Builtin.append, args := #[Operand.tmp 8, Operand.tmp 15], argTypes := #[24, 24] }, type := 24, pos := "l09_key.go:66", after := #[{ on := 1, ground := Ground.data }, { on := 8, ground := Ground.data }, { on := 4, ground := Ground.chain }], guard := none }) rfl (fun K hK => ?_) AllReadyH.nil
  refine step_appK kindE (B := w.heap.size) (v := .slice x8 n8 c8) (l := M8) (m := [(⟨x11, n11, c11, lk, s⟩ : Ent)]) rfl _ _ (by rfl) Tryz.underlying24 (by rfl) (by rfl) ?_ ?_ ?_ ?_ ?_ ?_
  · with_reducible exact H8.out.rowK
  · with_reducible exact H15.out
  · have h5 := N8.out; simp; omega
  · have h5 := N8.out; unfold maxLen; simp; omega
  · exact BB.out.size
  intro v16 wn4 ho hg
  obtain ⟨x16, n16, c16, rfl, -, -, ho⟩ := ho.shapeN
  have H16 := Lib.hid (H8.out.push (x := (⟨x11, n11, c11, lk, s⟩ : Ent)) H11.out HAP.out ho hg)
  replace BB := Lib.hid (BB.out.grown hg BB.out.size (fun g e => (H8.out.lt.1 g e).1))
  clear ho hg H8 H11 H15
  clear hHeld
  refine hK.out _ _ ?_ (fun hHeld => ?_)
  · (try dsimp only); exact ⟨kc K0.out BB.out, kc K1.out BB.out⟩
  clear hK K
  (try simp only [Act.put, List.setIfInBounds_toArray, List.set_cons_zero, List.set_cons_succ])
  refine wpAnyH_take (i := 10) (oi := { dst := some 6, op := Op.assign (Operand.tmp 16), type := 24, pos := "l09_key.go:66", after := #[{ on := 9, ground := Ground.data }, { on := 9, ground := Ground.chain }, { on := 0, ground := Ground.phase }, { on := 1, ground := Ground.phase }, { on := 2, ground := Ground.phase }, { on := 3, ground := Ground.phase }, { on := 4, ground := Ground.phase }, { on := 5, ground := Ground.phase }, { on := 6, ground := Ground.phase }, { on := 7, ground := Ground.phase }, { on := 8, ground := Ground.phase }, { on := 9, ground := Ground.phase }], guard := none }) (v := ?_) rfl (by kernel_rfl) (by kernel_rfl) (by kernel_rfl) (fun _ _ _ h => h) (Or.inl ⟨by rfl, ?_⟩) (by assumption) ?_
  rotate_left
  · intro w' hSw; (try dsimp only at hSw); first | (go_simp; done) | (go_simp; with_reducible rfl)
  (try simp only [Act.put, List.setIfInBounds_toArray, List.set_cons_zero, List.set_cons_succ])
  refine wpAnyH_done (by kernel_rfl) ?_ _
  exact NoPanic.normal (HQ.out _ _ _ _ _ _ _ _ _ _ _ _ _ _ ⟨_, by rw [strip_append, E8.out]; rfl, H16.out⟩ BB.out)

set_option maxHeartbeats 8000000 in
theorem specAddKey (v u : Value) (T : List (List ByteArray × Int)) (l : List ByteArray) (s : Int) (w : World) (h : TabHolds w v T) (g : Holds Value.string w u l) (hl : T.length ≤ 3000000) (hT : smT T) (hbl : bulk l ≤ 9000000) :
    Calls Tryz.prog 11 #[v, .agg #[u, .int .i64 s]] w (GivesKB w (addK T (l, s)) (validK (T ++ [(l, s)]))) := by
  obtain ⟨L, rfl, h⟩ := h
  obtain ⟨y, n, cy, rfl, hn, hcy, hh⟩ := h.shapeN
  obtain ⟨x, q, cx, rfl, hq, hcx, hg⟩ := g.shapeN
  obtain ⟨z, hz⟩ : ∃ z, validK (strip L ++ [(l, s)]) = z := ⟨_, rfl⟩
  have HZ := Lib.hid hz
  rw [hz]
  have hb0 := (Below.refl w.heap.size w).alloc (Nat.le_refl _) (.cells #[.slice x q cx, .int .i64 s] 37)
  have HB := Lib.hid hb0
  have HX := Lib.hid (Ret.Blk.new w #[.slice x q cx, .int .i64 s] 37)
  have HH := Lib.hid hh; have HH0 := Lib.hid (hh.on hb0); have HG0 := Lib.hid (hg.on hb0); have HT := Lib.hid hT; have HL := Lib.hid hl
  have HKL := Lib.hid (Nat.le_trans (bulk_len l) hbl)
  have HTX := Lib.hid (smT_snoc (x := (l, s)) hT hbl)
  have HLX := Lib.hid (show (strip L ++ [(l, s)]).length ≤ 4000000 by rw [List.length_append]; simp; omega)
  clear hz hb0 hn hh h hq hg g hT hl hbl hcy hcx
  go_enter Tryz.func11, Tryz.ntmps11
  go_wp2_with fail
  refine addR1 HH0 HG0 HL HT HKL (Lib.hid (HX.out.cell 0)) (Lib.hid (HX.out.cell 1)) ?_
  intro u7 u8 u9 u10 u11 u12 u13 u14 u15 u16 x2 n2 c2 w2 ho2 hb2
  have HB2 := Lib.hid (HB.out.trans (hb2.mono HB.out.size))
  have HO2 := Lib.hid (ho2.mono HB.out.size)
  clear ho2 hb2 HX
  go_wp2_with fail
  refine (specValidKeys _ _ w2 HO2.out.holds HLX.out HTX.out).mono ?_
  rintro e w3 ⟨rfl, hb3⟩
  rw [HZ.out]
  have HB3 := Lib.hid (HB2.out.trans (hb3.mono HB2.out.size))
  have HO3 := Lib.hid (HO2.out.on hb3)
  clear hb3 HO2
  cases z with
  | true =>
    have HA := Lib.hid (show addK (strip L) (l, s) = strip L ++ [(l, s)] by unfold addK; rw [HZ.out]; rfl)
    go_wp2_with fail
    go_ret2
    exact ⟨_, rfl, by rw [HA.out]; exact HO3.out, HB3.out⟩
  | false =>
    have HA := Lib.hid (show addK (strip L) (l, s) = strip L by unfold addK; rw [HZ.out]; rfl)
    go_wp2_with fail
    refine (l9Copy _ (strip L) w3 ⟨L, rfl, HH.out.on HB3.out⟩ (Nat.le_trans HL.out (by decide)) HT.out).mono ?_
    rintro e w4 ⟨v4, rfl, ho4, hb4⟩
    have HB4 := Lib.hid (HB3.out.trans (hb4.mono HB3.out.size))
    have HO4 := Lib.hid (ho4.mono HB3.out.size)
    clear ho4 hb4
    go_wp2_with fail
    go_ret2
    exact ⟨v4, rfl, by rw [HA.out]; exact HO4.out, HB4.out⟩

/-! ### SignWithKey -/
end Go.Proofs.YtnblopilgfdjkaaGreat.Row.Ring
namespace Go.Proofs.YtnblopilgfdjkaaGreat.Row
open Go.ChangeShapes Go.WideShapes Go.ChangeAt Go.RowKit Go.Instr
set_option linter.unusedVariables false
set_option maxRecDepth 100000
theorem own_ne9 {α : Type} [Inhabited α] {enc : α → Value} {e t : TypeId} {B g : Nat} {w : World} {v : Value} {l : List α} {cs : Array Value} (h : Row.Own e enc B w v l) (hb : Ret.Blk w g cs t) (hne : e ≠ t) : v.ownBlock = none ∨ v.ownBlock ≠ some g := by
  rcases h.2 with ⟨rfl, -⟩ | ⟨g2, cap, cur, rfl, -, hh, -⟩
  · exact Or.inl rfl
  · refine Or.inr fun e1 => ?_
    have e2 : g2 = g := by simpa [Value.ownBlock] using e1
    rw [e2, show w.heap[g]? = some (.cells cs t) from hb] at hh
    cases hh
    exact hne rfl
theorem own_setT9 {α : Type} [Inhabited α] {enc : α → Value} {e t : TypeId} {B g i : Nat} {w : World} {v u : Value} {l : List α} {cs : Array Value} (h : Row.Own e enc B w v l) (hb : Ret.Blk w g cs t) (hne : e ≠ t) : Row.Own e enc B (w.setCell ⟨g, i, none⟩ u) v l := h.grown (Ret.grownBy_set w ⟨g, i, none⟩ u) (own_ne9 h hb hne)
theorem DOwn.setT {B g i : Nat} {w : World} {a b c u : Value} {x : Dt} {cs : Array Value} (h : DOwn B w a b c x) (hb : Ret.Blk w g cs 31) : DOwn B (w.setCell ⟨g, i, none⟩ u) a b c x := ⟨own_setT9 h.1 hb (by decide), own_setT9 (enc := Value.int .u8) h.2.1 hb (by decide), own_setT9 h.2.2.1 hb (by decide), h.2.2.2⟩
theorem DOwn.five {B g : Nat} {w : World} {a b c a1 b1 c1 : Value} {f s : Int} {x : Dt} {cs : Array Value} (h : DOwn B w a1 b1 c1 x) (hb : Ret.Blk w g cs 31) : DOwn B (((((((w).setCell ⟨g, 0, none⟩ (a)).setCell ⟨g, 1, none⟩ (b)).setCell ⟨g, 2, none⟩ (c)).setCell ⟨g, 3, none⟩ (.int .i64 f)).setCell ⟨g, 4, none⟩ (.int .i64 s))) a1 b1 c1 x := ((((h.setT hb).setT (hb.set 0 a)).setT ((hb.set 0 a).set 1 b)).setT (((hb.set 0 a).set 1 b).set 2 c)).setT ((((hb.set 0 a).set 1 b).set 2 c).set 3 (.int .i64 f))
theorem DOwn.mono {B B' : Nat} {w : World} {a b c : Value} {x : Dt} (h : DOwn B w a b c x) (hB : B' ≤ B) : DOwn B' w a b c x := ⟨h.1.mono hB, Sl.Own.mono h.2.1 hB, h.2.2.1.mono hB, h.2.2.2⟩
end Go.Proofs.YtnblopilgfdjkaaGreat.Row
namespace Go.Proofs.YtnblopilgfdjkaaGreat.Row.Ring
open Go.ChangeShapes Go.WideShapes Go.ChangeAt Go.RowKit Go.Instr
set_option linter.unusedVariables false
set_option maxRecDepth 100000
theorem blk_five {g : Nat} {w : World} {a b c a0 b0 c0 : Value} {f s f0 s0 : Int} (hb : Ret.Blk w g (dc a0 b0 c0 f0 s0) 31) : Ret.Blk (((((((w).setCell ⟨g, 0, none⟩ (a)).setCell ⟨g, 1, none⟩ (b)).setCell ⟨g, 2, none⟩ (c)).setCell ⟨g, 3, none⟩ (.int .i64 f)).setCell ⟨g, 4, none⟩ (.int .i64 s))) g (dc a b c f s) 31 := ((((hb.set 0 a).set 1 b).set 2 c).set 3 (.int .i64 f)).set 4 (.int .i64 s)
theorem below_five {X g : Nat} {w0 w : World} {a b c : Value} {f s : Int} (h : Below X w0 w) (hX : X ≤ g) : Below X w0 (((((((w).setCell ⟨g, 0, none⟩ (a)).setCell ⟨g, 1, none⟩ (b)).setCell ⟨g, 2, none⟩ (c)).setCell ⟨g, 3, none⟩ (.int .i64 f)).setCell ⟨g, 4, none⟩ (.int .i64 s))) := by
  have st : ∀ {w1 : World} (i : Nat) (u : Value), Below X w0 w1 → Below X w0 (w1.setCell ⟨g, i, none⟩ u) := fun {w1} i u h1 => h1.trans ⟨rfl, rfl, rfl, by simp [World.setCell], fun k hk => Go.RowKit.Below.heap_setCell _ _ _ _ (by simp; omega)⟩
  exact st 4 _ (st 3 _ (st 2 _ (st 1 _ (st 0 _ h))))
theorem box_five {g p : Nat} {w : World} {a b c u : Value} {f s : Int} {t : TypeId} (h : Ret.Box w p u t) (hne : p ≠ g) : Ret.Box (((((((w).setCell ⟨g, 0, none⟩ (a)).setCell ⟨g, 1, none⟩ (b)).setCell ⟨g, 2, none⟩ (c)).setCell ⟨g, 3, none⟩ (.int .i64 f)).setCell ⟨g, 4, none⟩ (.int .i64 s))) p u t := by
  have st : ∀ {w1 : World} (i : Nat) (y : Value), Ret.Box w1 p u t → Ret.Box (w1.setCell ⟨g, i, none⟩ y) p u t := fun {w1} i y h1 => h1.grown (Ret.grownBy_set w1 ⟨g, i, none⟩ y) (by simpa using hne)
  exact st 4 _ (st 3 _ (st 2 _ (st 1 _ (st 0 _ h))))
theorem blk_five_other {g p : Nat} {w : World} {a b c : Value} {f s : Int} {cs : Array Value} {t : TypeId} (h : Ret.Blk w p cs t) (hne : p ≠ g) : Ret.Blk (((((((w).setCell ⟨g, 0, none⟩ (a)).setCell ⟨g, 1, none⟩ (b)).setCell ⟨g, 2, none⟩ (c)).setCell ⟨g, 3, none⟩ (.int .i64 f)).setCell ⟨g, 4, none⟩ (.int .i64 s))) p cs t :=
  ((((h.other (a := ⟨g, 0, none⟩) (Ne.symm hne) a).other (a := ⟨g, 1, none⟩) (Ne.symm hne) b).other (a := ⟨g, 2, none⟩) (Ne.symm hne) c).other (a := ⟨g, 3, none⟩) (Ne.symm hne) (.int .i64 f)).other (a := ⟨g, 4, none⟩) (Ne.symm hne) (.int .i64 s)
theorem cell_five {g p i : Nat} {w : World} {a b c u : Value} {f s : Int} (h : w.cell? ⟨p, i, none⟩ = some u) (hne : p ≠ g) : (((((((w).setCell ⟨g, 0, none⟩ (a)).setCell ⟨g, 1, none⟩ (b)).setCell ⟨g, 2, none⟩ (c)).setCell ⟨g, 3, none⟩ (.int .i64 f)).setCell ⟨g, 4, none⟩ (.int .i64 s))).cell? ⟨p, i, none⟩ = some u := by
  have st : ∀ {w1 : World} (j : Nat) (y : Value), w1.cell? ⟨p, i, none⟩ = some u → (w1.setCell ⟨g, j, none⟩ y).cell? ⟨p, i, none⟩ = some u := fun {w1} j y h1 => (Ret.grownBy_set w1 ⟨g, j, none⟩ y).cell h1 (by simpa using hne)
  exact st 4 _ (st 3 _ (st 2 _ (st 1 _ (st 0 _ h))))
theorem cells5 {W : World} {g : Nat} {a b c : Value} {f s : Int} {t : TypeId} (h : Ret.Blk W g (dc a b c f s) t) : W.cell? ⟨g, 0, none⟩ = some a ∧ W.cell? ⟨g, 1, none⟩ = some b ∧ W.cell? ⟨g, 2, none⟩ = some c ∧ W.cell? ⟨g, 3, none⟩ = some (.int .i64 f) ∧ W.cell? ⟨g, 4, none⟩ = some (.int .i64 s) := ⟨h.cell 0, h.cell 1, h.cell 2, h.cell 3, h.cell 4⟩
theorem froz5 {W : World} {g : Nat} {cs : Array Value} {t : TypeId} (h : Ret.Blk W g cs t) : W.frozen? ⟨g, 0, none⟩ = false ∧ W.frozen? ⟨g, 1, none⟩ = false ∧ W.frozen? ⟨g, 2, none⟩ = false ∧ W.frozen? ⟨g, 3, none⟩ = false ∧ W.frozen? ⟨g, 4, none⟩ = false := ⟨h.frozen 0, h.frozen 1, h.frozen 2, h.frozen 3, h.frozen 4⟩
theorem dOwn_zero (B : Nat) (w : World) : DOwn B w nil nil nil ([], [], [], 0, 0) := ⟨Own.nil _ _ _ _, Own.nil _ (Value.int .u8) _ _, Own.nil _ _ _ _, (fun g h => by cases h), (fun g h => by cases h), (fun g h => by cases h)⟩
def zD : Dt := ([], [], [], 0, 0)
/-- What SignWithKey signs. -/
def sgX (T : List (List ByteArray × Int)) (key n : List ByteArray) (b : List Int) (u : Int) : Dt := sgD (lkN T key) (n, b, key, u, 0)
def sgOk (T : List (List ByteArray × Int)) (key n : List ByteArray) (b : List Int) (u : Int) : Bool := !(lkN T key == 0) && validD (sgX T key n b u)
def sgK (T : List (List ByteArray × Int)) (key n : List ByteArray) (b : List Int) (u : Int) : Dt := if sgOk T key n b u then sgX T key n b u else zD
theorem secV {v u : Value} {T : List (List ByteArray × Int)} {m : List ByteArray} {w : World} (r : Int) (hr : lkN T m = r) (h : TabHolds w v T) (g : Holds Value.string w u m) (hl : T.length ≤ 4000000) (hT : smT T) (hm : bulk m ≤ 9000000) :
    Calls Tryz.prog 21 #[v, .agg #[u]] w fun e w' => e = .returned (.int .i64 r) ∧ Below w.heap.size w w' := hr ▸ specSecretOf v u T m w h g hl hT hm
theorem isecV {v u : Value} {T : List (List ByteArray × Int)} {m : List ByteArray} {w : World} (r : Int) (hr : lkN T m = r) (h : TabHolds w v T) (g : Holds Value.string w u m) (hl : T.length ≤ 4000000) (hT : smT T) (hm : bulk m ≤ 9000000) :
    Calls Tryz.prog 20 #[v, .agg #[u]] w fun e w' => e = .returned (.int .i64 r) ∧ Below w.heap.size w w' := hr ▸ implSecretOf v u T m w h g hl hT hm
/-- A signed packet: its cells in letters. -/
def GivesX (w : World) (ln : List ByteArray) (lb : List Int) (lk : List ByteArray) (u M : Int) (e : Ending) (w' : World) : Prop :=
  ∃ xa na ca xb nb cb xc nc cc, e = .returned (.agg #[.slice xa na ca, .slice xb nb cb, .slice xc nc cc, .int .i64 u, .int .i64 M]) ∧ DOwn w.heap.size w' (.slice xa na ca) (.slice xb nb cb) (.slice xc nc cc) (ln, lb, lk, u, M) ∧ Below w.heap.size w w'
theorem specSignV {a b c : Value} {ln lk : List ByteArray} {lb : List Int} {u r : Int} {w : World} (M : Int) (hM : Seal.mac r (portD (ln, lb, lk, u, 0)) = M) (h : DHold w a b c (ln, lb, lk, u, 0)) (hB : Sl.Byt lb) (hl : smD (ln, lb, lk, u, 0)) :
    Calls Tryz.prog 37 #[.int .i64 r, .agg #[a, b, c, .int .i64 u, .int .i64 0]] w (GivesX w ln lb lk u M) := by
  refine (specSignData a b c (ln, lb, lk, u, 0) r w h hB hl).mono ?_
  rintro e w' ⟨a1, b1, c1, rfl, hd, hb⟩
  obtain ⟨xa, na, ca, xb, nb, cb, xc, nc, cc, rfl, rfl, rfl⟩ := hd.hold.shape
  have e1 : sgD r (ln, lb, lk, u, 0) = (ln, lb, lk, u, M) := by unfold sgD; rw [hM]
  rw [e1] at hd ⊢
  exact ⟨_, _, _, _, _, _, _, _, _, rfl, hd, hb⟩
theorem implSignV {a b c : Value} {ln lk : List ByteArray} {lb : List Int} {u r : Int} {w : World} (M : Int) (hM : Seal.mac r (portD (ln, lb, lk, u, 0)) = M) (h : DHold w a b c (ln, lb, lk, u, 0)) (hB : Sl.Byt lb) (hl : smD (ln, lb, lk, u, 0)) :
    Calls Tryz.prog 36 #[.int .i64 r, .agg #[a, b, c, .int .i64 u, .int .i64 0]] w (GivesX w ln lb lk u M) := by
  refine (implSignData a b c (ln, lb, lk, u, 0) r w h hB hl).mono ?_
  rintro e w' ⟨a1, b1, c1, rfl, hd, hb⟩
  obtain ⟨xa, na, ca, xb, nb, cb, xc, nc, cc, rfl, rfl, rfl⟩ := hd.hold.shape
  have e1 : sgD r (ln, lb, lk, u, 0) = (ln, lb, lk, u, M) := by unfold sgD; rw [hM]
  rw [e1] at hd ⊢
  exact ⟨_, _, _, _, _, _, _, _, _, rfl, hd, hb⟩

set_option maxRecDepth 100000 in
set_option maxHeartbeats 4000000 in
theorem signR1 {Q : Exit → Act → World → Prop} {v1 v2 v5 v8 v9 v10 v11 v12 v13 v14 v15 v16 v17 v18 v19 v20 v21 v22 v23 v24 v25 v26 v27 v28 v29 v30 v31 v32 : Value} {w : World} {p q nl cl nk ck nn cn nb cb : Nat} {xl xk xn xb : Option Addr} {u r M : Int} {ML : List Ent} {lk ln : List ByteArray} {lb : List Int} (HT : Hid (TabH w (.slice xl nl cl) ML)) (HK : Hid (Holds Value.string w (.slice xk nk ck) lk)) (HN : Hid (Holds Value.string w (.slice xn nn cn) ln)) (HB : Hid (Sl.Holds .u8 w (.slice xb nb cb) lb)) (HLM : Hid ((strip ML).length ≤ 4000000)) (HTS : Hid (smT (strip ML))) (HKB : Hid (bulk lk ≤ 9000000)) (HBY : Hid (Sl.Byt lb)) (HSM : Hid (smD (ln, lb, lk, u, 0))) (HR : Hid (lkN (strip ML) lk = r)) (HM : Hid (Seal.mac r (portD (ln, lb, lk, u, 0)) = M)) (KK : Hid (w.cell? ⟨p, 0, none⟩ = some (.slice xk nk ck))) (KN : Hid (w.cell? ⟨q, 0, none⟩ = some (.slice xn nn cn)))
    (hQ : ∀ (u13 u14 u15 u16 u17 u18 u19 u20 u21 : Value) (gD ma da mb db mc dc_ : Nat) (ya yb yc : Option Addr)  (wx : World), w.heap.size ≤ gD → Ret.Blk wx gD (dc (.slice none 0 0) (.slice none 0 0) (.slice none 0 0) 0 0) 31 → DOwn w.heap.size wx (.slice ya ma da) (.slice yb mb db) (.slice yc mc dc_) (ln, lb, lk, u, M) → Below w.heap.size w wx → Q .normal ⟨#[.slice xl nl cl, v1, v2, .slice xb nb cb, .int .i64 u, v5, .pointer (some ⟨p, 0, none⟩), .pointer (some ⟨q, 0, none⟩), v8, v9, v10, v11, .pointer (some ⟨gD, 0, none⟩), u13, u14, u15, u16, u17, u18, u19, u20, u21, v22, v23, v24, v25, v26, v27, v28, v29, v30, v31, v32], []⟩ ((((((wx).setCell ⟨gD, 0, none⟩ (.slice ya ma da)).setCell ⟨gD, 1, none⟩ (.slice yb mb db)).setCell ⟨gD, 2, none⟩ (.slice yc mc dc_)).setCell ⟨gD, 3, none⟩ (.int .i64 u)).setCell ⟨gD, 4, none⟩ (.int .i64 M))) :
    (Code.region 1 #[{ dst := some 13, op := Op.move (Operand.tmp 0), type := 24, pos := "l09_key.go:37", after := #[], guard := none },
      { dst := some 14, op := Op.load 27 (Operand.tmp 6), type := 27, pos := "l09_key.go:37", after := #[], guard := none },
      { dst := some 15, op := Op.call { callee := Callee.value (Operand.func 21), args := #[Operand.tmp 13, Operand.tmp 14], argTypes := #[24, 27] }, type := 3, pos := "l09_key.go:37", after := #[{ on := 0, ground := Ground.data }, { on := 1, ground := Ground.data }], guard := none },
      { dst := some 16, op := Op.load 27 (Operand.tmp 7), type := 27, pos := "l09_key.go:37", after := #[], guard := none },
      { dst := some 17, op := Op.move (Operand.tmp 3), type := 22, pos := "l09_key.go:37", after := #[], guard := none },
      { dst := some 18, op := Op.load 27 (Operand.tmp 6), type := 27, pos := "l09_key.go:37", after := #[], guard := none },
      { dst := some 19, op := Op.move (Operand.tmp 4), type := 3, pos := "l09_key.go:37", after := #[], guard := none },
      { dst := some 20, op := Op.build 31 #[(0, Operand.tmp 16), (1, Operand.tmp 17), (2, Operand.tmp 18), (3, Operand.tmp 19)], type := 31, pos := "l09_key.go:37", after := #[{ on := 3, ground := Ground.data }, { on := 4, ground := Ground.data }, { on := 5, ground := Ground.data }, { on := 6, ground := Ground.data }], guard := none },
      { dst := some 21, op := Op.call { callee := Callee.value (Operand.func 37), args := #[Operand.tmp 15, Operand.tmp 20], argTypes := #[3, 31] }, type := 31, pos := "l09_key.go:37", after := #[{ on := 2, ground := Ground.data }, { on := 7, ground := Ground.data }, { on := 2, ground := Ground.chain }], guard := none },
      { dst := some 12, op := Op.alloc 31, type := 0, pos := "l09_key.go:37", after := #[], guard := none },
      { dst := none, op := Op.store 31 (Operand.tmp 12) (Operand.tmp 21), type := 0, pos := "l09_key.go:37", after := #[{ on := 9, ground := Ground.data }, { on := 8, ground := Ground.data }, { on := 8, ground := Ground.chain }, { on := 0, ground := Ground.phase }, { on := 1, ground := Ground.phase }, { on := 2, ground := Ground.phase }, { on := 3, ground := Ground.phase }, { on := 4, ground := Ground.phase }, { on := 5, ground := Ground.phase }, { on := 6, ground := Ground.phase }, { on := 7, ground := Ground.phase }, { on := 8, ground := Ground.phase }, { on := 9, ground := Ground.phase }], guard := none }] true).wp Tryz.prog Q ⟨#[.slice xl nl cl, v1, v2, .slice xb nb cb, .int .i64 u, v5, .pointer (some ⟨p, 0, none⟩), .pointer (some ⟨q, 0, none⟩), v8, v9, v10, v11, v12, v13, v14, v15, v16, v17, v18, v19, v20, v21, v22, v23, v24, v25, v26, v27, v28, v29, v30, v31, v32], []⟩ w := by
  have HQ := Lib.hid hQ; clear hQ
  have hdr : Below w.heap.size w w.drew := (Below.refl _ _).drew
  have BB := Lib.hid hdr
  refine wp_region_noPanic ?_
  refine wp_region_held_drew (S := (fun w' => w'.cell? ⟨p, 0, none⟩ = some (.slice xk nk ck) ∧ w'.cell? ⟨q, 0, none⟩ = some (.slice xn nn cn))) (by kernel_rfl) ?_ (fun hHeld => ?_)
  · exact ⟨kc KK.out BB.out, kc KN.out BB.out⟩
  clear hdr
  generalize w.drew = wd at *
  refine wpAnyH_take (i := 0) (oi := { dst := some 13, op := Op.move (Operand.tmp 0), type := 24, pos := "l09_key.go:37", after := #[], guard := none }) (v := ?_) rfl (by kernel_rfl) (by kernel_rfl) (by kernel_rfl) (fun _ _ _ h => h) (Or.inl ⟨by rfl, ?_⟩) (by assumption) ?_
  rotate_left
  · intro w' hSw; (try dsimp only at hSw); first | (go_simp; done) | (go_simp; with_reducible rfl)
  (try simp only [Act.put, List.setIfInBounds_toArray, List.set_cons_zero, List.set_cons_succ])
  refine wpAnyH_take (i := 1) (oi := { dst := some 14, op := Op.load 27 (Operand.tmp 6), type := 27, pos := "l09_key.go:37", after := #[], guard := none }) (v := ?_) rfl (by kernel_rfl) (by kernel_rfl) (by kernel_rfl) (fun _ _ _ h => h) (Or.inl ⟨by rfl, ?_⟩) (by assumption) ?_
  rotate_left
  · intro w' hSw; (try dsimp only at hSw); first | (go_simp; done) | (go_simp; with_reducible rfl)
  (try simp only [Act.put, List.setIfInBounds_toArray, List.set_cons_zero, List.set_cons_succ])
  refine wpAnyH_take (i := 3) (oi := { dst := some 16, op := Op.load 27 (Operand.tmp 7), type := 27, pos := "l09_key.go:37", after := #[], guard := none }) (v := ?_) rfl (by kernel_rfl) (by kernel_rfl) (by kernel_rfl) (fun _ _ _ h => h) (Or.inl ⟨by rfl, ?_⟩) (by assumption) ?_
  rotate_left
  · intro w' hSw; (try dsimp only at hSw); first | (go_simp; done) | (go_simp; with_reducible rfl)
  (try simp only [Act.put, List.setIfInBounds_toArray, List.set_cons_zero, List.set_cons_succ])
  refine wpAnyH_take (i := 4) (oi := { dst := some 17, op := Op.move (Operand.tmp 3), type := 22, pos := "l09_key.go:37", after := #[], guard := none }) (v := ?_) rfl (by kernel_rfl) (by kernel_rfl) (by kernel_rfl) (fun _ _ _ h => h) (Or.inl ⟨by rfl, ?_⟩) (by assumption) ?_
  rotate_left
  · intro w' hSw; (try dsimp only at hSw); first | (go_simp; done) | (go_simp; with_reducible rfl)
  (try simp only [Act.put, List.setIfInBounds_toArray, List.set_cons_zero, List.set_cons_succ])
  refine wpAnyH_take (i := 5) (oi := { dst := some 18, op := Op.load 27 (Operand.tmp 6), type := 27, pos := "l09_key.go:37", after := #[], guard := none }) (v := ?_) rfl (by kernel_rfl) (by kernel_rfl) (by kernel_rfl) (fun _ _ _ h => h) (Or.inl ⟨by rfl, ?_⟩) (by assumption) ?_
  rotate_left
  · intro w' hSw; (try dsimp only at hSw); first | (go_simp; done) | (go_simp; with_reducible rfl)
  (try simp only [Act.put, List.setIfInBounds_toArray, List.set_cons_zero, List.set_cons_succ])
  refine wpAnyH_take (i := 6) (oi := { dst := some 19, op := Op.move (Operand.tmp 4), type := 3, pos := "l09_key.go:37", after := #[], guard := none }) (v := ?_) rfl (by kernel_rfl) (by kernel_rfl) (by kernel_rfl) (fun _ _ _ h => h) (Or.inl ⟨by rfl, ?_⟩) (by assumption) ?_
  rotate_left
  · intro w' hSw; (try dsimp only at hSw); first | (go_simp; done) | (go_simp; with_reducible rfl)
  (try simp only [Act.put, List.setIfInBounds_toArray, List.set_cons_zero, List.set_cons_succ])
  refine wpAnyH_take (i := 7) (oi := { dst := some 20, op := Op.build 31 #[(0, Operand.tmp 16), (1, Operand.tmp 17), (2, Operand.tmp 18), (3, Operand.tmp 19)], type := 31, pos := "l09_key.go:37", after := #[{ on := 3, ground := Ground.data }, { on := 4, ground := Ground.data }, { on := 5, ground := Ground.data }, { on := 6, ground := Ground.data }], guard := none }) (v := ?_) rfl (by kernel_rfl) (by kernel_rfl) (by kernel_rfl) (fun _ _ _ h => h) (Or.inl ⟨by rfl, ?_⟩) (by assumption) ?_
  rotate_left
  · intro w' hSw; (try dsimp only at hSw); first | (go_simp; done) | (go_simp; with_reducible rfl)
  (try simp only [Act.put, List.setIfInBounds_toArray, List.set_cons_zero, List.set_cons_succ])
  refine wpAnyH_ready (rs := [2, 9]) (by kernel_rfl) (by simp) ?_
  refine AllReadyH.cons (o := { dst := some 15, op := Op.call { callee := Callee.value (Operand.func 21), args := #[Operand.tmp 13, Operand.tmp 14], argTypes := #[24, 27] }, type := 3, pos := "l09_key.go:37", after := #[{ on := 0, ground := Ground.data }, { on := 1, ground := Ground.data }], guard := none }) rfl (fun K hK => ?_) ?_
  ·
    go_simp
    refine (secV r HR.out ⟨ML, rfl, HT.out.on BB.out⟩ (HK.out.on BB.out) HLM.out HTS.out HKB.out).mono ?_
    rintro e wn1 ⟨rfl, hb⟩
    replace BB := Lib.hid (BB.out.trans (hb.mono BB.out.size))
    clear hb
    (try go_wp2_with fail)
    clear hHeld
    refine hK.out _ _ ?_ (fun hHeld => ?_)
    · (try dsimp only); exact ⟨kc KK.out BB.out, kc KN.out BB.out⟩
    clear hK K
    (try simp only [Act.put, List.setIfInBounds_toArray, List.set_cons_zero, List.set_cons_succ])
    refine wpAnyH_ready (rs := [8, 9]) (by kernel_rfl) (by simp) ?_
    refine AllReadyH.cons (o := { dst := some 21, op := Op.call { callee := Callee.value (Operand.func 37), args := #[Operand.tmp 15, Operand.tmp 20], argTypes := #[3, 31] }, type := 31, pos := "l09_key.go:37", after := #[{ on := 2, ground := Ground.data }, { on := 7, ground := Ground.data }, { on := 2, ground := Ground.chain }], guard := none }) rfl (fun K hK => ?_) ?_
    ·
      go_simp
      refine (specSignV M HM.out ⟨HN.out.on BB.out, HB.out.on BB.out, HK.out.on BB.out⟩ HBY.out HSM.out).mono ?_
      rintro e wn2 ⟨ya, ma, da, yb, mb, db, yc, mc, dc_, rfl, hd, hb⟩
      have HD := Lib.hid (hd.mono BB.out.size); clear hd
      replace BB := Lib.hid (BB.out.trans (hb.mono BB.out.size))
      clear hb
      (try go_wp2_with fail)
      clear hHeld
      refine hK.out _ _ ?_ (fun hHeld => ?_)
      · (try dsimp only); exact ⟨kc KK.out BB.out, kc KN.out BB.out⟩
      clear hK K
      (try simp only [Act.put, List.setIfInBounds_toArray, List.set_cons_zero, List.set_cons_succ])
      refine wpAnyH_ready (rs := [9]) (by kernel_rfl) (by simp) ?_
      refine AllReadyH.cons (o := { dst := some 12, op := Op.alloc 31, type := 0, pos := "l09_key.go:37", after := #[], guard := none }) rfl (fun K hK => ?_) AllReadyH.nil
      go_simp
      have hb : Below wn2.heap.size wn2 (wn2.alloc (.cells #[.slice none 0 0, .slice none 0 0, .slice none 0 0, .int .i64 0, .int .i64 0] 31)) := (Below.refl _ _).alloc (Nat.le_refl _) _
      obtain ⟨gD, hgD⟩ : ∃ g, g = wn2.heap.size := ⟨_, rfl⟩
      have XD := Lib.hid (show Ret.Blk (wn2.alloc (.cells #[.slice none 0 0, .slice none 0 0, .slice none 0 0, .int .i64 0, .int .i64 0] 31)) gD (dc (.slice none 0 0) (.slice none 0 0) (.slice none 0 0) 0 0) 31 from by rw [hgD]; exact Ret.Blk.new wn2 _ _)
      have HDW := Lib.hid (show w.heap.size ≤ gD from by rw [hgD]; exact BB.out.size)
      rw [← hgD]
      clear hgD
      replace HD := Lib.hid (HD.out.on hb)
      replace BB := Lib.hid (BB.out.trans (hb.mono BB.out.size))
      clear hb
      generalize wn2.alloc (.cells #[.slice none 0 0, .slice none 0 0, .slice none 0 0, .int .i64 0, .int .i64 0] 31) = wn3 at *
      clear hHeld
      refine hK.out _ _ ?_ (fun hHeld => ?_)
      · (try dsimp only); exact ⟨kc KK.out BB.out, kc KN.out BB.out⟩
      clear hK K
      (try simp only [Act.put, List.setIfInBounds_toArray, List.set_cons_zero, List.set_cons_succ])
      refine wpAnyH_ready (rs := [10]) (by kernel_rfl) (by simp) ?_
      refine AllReadyH.cons (o := { dst := none, op := Op.store 31 (Operand.tmp 12) (Operand.tmp 21), type := 0, pos := "l09_key.go:37", after := #[{ on := 9, ground := Ground.data }, { on := 8, ground := Ground.data }, { on := 8, ground := Ground.chain }, { on := 0, ground := Ground.phase }, { on := 1, ground := Ground.phase }, { on := 2, ground := Ground.phase }, { on := 3, ground := Ground.phase }, { on := 4, ground := Ground.phase }, { on := 5, ground := Ground.phase }, { on := 6, ground := Ground.phase }, { on := 7, ground := Ground.phase }, { on := 8, ground := Ground.phase }, { on := 9, ground := Ground.phase }], guard := none }) rfl (fun K hK => ?_) AllReadyH.nil
      obtain ⟨r0, r1, r2, r3, r4⟩ := cells5 XD.out
      obtain ⟨t0, t1, t2, t3, t4⟩ := froz5 XD.out
      go_simp
      clear hHeld
      refine hK.out _ _ ?_ (fun hHeld => ?_)
      · (try dsimp only); exact ⟨cell_five (kc KK.out BB.out) (by have h1 : p < w.heap.size := cell_lt KK.out; have h2 := HDW.out; omega), cell_five (kc KN.out BB.out) (by have h1 : q < w.heap.size := cell_lt KN.out; have h2 := HDW.out; omega)⟩
      clear hK K
      (try simp only [Act.put, List.setIfInBounds_toArray, List.set_cons_zero, List.set_cons_succ])
      refine wpAnyH_done (by kernel_rfl) ?_ _
      exact NoPanic.normal (HQ.out _ _ _ _ _ _ _ _ _ gD ma da mb db mc dc_ ya yb yc _ HDW.out XD.out HD.out BB.out)
    refine AllReadyH.cons (o := { dst := some 12, op := Op.alloc 31, type := 0, pos := "l09_key.go:37", after := #[], guard := none }) rfl (fun K hK => ?_) AllReadyH.nil
    go_simp
    have hb : Below wn1.heap.size wn1 (wn1.alloc (.cells #[.slice none 0 0, .slice none 0 0, .slice none 0 0, .int .i64 0, .int .i64 0] 31)) := (Below.refl _ _).alloc (Nat.le_refl _) _
    obtain ⟨gD, hgD⟩ : ∃ g, g = wn1.heap.size := ⟨_, rfl⟩
    have XD := Lib.hid (show Ret.Blk (wn1.alloc (.cells #[.slice none 0 0, .slice none 0 0, .slice none 0 0, .int .i64 0, .int .i64 0] 31)) gD (dc (.slice none 0 0) (.slice none 0 0) (.slice none 0 0) 0 0) 31 from by rw [hgD]; exact Ret.Blk.new wn1 _ _)
    have HDW := Lib.hid (show w.heap.size ≤ gD from by rw [hgD]; exact BB.out.size)
    rw [← hgD]
    clear hgD
    replace BB := Lib.hid (BB.out.trans (hb.mono BB.out.size))
    clear hb
    generalize wn1.alloc (.cells #[.slice none 0 0, .slice none 0 0, .slice none 0 0, .int .i64 0, .int .i64 0] 31) = wn5 at *
    clear hHeld
    refine hK.out _ _ ?_ (fun hHeld => ?_)
    · (try dsimp only); exact ⟨kc KK.out BB.out, kc KN.out BB.out⟩
    clear hK K
    (try simp only [Act.put, List.setIfInBounds_toArray, List.set_cons_zero, List.set_cons_succ])
    refine wpAnyH_ready (rs := [8]) (by kernel_rfl) (by simp) ?_
    refine AllReadyH.cons (o := { dst := some 21, op := Op.call { callee := Callee.value (Operand.func 37), args := #[Operand.tmp 15, Operand.tmp 20], argTypes := #[3, 31] }, type := 31, pos := "l09_key.go:37", after := #[{ on := 2, ground := Ground.data }, { on := 7, ground := Ground.data }, { on := 2, ground := Ground.chain }], guard := none }) rfl (fun K hK => ?_) AllReadyH.nil
    go_simp
    refine (specSignV M HM.out ⟨HN.out.on BB.out, HB.out.on BB.out, HK.out.on BB.out⟩ HBY.out HSM.out).mono ?_
    rintro e wn6 ⟨ya, ma, da, yb, mb, db, yc, mc, dc_, rfl, hd, hb⟩
    have HD := Lib.hid (hd.mono BB.out.size); clear hd
    replace XD := Lib.hid (XD.out.on hb)
    replace BB := Lib.hid (BB.out.trans (hb.mono BB.out.size))
    clear hb
    (try go_wp2_with fail)
    clear hHeld
    refine hK.out _ _ ?_ (fun hHeld => ?_)
    · (try dsimp only); exact ⟨kc KK.out BB.out, kc KN.out BB.out⟩
    clear hK K
    (try simp only [Act.put, List.setIfInBounds_toArray, List.set_cons_zero, List.set_cons_succ])
    refine wpAnyH_ready (rs := [10]) (by kernel_rfl) (by simp) ?_
    refine AllReadyH.cons (o := { dst := none, op := Op.store 31 (Operand.tmp 12) (Operand.tmp 21), type := 0, pos := "l09_key.go:37", after := #[{ on := 9, ground := Ground.data }, { on := 8, ground := Ground.data }, { on := 8, ground := Ground.chain }, { on := 0, ground := Ground.phase }, { on := 1, ground := Ground.phase }, { on := 2, ground := Ground.phase }, { on := 3, ground := Ground.phase }, { on := 4, ground := Ground.phase }, { on := 5, ground := Ground.phase }, { on := 6, ground := Ground.phase }, { on := 7, ground := Ground.phase }, { on := 8, ground := Ground.phase }, { on := 9, ground := Ground.phase }], guard := none }) rfl (fun K hK => ?_) AllReadyH.nil
    obtain ⟨r0, r1, r2, r3, r4⟩ := cells5 XD.out
    obtain ⟨t0, t1, t2, t3, t4⟩ := froz5 XD.out
    go_simp
    clear hHeld
    refine hK.out _ _ ?_ (fun hHeld => ?_)
    · (try dsimp only); exact ⟨cell_five (kc KK.out BB.out) (by have h1 : p < w.heap.size := cell_lt KK.out; have h2 := HDW.out; omega), cell_five (kc KN.out BB.out) (by have h1 : q < w.heap.size := cell_lt KN.out; have h2 := HDW.out; omega)⟩
    clear hK K
    (try simp only [Act.put, List.setIfInBounds_toArray, List.set_cons_zero, List.set_cons_succ])
    refine wpAnyH_done (by kernel_rfl) ?_ _
    exact NoPanic.normal (HQ.out _ _ _ _ _ _ _ _ _ gD ma da mb db mc dc_ ya yb yc _ HDW.out XD.out HD.out BB.out)
  refine AllReadyH.cons (o := { dst := some 12, op := Op.alloc 31, type := 0, pos := "l09_key.go:37", after := #[], guard := none }) rfl (fun K hK => ?_) AllReadyH.nil
  go_simp
  have hb : Below wd.heap.size wd (wd.alloc (.cells #[.slice none 0 0, .slice none 0 0, .slice none 0 0, .int .i64 0, .int .i64 0] 31)) := (Below.refl _ _).alloc (Nat.le_refl _) _
  obtain ⟨gD, hgD⟩ : ∃ g, g = wd.heap.size := ⟨_, rfl⟩
  have XD := Lib.hid (show Ret.Blk (wd.alloc (.cells #[.slice none 0 0, .slice none 0 0, .slice none 0 0, .int .i64 0, .int .i64 0] 31)) gD (dc (.slice none 0 0) (.slice none 0 0) (.slice none 0 0) 0 0) 31 from by rw [hgD]; exact Ret.Blk.new wd _ _)
  have HDW := Lib.hid (show w.heap.size ≤ gD from by rw [hgD]; exact BB.out.size)
  rw [← hgD]
  clear hgD
  replace BB := Lib.hid (BB.out.trans (hb.mono BB.out.size))
  clear hb
  generalize wd.alloc (.cells #[.slice none 0 0, .slice none 0 0, .slice none 0 0, .int .i64 0, .int .i64 0] 31) = wn8 at *
  clear hHeld
  refine hK.out _ _ ?_ (fun hHeld => ?_)
  · (try dsimp only); exact ⟨kc KK.out BB.out, kc KN.out BB.out⟩
  clear hK K
  (try simp only [Act.put, List.setIfInBounds_toArray, List.set_cons_zero, List.set_cons_succ])
  refine wpAnyH_ready (rs := [2]) (by kernel_rfl) (by simp) ?_
  refine AllReadyH.cons (o := { dst := some 15, op := Op.call { callee := Callee.value (Operand.func 21), args := #[Operand.tmp 13, Operand.tmp 14], argTypes := #[24, 27] }, type := 3, pos := "l09_key.go:37", after := #[{ on := 0, ground := Ground.data }, { on := 1, ground := Ground.data }], guard := none }) rfl (fun K hK => ?_) AllReadyH.nil
  go_simp
  refine (secV r HR.out ⟨ML, rfl, HT.out.on BB.out⟩ (HK.out.on BB.out) HLM.out HTS.out HKB.out).mono ?_
  rintro e wn9 ⟨rfl, hb⟩
  replace XD := Lib.hid (XD.out.on hb)
  replace BB := Lib.hid (BB.out.trans (hb.mono BB.out.size))
  clear hb
  (try go_wp2_with fail)
  clear hHeld
  refine hK.out _ _ ?_ (fun hHeld => ?_)
  · (try dsimp only); exact ⟨kc KK.out BB.out, kc KN.out BB.out⟩
  clear hK K
  (try simp only [Act.put, List.setIfInBounds_toArray, List.set_cons_zero, List.set_cons_succ])
  refine wpAnyH_ready (rs := [8]) (by kernel_rfl) (by simp) ?_
  refine AllReadyH.cons (o := { dst := some 21, op := Op.call { callee := Callee.value (Operand.func 37), args := #[Operand.tmp 15, Operand.tmp 20], argTypes := #[3, 31] }, type := 31, pos := "l09_key.go:37", after := #[{ on := 2, ground := Ground.data }, { on := 7, ground := Ground.data }, { on := 2, ground := Ground.chain }], guard := none }) rfl (fun K hK => ?_) AllReadyH.nil
  go_simp
  refine (specSignV M HM.out ⟨HN.out.on BB.out, HB.out.on BB.out, HK.out.on BB.out⟩ HBY.out HSM.out).mono ?_
  rintro e wn10 ⟨ya, ma, da, yb, mb, db, yc, mc, dc_, rfl, hd, hb⟩
  have HD := Lib.hid (hd.mono BB.out.size); clear hd
  replace XD := Lib.hid (XD.out.on hb)
  replace BB := Lib.hid (BB.out.trans (hb.mono BB.out.size))
  clear hb
  (try go_wp2_with fail)
  clear hHeld
  refine hK.out _ _ ?_ (fun hHeld => ?_)
  · (try dsimp only); exact ⟨kc KK.out BB.out, kc KN.out BB.out⟩
  clear hK K
  (try simp only [Act.put, List.setIfInBounds_toArray, List.set_cons_zero, List.set_cons_succ])
  refine wpAnyH_ready (rs := [10]) (by kernel_rfl) (by simp) ?_
  refine AllReadyH.cons (o := { dst := none, op := Op.store 31 (Operand.tmp 12) (Operand.tmp 21), type := 0, pos := "l09_key.go:37", after := #[{ on := 9, ground := Ground.data }, { on := 8, ground := Ground.data }, { on := 8, ground := Ground.chain }, { on := 0, ground := Ground.phase }, { on := 1, ground := Ground.phase }, { on := 2, ground := Ground.phase }, { on := 3, ground := Ground.phase }, { on := 4, ground := Ground.phase }, { on := 5, ground := Ground.phase }, { on := 6, ground := Ground.phase }, { on := 7, ground := Ground.phase }, { on := 8, ground := Ground.phase }, { on := 9, ground := Ground.phase }], guard := none }) rfl (fun K hK => ?_) AllReadyH.nil
  obtain ⟨r0, r1, r2, r3, r4⟩ := cells5 XD.out
  obtain ⟨t0, t1, t2, t3, t4⟩ := froz5 XD.out
  go_simp
  clear hHeld
  refine hK.out _ _ ?_ (fun hHeld => ?_)
  · (try dsimp only); exact ⟨cell_five (kc KK.out BB.out) (by have h1 : p < w.heap.size := cell_lt KK.out; have h2 := HDW.out; omega), cell_five (kc KN.out BB.out) (by have h1 : q < w.heap.size := cell_lt KN.out; have h2 := HDW.out; omega)⟩
  clear hK K
  (try simp only [Act.put, List.setIfInBounds_toArray, List.set_cons_zero, List.set_cons_succ])
  refine wpAnyH_done (by kernel_rfl) ?_ _
  exact NoPanic.normal (HQ.out _ _ _ _ _ _ _ _ _ gD ma da mb db mc dc_ ya yb yc _ HDW.out XD.out HD.out BB.out)

end Go.Proofs.YtnblopilgfdjkaaGreat.Row.Ring
