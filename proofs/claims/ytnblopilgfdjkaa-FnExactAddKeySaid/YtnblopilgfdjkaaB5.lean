/- Contracts and mathematics, joined: RingG, RingH, KRing. No conditions but those that each states. -/
import Derived.Test.YtnblopilgfdjkaaB4
import Derived.Test.YtnblopilgfdjkaaB1
/- Contracts of the model's AddKey, and of SignWithKey, the model's and the program's. No conditions but that lengths fit. -/
namespace Go.Proofs.Ytnblopilgfdjkaa.Row.Ring
open Go.ChangeShapes Go.WideShapes Go.ChangeAt Go.RowKit Go.Instr
set_option linter.unusedVariables false
set_option maxRecDepth 100000

theorem TabO.rowK {B : Nat} {w : World} {v : Value} {L : List Ent} (h : TabO B w v L) : OwnK 67 encE 2 B w v L := h.1
theorem one_key {w : World} (x : Option Addr) (n c : Nat) (l : List ByteArray) (s : Int) (b : Nat) (hb : b = w.heap.size) : HoldsK encE 2 (w.alloc (.cells #[.slice x n c, .int .i64 s] 67)) (.slice (some ⟨b, 0, none⟩) 1 1) [(⟨x, n, c, l, s⟩ : Ent)] := by
  subst hb
  exact holdsK_one szE 67 w (⟨x, n, c, l, s⟩ : Ent)

set_option maxRecDepth 100000 in
set_option maxHeartbeats 4000000 in
theorem addR1 {Q : Exit → Act → World → Prop} {v1 v2 v4 v5 v6 v7 v8 v9 v10 v11 v12 v13 v14 v15 v16 v17 v18 v19 v20 v21 v22 : Value} {w : World} {p nl cl nk ck : Nat} {xl xk : Option Addr} {s : Int} {M : List Ent} {lk : List ByteArray} (HT : Hid (TabH w (.slice xl nl cl) M)) (HK : Hid (Holds Value.string w (.slice xk nk ck) lk)) (HLM : Hid ((strip M).length ≤ 3000000)) (HTS : Hid (smT (strip M))) (HKL : Hid (lk.length ≤ 9000000)) (K0 : Hid (w.cell? ⟨p, 0, none⟩ = some (.slice xk nk ck))) (K1 : Hid (w.cell? ⟨p, 1, none⟩ = some (.int .i64 s)))
    (hQ : ∀ (u7 u8 u9 u10 u11 u12 u13 u14 u15 u16 : Value) (x16 : Option Addr) (n16 c16 : Nat)  (wx : World), TabOwn w.heap.size wx (.slice x16 n16 c16) (strip M ++ [(lk, s)]) → Below w.heap.size w wx → Q .normal ⟨#[.slice xl nl cl, v1, v2, .pointer (some ⟨p, 0, none⟩), v4, v5, .slice x16 n16 c16, u7, u8, u9, u10, u11, u12, u13, u14, u15, u16, v17, v18, v19, v20, v21, v22], []⟩ wx) :
    (Code.region 1 #[{ dst := some 7, op := Op.move (Operand.tmp 0), type := 25, pos := "l09_key.go:66", after := #[], guard := none },
      { dst := some 8, op := Op.call { callee := Callee.value (Operand.func 67), args := #[Operand.tmp 7], argTypes := #[25] }, type := 25, pos := "l09_key.go:66", after := #[{ on := 0, ground := Ground.data }], guard := none },
      { dst := some 9, op := Op.fieldAddr 67 (Operand.tmp 3) 0, type := 0, pos := "l09_key.go:66", after := #[], guard := none },
      { dst := some 10, op := Op.load 34 (Operand.tmp 9), type := 34, pos := "l09_key.go:66", after := #[{ on := 2, ground := Ground.data }], guard := none },
      { dst := some 11, op := Op.call { callee := Callee.value (Operand.func 68), args := #[Operand.tmp 10], argTypes := #[34] }, type := 34, pos := "l09_key.go:66", after := #[{ on := 3, ground := Ground.data }, { on := 1, ground := Ground.chain }], guard := none },
      { dst := some 12, op := Op.fieldAddr 67 (Operand.tmp 3) 1, type := 0, pos := "l09_key.go:66", after := #[], guard := none },
      { dst := some 13, op := Op.load 3 (Operand.tmp 12), type := 3, pos := "l09_key.go:66", after := #[{ on := 5, ground := Ground.data }], guard := none },
      { dst := some 14, op := Op.build 67 #[(0, Operand.tmp 11), (1, Operand.tmp 13)], type := 67, pos := "l09_key.go:66", after := #[{ on := 4, ground := Ground.data }, { on := 6, ground := Ground.data }], guard := none },
      { dst := some 15, op := Op.buildSlice 25 1 #[(0, Operand.tmp 14)], type := 25, pos := "l09_key.go:66", after := #[{ on := 7, ground := Ground.data }], guard := none },
      { dst := some 16, op := Op.call { callee := Callee.builtin Builtin.append, args := #[Operand.tmp 8, Operand.tmp 15], argTypes := #[25, 25] }, type := 25, pos := "l09_key.go:66", after := #[{ on := 1, ground := Ground.data }, { on := 8, ground := Ground.data }, { on := 4, ground := Ground.chain }], guard := none },
      { dst := some 6, op := Op.assign (Operand.tmp 16), type := 25, pos := "l09_key.go:66", after := #[{ on := 9, ground := Ground.data }, { on := 9, ground := Ground.chain }, { on := 0, ground := Ground.phase }, { on := 1, ground := Ground.phase }, { on := 2, ground := Ground.phase }, { on := 3, ground := Ground.phase }, { on := 4, ground := Ground.phase }, { on := 5, ground := Ground.phase }, { on := 6, ground := Ground.phase }, { on := 7, ground := Ground.phase }, { on := 8, ground := Ground.phase }, { on := 9, ground := Ground.phase }], guard := none }] true).wp Try.prog Q ⟨#[.slice xl nl cl, v1, v2, .pointer (some ⟨p, 0, none⟩), v4, v5, v6, v7, v8, v9, v10, v11, v12, v13, v14, v15, v16, v17, v18, v19, v20, v21, v22], []⟩ w := by
  have HQ := Lib.hid hQ; clear hQ
  have hdr : Below w.heap.size w w.drew := (Below.refl _ _).drew
  have BB := Lib.hid hdr
  refine wp_region_noPanic ?_
  refine wp_region_held_drew (S := (fun w' => w'.cell? ⟨p, 0, none⟩ = some (.slice xk nk ck) ∧ w'.cell? ⟨p, 1, none⟩ = some (.int .i64 s))) (by kernel_rfl) ?_ (fun hHeld => ?_)
  · exact ⟨kc K0.out BB.out, kc K1.out BB.out⟩
  clear hdr
  generalize w.drew = wd at *
  refine wpAnyH_take (i := 0) (oi := { dst := some 7, op := Op.move (Operand.tmp 0), type := 25, pos := "l09_key.go:66", after := #[], guard := none }) (v := ?_) rfl (by kernel_rfl) (by kernel_rfl) (by kernel_rfl) (fun _ _ _ h => h) (Or.inl ⟨by rfl, ?_⟩) (by assumption) ?_
  rotate_left
  · intro w' hSw; (try dsimp only at hSw); first | (go_simp; done) | (go_simp; with_reducible rfl)
  (try simp only [Act.put, List.setIfInBounds_toArray, List.set_cons_zero, List.set_cons_succ])
  refine wpAnyH_take (i := 2) (oi := { dst := some 9, op := Op.fieldAddr 67 (Operand.tmp 3) 0, type := 0, pos := "l09_key.go:66", after := #[], guard := none }) (v := ?_) rfl (by kernel_rfl) (by kernel_rfl) (by kernel_rfl) (fun _ _ _ h => h) (Or.inl ⟨by rfl, ?_⟩) (by assumption) ?_
  rotate_left
  · intro w' hSw; (try dsimp only at hSw); first | (go_simp; done) | (go_simp; with_reducible rfl)
  (try simp only [Act.put, List.setIfInBounds_toArray, List.set_cons_zero, List.set_cons_succ])
  refine wpAnyH_take (i := 3) (oi := { dst := some 10, op := Op.load 34 (Operand.tmp 9), type := 34, pos := "l09_key.go:66", after := #[{ on := 2, ground := Ground.data }], guard := none }) (v := ?_) rfl (by kernel_rfl) (by kernel_rfl) (by kernel_rfl) (fun _ _ _ h => h) (Or.inl ⟨by rfl, ?_⟩) (by assumption) ?_
  rotate_left
  · intro w' hSw; (try dsimp only at hSw); first | (go_simp; done) | (go_simp; with_reducible rfl)
  (try simp only [Act.put, List.setIfInBounds_toArray, List.set_cons_zero, List.set_cons_succ])
  refine wpAnyH_take (i := 5) (oi := { dst := some 12, op := Op.fieldAddr 67 (Operand.tmp 3) 1, type := 0, pos := "l09_key.go:66", after := #[], guard := none }) (v := ?_) rfl (by kernel_rfl) (by kernel_rfl) (by kernel_rfl) (fun _ _ _ h => h) (Or.inl ⟨by rfl, ?_⟩) (by assumption) ?_
  rotate_left
  · intro w' hSw; (try dsimp only at hSw); first | (go_simp; done) | (go_simp; with_reducible rfl)
  (try simp only [Act.put, List.setIfInBounds_toArray, List.set_cons_zero, List.set_cons_succ])
  refine wpAnyH_take (i := 6) (oi := { dst := some 13, op := Op.load 3 (Operand.tmp 12), type := 3, pos := "l09_key.go:66", after := #[{ on := 5, ground := Ground.data }], guard := none }) (v := ?_) rfl (by kernel_rfl) (by kernel_rfl) (by kernel_rfl) (fun _ _ _ h => h) (Or.inl ⟨by rfl, ?_⟩) (by assumption) ?_
  rotate_left
  · intro w' hSw; (try dsimp only at hSw); first | (go_simp; done) | (go_simp; with_reducible rfl)
  (try simp only [Act.put, List.setIfInBounds_toArray, List.set_cons_zero, List.set_cons_succ])
  refine wpAnyH_ready (rs := [1]) (by kernel_rfl) (by simp) ?_
  refine AllReadyH.cons (o := { dst := some 8, op := Op.call { callee := Callee.value (Operand.func 67), args := #[Operand.tmp 7], argTypes := #[25] }, type := 25, pos := "l09_key.go:66", after := #[{ on := 0, ground := Ground.data }], guard := none }) rfl (fun K hK => ?_) AllReadyH.nil
  go_simp
  refine (l9Copy (.slice xl nl cl) (strip M) _ ⟨M, rfl, HT.out.on BB.out⟩ (Nat.le_trans HLM.out (by decide)) HTS.out).mono ?_
  rintro e wn1 ⟨v8, rfl, ho, hb⟩
  obtain ⟨M8, hM8, ho⟩ := ho
  obtain ⟨x8, n8, c8, rfl, -, -, ho⟩ := ho.shapeN
  (first | have HAP := Lib.hid (show ∀ y ∈ M8, Apart y.v (.slice x11 n11 c11) from fun y hy g h1 h2 => by have h5 := (ho.lt.2 y hy g h1).1; have h6 := (H11.out.lt g h2).2; omega) | skip)
  have H8 := Lib.hid (ho.mono BB.out.size); clear ho
  have E8 := Lib.hid hM8; clear hM8
  have N8 := Lib.hid (show M8.length ≤ 3000000 by rw [← strip_length, E8.out]; exact HLM.out)
  replace BB := Lib.hid (BB.out.trans (hb.mono BB.out.size))
  clear hb
  (try go_wp2_with fail)
  clear hHeld
  refine hK.out _ _ ?_ (fun hHeld => ?_)
  · (try dsimp only); exact ⟨kc K0.out BB.out, kc K1.out BB.out⟩
  clear hK K
  (try simp only [Act.put, List.setIfInBounds_toArray, List.set_cons_zero, List.set_cons_succ])
  refine wpAnyH_ready (rs := [4]) (by kernel_rfl) (by simp) ?_
  refine AllReadyH.cons (o := { dst := some 11, op := Op.call { callee := Callee.value (Operand.func 68), args := #[Operand.tmp 10], argTypes := #[34] }, type := 34, pos := "l09_key.go:66", after := #[{ on := 3, ground := Ground.data }, { on := 1, ground := Ground.chain }], guard := none }) rfl (fun K hK => ?_) AllReadyH.nil
  go_simp
  refine (l4Copy _ lk _ (HK.out.on BB.out) (Nat.le_trans HKL.out (by decide))).mono ?_
  rintro e wn2 ⟨v11, rfl, ho, hb⟩
  obtain ⟨x11, n11, c11, rfl, -, -, ho⟩ := ho.shapeN
  (first | have HAP := Lib.hid (show ∀ y ∈ M8, Apart y.v (.slice x11 n11 c11) from H8.out.fresh (fun g hg => (ho.lt g hg).1)) | skip)
  have H11 := Lib.hid (ho.mono BB.out.size); clear ho
  replace H8 := Lib.hid (H8.out.on hb)
  replace BB := Lib.hid (BB.out.trans (hb.mono BB.out.size))
  clear hb
  (try go_wp2_with fail)
  clear hHeld
  refine hK.out _ _ ?_ (fun hHeld => ?_)
  · (try dsimp only); exact ⟨kc K0.out BB.out, kc K1.out BB.out⟩
  clear hK K
  (try simp only [Act.put, List.setIfInBounds_toArray, List.set_cons_zero, List.set_cons_succ])
  refine wpAnyH_take (i := 7) (oi := { dst := some 14, op := Op.build 67 #[(0, Operand.tmp 11), (1, Operand.tmp 13)], type := 67, pos := "l09_key.go:66", after := #[{ on := 4, ground := Ground.data }, { on := 6, ground := Ground.data }], guard := none }) (v := ?_) rfl (by kernel_rfl) (by kernel_rfl) (by kernel_rfl) (fun _ _ _ h => h) (Or.inl ⟨by rfl, ?_⟩) (by assumption) ?_
  rotate_left
  · intro w' hSw; (try dsimp only at hSw); first | (go_simp; done) | (go_simp; with_reducible rfl)
  (try simp only [Act.put, List.setIfInBounds_toArray, List.set_cons_zero, List.set_cons_succ])
  refine wpAnyH_ready (rs := [8]) (by kernel_rfl) (by simp) ?_
  refine AllReadyH.cons (o := { dst := some 15, op := Op.buildSlice 25 1 #[(0, Operand.tmp 14)], type := 25, pos := "l09_key.go:66", after := #[{ on := 7, ground := Ground.data }], guard := none }) rfl (fun K hK => ?_) AllReadyH.nil
  go_simp
  have hb : Below wn2.heap.size wn2 (wn2.alloc (.cells #[.slice x11 n11 c11, .int .i64 s] 67)) := (Below.refl _ _).alloc (Nat.le_refl _) _
  obtain ⟨b15, hb15⟩ : ∃ b, b = wn2.heap.size := ⟨_, rfl⟩
  have H15 := Lib.hid (one_key (w := wn2) x11 n11 c11 lk s b15 hb15)
  rw [← hb15]
  clear hb15
  replace H8 := Lib.hid (H8.out.on hb)
  replace H11 := Lib.hid (H11.out.on hb)
  replace BB := Lib.hid (BB.out.trans (hb.mono BB.out.size))
  clear hb
  generalize wn2.alloc (.cells #[.slice x11 n11 c11, .int .i64 s] 67) = wn3 at *
  clear hHeld
  refine hK.out _ _ ?_ (fun hHeld => ?_)
  · (try dsimp only); exact ⟨kc K0.out BB.out, kc K1.out BB.out⟩
  clear hK K
  (try simp only [Act.put, List.setIfInBounds_toArray, List.set_cons_zero, List.set_cons_succ])
  refine wpAnyH_ready (rs := [9]) (by kernel_rfl) (by simp) ?_
  refine AllReadyH.cons (o := { dst := some 16, op := Op.call { callee := Callee.builtin Builtin.append, args := #[Operand.tmp 8, Operand.tmp 15], argTypes := #[25, 25] }, type := 25, pos := "l09_key.go:66", after := #[{ on := 1, ground := Ground.data }, { on := 8, ground := Ground.data }, { on := 4, ground := Ground.chain }], guard := none }) rfl (fun K hK => ?_) AllReadyH.nil
  refine step_appK kindE (B := w.heap.size) (v := .slice x8 n8 c8) (l := M8) (m := [(⟨x11, n11, c11, lk, s⟩ : Ent)]) rfl _ _ (by rfl) Try.underlying25 (by rfl) (by rfl) ?_ ?_ ?_ ?_ ?_ ?_
  · with_reducible exact H8.out.rowK
  · with_reducible exact H15.out
  · have h5 := N8.out; simp; omega
  · have h5 := N8.out; unfold maxLen; simp; omega
  · exact BB.out.size
  intro v16 wn4 ho hg
  obtain ⟨x16, n16, c16, rfl, -, -, ho⟩ := ho.shapeN
  have H16 := Lib.hid (H8.out.push (x := (⟨x11, n11, c11, lk, s⟩ : Ent)) H11.out HAP.out ho hg)
  replace BB := Lib.hid (BB.out.grown hg BB.out.size (fun g e => (H8.out.lt.1 g e).1))
  clear ho hg H8 H11 H15
  clear hHeld
  refine hK.out _ _ ?_ (fun hHeld => ?_)
  · (try dsimp only); exact ⟨kc K0.out BB.out, kc K1.out BB.out⟩
  clear hK K
  (try simp only [Act.put, List.setIfInBounds_toArray, List.set_cons_zero, List.set_cons_succ])
  refine wpAnyH_take (i := 10) (oi := { dst := some 6, op := Op.assign (Operand.tmp 16), type := 25, pos := "l09_key.go:66", after := #[{ on := 9, ground := Ground.data }, { on := 9, ground := Ground.chain }, { on := 0, ground := Ground.phase }, { on := 1, ground := Ground.phase }, { on := 2, ground := Ground.phase }, { on := 3, ground := Ground.phase }, { on := 4, ground := Ground.phase }, { on := 5, ground := Ground.phase }, { on := 6, ground := Ground.phase }, { on := 7, ground := Ground.phase }, { on := 8, ground := Ground.phase }, { on := 9, ground := Ground.phase }], guard := none }) (v := ?_) rfl (by kernel_rfl) (by kernel_rfl) (by kernel_rfl) (fun _ _ _ h => h) (Or.inl ⟨by rfl, ?_⟩) (by assumption) ?_
  rotate_left
  · intro w' hSw; (try dsimp only at hSw); first | (go_simp; done) | (go_simp; with_reducible rfl)
  (try simp only [Act.put, List.setIfInBounds_toArray, List.set_cons_zero, List.set_cons_succ])
  refine wpAnyH_done (by kernel_rfl) ?_ _
  exact NoPanic.normal (HQ.out _ _ _ _ _ _ _ _ _ _ _ _ _ _ ⟨_, by rw [strip_append, E8.out]; rfl, H16.out⟩ BB.out)

set_option maxHeartbeats 8000000 in
theorem specAddKey (v u : Value) (T : List (List ByteArray × Int)) (l : List ByteArray) (s : Int) (w : World) (h : TabHolds w v T) (g : Holds Value.string w u l) (hl : T.length ≤ 3000000) (hT : smT T) (hbl : bulk l ≤ 9000000) :
    Calls Try.prog 40 #[v, .agg #[u, .int .i64 s]] w (GivesKB w (addK T (l, s)) (validK (T ++ [(l, s)]))) := by
  obtain ⟨L, rfl, h⟩ := h
  obtain ⟨y, n, cy, rfl, hn, hcy, hh⟩ := h.shapeN
  obtain ⟨x, q, cx, rfl, hq, hcx, hg⟩ := g.shapeN
  obtain ⟨z, hz⟩ : ∃ z, validK (strip L ++ [(l, s)]) = z := ⟨_, rfl⟩
  have HZ := Lib.hid hz
  rw [hz]
  have hb0 := (Below.refl w.heap.size w).alloc (Nat.le_refl _) (.cells #[.slice x q cx, .int .i64 s] 67)
  have HB := Lib.hid hb0
  have HX := Lib.hid (Ret.Blk.new w #[.slice x q cx, .int .i64 s] 67)
  have HH := Lib.hid hh; have HH0 := Lib.hid (hh.on hb0); have HG0 := Lib.hid (hg.on hb0); have HT := Lib.hid hT; have HL := Lib.hid hl
  have HKL := Lib.hid (Nat.le_trans (bulk_len l) hbl)
  have HTX := Lib.hid (smT_snoc (x := (l, s)) hT hbl)
  have HLX := Lib.hid (show (strip L ++ [(l, s)]).length ≤ 4000000 by rw [List.length_append]; simp; omega)
  clear hz hb0 hn hh h hq hg g hT hl hbl hcy hcx
  go_enter Try.func40, Try.ntmps40
  go_wp2_with fail
  refine addR1 HH0 HG0 HL HT HKL (Lib.hid (HX.out.cell 0)) (Lib.hid (HX.out.cell 1)) ?_
  intro u7 u8 u9 u10 u11 u12 u13 u14 u15 u16 x2 n2 c2 w2 ho2 hb2
  have HB2 := Lib.hid (HB.out.trans (hb2.mono HB.out.size))
  have HO2 := Lib.hid (ho2.mono HB.out.size)
  clear ho2 hb2 HX
  go_wp2_with fail
  refine (specValidKeys _ _ w2 HO2.out.holds HLX.out HTX.out).mono ?_
  rintro e w3 ⟨rfl, hb3⟩
  rw [HZ.out]
  have HB3 := Lib.hid (HB2.out.trans (hb3.mono HB2.out.size))
  have HO3 := Lib.hid (HO2.out.on hb3)
  clear hb3 HO2
  cases z with
  | true =>
    have HA := Lib.hid (show addK (strip L) (l, s) = strip L ++ [(l, s)] by unfold addK; rw [HZ.out]; rfl)
    go_wp2_with fail
    go_ret2
    exact ⟨_, rfl, by rw [HA.out]; exact HO3.out, HB3.out⟩
  | false =>
    have HA := Lib.hid (show addK (strip L) (l, s) = strip L by unfold addK; rw [HZ.out]; rfl)
    go_wp2_with fail
    refine (l9Copy _ (strip L) w3 ⟨L, rfl, HH.out.on HB3.out⟩ (Nat.le_trans HL.out (by decide)) HT.out).mono ?_
    rintro e w4 ⟨v4, rfl, ho4, hb4⟩
    have HB4 := Lib.hid (HB3.out.trans (hb4.mono HB3.out.size))
    have HO4 := Lib.hid (ho4.mono HB3.out.size)
    clear ho4 hb4
    go_wp2_with fail
    go_ret2
    exact ⟨v4, rfl, by rw [HA.out]; exact HO4.out, HB4.out⟩

/-! ### SignWithKey -/
end Go.Proofs.Ytnblopilgfdjkaa.Row.Ring
namespace Go.Proofs.Ytnblopilgfdjkaa.Row
open Go.ChangeShapes Go.WideShapes Go.ChangeAt Go.RowKit Go.Instr
set_option linter.unusedVariables false
set_option maxRecDepth 100000
theorem own_ne9 {α : Type} [Inhabited α] {enc : α → Value} {e t : TypeId} {B g : Nat} {w : World} {v : Value} {l : List α} {cs : Array Value} (h : Row.Own e enc B w v l) (hb : Ret.Blk w g cs t) (hne : e ≠ t) : v.ownBlock = none ∨ v.ownBlock ≠ some g := by
  rcases h.2 with ⟨rfl, -⟩ | ⟨g2, cap, cur, rfl, -, hh, -⟩
  · exact Or.inl rfl
  · refine Or.inr fun e1 => ?_
    have e2 : g2 = g := by simpa [Value.ownBlock] using e1
    rw [e2, show w.heap[g]? = some (.cells cs t) from hb] at hh
    cases hh
    exact hne rfl
theorem own_setT9 {α : Type} [Inhabited α] {enc : α → Value} {e t : TypeId} {B g i : Nat} {w : World} {v u : Value} {l : List α} {cs : Array Value} (h : Row.Own e enc B w v l) (hb : Ret.Blk w g cs t) (hne : e ≠ t) : Row.Own e enc B (w.setCell ⟨g, i, none⟩ u) v l := h.grown (Ret.grownBy_set w ⟨g, i, none⟩ u) (own_ne9 h hb hne)
theorem DOwn.setT {B g i : Nat} {w : World} {a b c u : Value} {x : Dt} {cs : Array Value} (h : DOwn B w a b c x) (hb : Ret.Blk w g cs 40) : DOwn B (w.setCell ⟨g, i, none⟩ u) a b c x := ⟨own_setT9 h.1 hb (by decide), own_setT9 (enc := Value.int .u8) h.2.1 hb (by decide), own_setT9 h.2.2.1 hb (by decide), h.2.2.2⟩
theorem DOwn.five {B g : Nat} {w : World} {a b c a1 b1 c1 : Value} {f s : Int} {x : Dt} {cs : Array Value} (h : DOwn B w a1 b1 c1 x) (hb : Ret.Blk w g cs 40) : DOwn B (((((((w).setCell ⟨g, 0, none⟩ (a)).setCell ⟨g, 1, none⟩ (b)).setCell ⟨g, 2, none⟩ (c)).setCell ⟨g, 3, none⟩ (.int .i64 f)).setCell ⟨g, 4, none⟩ (.int .i64 s))) a1 b1 c1 x := ((((h.setT hb).setT (hb.set 0 a)).setT ((hb.set 0 a).set 1 b)).setT (((hb.set 0 a).set 1 b).set 2 c)).setT ((((hb.set 0 a).set 1 b).set 2 c).set 3 (.int .i64 f))
theorem DOwn.mono {B B' : Nat} {w : World} {a b c : Value} {x : Dt} (h : DOwn B w a b c x) (hB : B' ≤ B) : DOwn B' w a b c x := ⟨h.1.mono hB, Sl.Own.mono h.2.1 hB, h.2.2.1.mono hB, h.2.2.2⟩
end Go.Proofs.Ytnblopilgfdjkaa.Row
namespace Go.Proofs.Ytnblopilgfdjkaa.Row.Ring
open Go.ChangeShapes Go.WideShapes Go.ChangeAt Go.RowKit Go.Instr
set_option linter.unusedVariables false
set_option maxRecDepth 100000
theorem blk_five {g : Nat} {w : World} {a b c a0 b0 c0 : Value} {f s f0 s0 : Int} (hb : Ret.Blk w g (dc a0 b0 c0 f0 s0) 40) : Ret.Blk (((((((w).setCell ⟨g, 0, none⟩ (a)).setCell ⟨g, 1, none⟩ (b)).setCell ⟨g, 2, none⟩ (c)).setCell ⟨g, 3, none⟩ (.int .i64 f)).setCell ⟨g, 4, none⟩ (.int .i64 s))) g (dc a b c f s) 40 := ((((hb.set 0 a).set 1 b).set 2 c).set 3 (.int .i64 f)).set 4 (.int .i64 s)
theorem below_five {X g : Nat} {w0 w : World} {a b c : Value} {f s : Int} (h : Below X w0 w) (hX : X ≤ g) : Below X w0 (((((((w).setCell ⟨g, 0, none⟩ (a)).setCell ⟨g, 1, none⟩ (b)).setCell ⟨g, 2, none⟩ (c)).setCell ⟨g, 3, none⟩ (.int .i64 f)).setCell ⟨g, 4, none⟩ (.int .i64 s))) := by
  have st : ∀ {w1 : World} (i : Nat) (u : Value), Below X w0 w1 → Below X w0 (w1.setCell ⟨g, i, none⟩ u) := fun {w1} i u h1 => h1.trans ⟨rfl, rfl, rfl, by simp [World.setCell], fun k hk => Go.RowKit.Below.heap_setCell _ _ _ _ (by simp; omega)⟩
  exact st 4 _ (st 3 _ (st 2 _ (st 1 _ (st 0 _ h))))
theorem box_five {g p : Nat} {w : World} {a b c u : Value} {f s : Int} {t : TypeId} (h : Ret.Box w p u t) (hne : p ≠ g) : Ret.Box (((((((w).setCell ⟨g, 0, none⟩ (a)).setCell ⟨g, 1, none⟩ (b)).setCell ⟨g, 2, none⟩ (c)).setCell ⟨g, 3, none⟩ (.int .i64 f)).setCell ⟨g, 4, none⟩ (.int .i64 s))) p u t := by
  have st : ∀ {w1 : World} (i : Nat) (y : Value), Ret.Box w1 p u t → Ret.Box (w1.setCell ⟨g, i, none⟩ y) p u t := fun {w1} i y h1 => h1.grown (Ret.grownBy_set w1 ⟨g, i, none⟩ y) (by simpa using hne)
  exact st 4 _ (st 3 _ (st 2 _ (st 1 _ (st 0 _ h))))
theorem blk_five_other {g p : Nat} {w : World} {a b c : Value} {f s : Int} {cs : Array Value} {t : TypeId} (h : Ret.Blk w p cs t) (hne : p ≠ g) : Ret.Blk (((((((w).setCell ⟨g, 0, none⟩ (a)).setCell ⟨g, 1, none⟩ (b)).setCell ⟨g, 2, none⟩ (c)).setCell ⟨g, 3, none⟩ (.int .i64 f)).setCell ⟨g, 4, none⟩ (.int .i64 s))) p cs t :=
  ((((h.other (a := ⟨g, 0, none⟩) (Ne.symm hne) a).other (a := ⟨g, 1, none⟩) (Ne.symm hne) b).other (a := ⟨g, 2, none⟩) (Ne.symm hne) c).other (a := ⟨g, 3, none⟩) (Ne.symm hne) (.int .i64 f)).other (a := ⟨g, 4, none⟩) (Ne.symm hne) (.int .i64 s)
theorem cell_five {g p i : Nat} {w : World} {a b c u : Value} {f s : Int} (h : w.cell? ⟨p, i, none⟩ = some u) (hne : p ≠ g) : (((((((w).setCell ⟨g, 0, none⟩ (a)).setCell ⟨g, 1, none⟩ (b)).setCell ⟨g, 2, none⟩ (c)).setCell ⟨g, 3, none⟩ (.int .i64 f)).setCell ⟨g, 4, none⟩ (.int .i64 s))).cell? ⟨p, i, none⟩ = some u := by
  have st : ∀ {w1 : World} (j : Nat) (y : Value), w1.cell? ⟨p, i, none⟩ = some u → (w1.setCell ⟨g, j, none⟩ y).cell? ⟨p, i, none⟩ = some u := fun {w1} j y h1 => (Ret.grownBy_set w1 ⟨g, j, none⟩ y).cell h1 (by simpa using hne)
  exact st 4 _ (st 3 _ (st 2 _ (st 1 _ (st 0 _ h))))
theorem cells5 {W : World} {g : Nat} {a b c : Value} {f s : Int} {t : TypeId} (h : Ret.Blk W g (dc a b c f s) t) : W.cell? ⟨g, 0, none⟩ = some a ∧ W.cell? ⟨g, 1, none⟩ = some b ∧ W.cell? ⟨g, 2, none⟩ = some c ∧ W.cell? ⟨g, 3, none⟩ = some (.int .i64 f) ∧ W.cell? ⟨g, 4, none⟩ = some (.int .i64 s) := ⟨h.cell 0, h.cell 1, h.cell 2, h.cell 3, h.cell 4⟩
theorem froz5 {W : World} {g : Nat} {cs : Array Value} {t : TypeId} (h : Ret.Blk W g cs t) : W.frozen? ⟨g, 0, none⟩ = false ∧ W.frozen? ⟨g, 1, none⟩ = false ∧ W.frozen? ⟨g, 2, none⟩ = false ∧ W.frozen? ⟨g, 3, none⟩ = false ∧ W.frozen? ⟨g, 4, none⟩ = false := ⟨h.frozen 0, h.frozen 1, h.frozen 2, h.frozen 3, h.frozen 4⟩
theorem dOwn_zero (B : Nat) (w : World) : DOwn B w nil nil nil ([], [], [], 0, 0) := ⟨Own.nil _ _ _ _, Own.nil _ (Value.int .u8) _ _, Own.nil _ _ _ _, (fun g h => by cases h), (fun g h => by cases h), (fun g h => by cases h)⟩
def zD : Dt := ([], [], [], 0, 0)
/-- What SignWithKey signs. -/
def sgX (T : List (List ByteArray × Int)) (key n : List ByteArray) (b : List Int) (u : Int) : Dt := sgD (lkN T key) (n, b, key, u, 0)
def sgOk (T : List (List ByteArray × Int)) (key n : List ByteArray) (b : List Int) (u : Int) : Bool := !(lkN T key == 0) && validD (sgX T key n b u)
def sgK (T : List (List ByteArray × Int)) (key n : List ByteArray) (b : List Int) (u : Int) : Dt := if sgOk T key n b u then sgX T key n b u else zD
theorem secV {v u : Value} {T : List (List ByteArray × Int)} {m : List ByteArray} {w : World} (r : Int) (hr : lkN T m = r) (h : TabHolds w v T) (g : Holds Value.string w u m) (hl : T.length ≤ 4000000) (hT : smT T) (hm : bulk m ≤ 9000000) :
    Calls Try.prog 16 #[v, .agg #[u]] w fun e w' => e = .returned (.int .i64 r) ∧ Below w.heap.size w w' := hr ▸ specSecretOf v u T m w h g hl hT hm
theorem isecV {v u : Value} {T : List (List ByteArray × Int)} {m : List ByteArray} {w : World} (r : Int) (hr : lkN T m = r) (h : TabHolds w v T) (g : Holds Value.string w u m) (hl : T.length ≤ 4000000) (hT : smT T) (hm : bulk m ≤ 9000000) :
    Calls Try.prog 18 #[v, .agg #[u]] w fun e w' => e = .returned (.int .i64 r) ∧ Below w.heap.size w w' := hr ▸ implSecretOf v u T m w h g hl hT hm
/-- A signed packet: its cells in letters. -/
def GivesX (w : World) (ln : List ByteArray) (lb : List Int) (lk : List ByteArray) (u M : Int) (e : Ending) (w' : World) : Prop :=
  ∃ xa na ca xb nb cb xc nc cc, e = .returned (.agg #[.slice xa na ca, .slice xb nb cb, .slice xc nc cc, .int .i64 u, .int .i64 M]) ∧ DOwn w.heap.size w' (.slice xa na ca) (.slice xb nb cb) (.slice xc nc cc) (ln, lb, lk, u, M) ∧ Below w.heap.size w w'
theorem specSignV {a b c : Value} {ln lk : List ByteArray} {lb : List Int} {u r : Int} {w : World} (M : Int) (hM : Seal.mac r (portD (ln, lb, lk, u, 0)) = M) (h : DHold w a b c (ln, lb, lk, u, 0)) (hB : Sl.Byt lb) (hl : smD (ln, lb, lk, u, 0)) :
    Calls Try.prog 57 #[.int .i64 r, .agg #[a, b, c, .int .i64 u, .int .i64 0]] w (GivesX w ln lb lk u M) := by
  refine (specSignData a b c (ln, lb, lk, u, 0) r w h hB hl).mono ?_
  rintro e w' ⟨a1, b1, c1, rfl, hd, hb⟩
  obtain ⟨xa, na, ca, xb, nb, cb, xc, nc, cc, rfl, rfl, rfl⟩ := hd.hold.shape
  have e1 : sgD r (ln, lb, lk, u, 0) = (ln, lb, lk, u, M) := by unfold sgD; rw [hM]
  rw [e1] at hd ⊢
  exact ⟨_, _, _, _, _, _, _, _, _, rfl, hd, hb⟩
theorem implSignV {a b c : Value} {ln lk : List ByteArray} {lb : List Int} {u r : Int} {w : World} (M : Int) (hM : Seal.mac r (portD (ln, lb, lk, u, 0)) = M) (h : DHold w a b c (ln, lb, lk, u, 0)) (hB : Sl.Byt lb) (hl : smD (ln, lb, lk, u, 0)) :
    Calls Try.prog 59 #[.int .i64 r, .agg #[a, b, c, .int .i64 u, .int .i64 0]] w (GivesX w ln lb lk u M) := by
  refine (implSignData a b c (ln, lb, lk, u, 0) r w h hB hl).mono ?_
  rintro e w' ⟨a1, b1, c1, rfl, hd, hb⟩
  obtain ⟨xa, na, ca, xb, nb, cb, xc, nc, cc, rfl, rfl, rfl⟩ := hd.hold.shape
  have e1 : sgD r (ln, lb, lk, u, 0) = (ln, lb, lk, u, M) := by unfold sgD; rw [hM]
  rw [e1] at hd ⊢
  exact ⟨_, _, _, _, _, _, _, _, _, rfl, hd, hb⟩

set_option maxRecDepth 100000 in
set_option maxHeartbeats 4000000 in
theorem signR1 {Q : Exit → Act → World → Prop} {v1 v2 v5 v8 v9 v10 v11 v12 v13 v14 v15 v16 v17 v18 v19 v20 v21 v22 v23 v24 v25 v26 v27 v28 v29 v30 v31 v32 : Value} {w : World} {p q nl cl nk ck nn cn nb cb : Nat} {xl xk xn xb : Option Addr} {u r M : Int} {ML : List Ent} {lk ln : List ByteArray} {lb : List Int} (HT : Hid (TabH w (.slice xl nl cl) ML)) (HK : Hid (Holds Value.string w (.slice xk nk ck) lk)) (HN : Hid (Holds Value.string w (.slice xn nn cn) ln)) (HB : Hid (Sl.Holds .u8 w (.slice xb nb cb) lb)) (HLM : Hid ((strip ML).length ≤ 4000000)) (HTS : Hid (smT (strip ML))) (HKB : Hid (bulk lk ≤ 9000000)) (HBY : Hid (Sl.Byt lb)) (HSM : Hid (smD (ln, lb, lk, u, 0))) (HR : Hid (lkN (strip ML) lk = r)) (HM : Hid (Seal.mac r (portD (ln, lb, lk, u, 0)) = M)) (KK : Hid (w.cell? ⟨p, 0, none⟩ = some (.slice xk nk ck))) (KN : Hid (w.cell? ⟨q, 0, none⟩ = some (.slice xn nn cn)))
    (hQ : ∀ (u13 u14 u15 u16 u17 u18 u19 u20 u21 : Value) (gD ma da mb db mc dc_ : Nat) (ya yb yc : Option Addr)  (wx : World), w.heap.size ≤ gD → Ret.Blk wx gD (dc (.slice none 0 0) (.slice none 0 0) (.slice none 0 0) 0 0) 40 → DOwn w.heap.size wx (.slice ya ma da) (.slice yb mb db) (.slice yc mc dc_) (ln, lb, lk, u, M) → Below w.heap.size w wx → Q .normal ⟨#[.slice xl nl cl, v1, v2, .slice xb nb cb, .int .i64 u, v5, .pointer (some ⟨p, 0, none⟩), .pointer (some ⟨q, 0, none⟩), v8, v9, v10, v11, .pointer (some ⟨gD, 0, none⟩), u13, u14, u15, u16, u17, u18, u19, u20, u21, v22, v23, v24, v25, v26, v27, v28, v29, v30, v31, v32], []⟩ ((((((wx).setCell ⟨gD, 0, none⟩ (.slice ya ma da)).setCell ⟨gD, 1, none⟩ (.slice yb mb db)).setCell ⟨gD, 2, none⟩ (.slice yc mc dc_)).setCell ⟨gD, 3, none⟩ (.int .i64 u)).setCell ⟨gD, 4, none⟩ (.int .i64 M))) :
    (Code.region 1 #[{ dst := some 13, op := Op.move (Operand.tmp 0), type := 25, pos := "l09_key.go:37", after := #[], guard := none },
      { dst := some 14, op := Op.load 34 (Operand.tmp 6), type := 34, pos := "l09_key.go:37", after := #[], guard := none },
      { dst := some 15, op := Op.call { callee := Callee.value (Operand.func 16), args := #[Operand.tmp 13, Operand.tmp 14], argTypes := #[25, 34] }, type := 3, pos := "l09_key.go:37", after := #[{ on := 0, ground := Ground.data }, { on := 1, ground := Ground.data }], guard := none },
      { dst := some 16, op := Op.load 34 (Operand.tmp 7), type := 34, pos := "l09_key.go:37", after := #[], guard := none },
      { dst := some 17, op := Op.move (Operand.tmp 3), type := 38, pos := "l09_key.go:37", after := #[], guard := none },
      { dst := some 18, op := Op.load 34 (Operand.tmp 6), type := 34, pos := "l09_key.go:37", after := #[], guard := none },
      { dst := some 19, op := Op.move (Operand.tmp 4), type := 3, pos := "l09_key.go:37", after := #[], guard := none },
      { dst := some 20, op := Op.build 40 #[(0, Operand.tmp 16), (1, Operand.tmp 17), (2, Operand.tmp 18), (3, Operand.tmp 19)], type := 40, pos := "l09_key.go:37", after := #[{ on := 3, ground := Ground.data }, { on := 4, ground := Ground.data }, { on := 5, ground := Ground.data }, { on := 6, ground := Ground.data }], guard := none },
      { dst := some 21, op := Op.call { callee := Callee.value (Operand.func 57), args := #[Operand.tmp 15, Operand.tmp 20], argTypes := #[3, 40] }, type := 40, pos := "l09_key.go:37", after := #[{ on := 2, ground := Ground.data }, { on := 7, ground := Ground.data }, { on := 2, ground := Ground.chain }], guard := none },
      { dst := some 12, op := Op.alloc 40, type := 0, pos := "l09_key.go:37", after := #[], guard := none },
      { dst := none, op := Op.store 40 (Operand.tmp 12) (Operand.tmp 21), type := 0, pos := "l09_key.go:37", after := #[{ on := 9, ground := Ground.data }, { on := 8, ground := Ground.data }, { on := 8, ground := Ground.chain }, { on := 0, ground := Ground.phase }, { on := 1, ground := Ground.phase }, { on := 2, ground := Ground.phase }, { on := 3, ground := Ground.phase }, { on := 4, ground := Ground.phase }, { on := 5, ground := Ground.phase }, { on := 6, ground := Ground.phase }, { on := 7, ground := Ground.phase }, { on := 8, ground := Ground.phase }, { on := 9, ground := Ground.phase }], guard := none }] true).wp Try.prog Q ⟨#[.slice xl nl cl, v1, v2, .slice xb nb cb, .int .i64 u, v5, .pointer (some ⟨p, 0, none⟩), .pointer (some ⟨q, 0, none⟩), v8, v9, v10, v11, v12, v13, v14, v15, v16, v17, v18, v19, v20, v21, v22, v23, v24, v25, v26, v27, v28, v29, v30, v31, v32], []⟩ w := by
  have HQ := Lib.hid hQ; clear hQ
  have hdr : Below w.heap.size w w.drew := (Below.refl _ _).drew
  have BB := Lib.hid hdr
  refine wp_region_noPanic ?_
  refine wp_region_held_drew (S := (fun w' => w'.cell? ⟨p, 0, none⟩ = some (.slice xk nk ck) ∧ w'.cell? ⟨q, 0, none⟩ = some (.slice xn nn cn))) (by kernel_rfl) ?_ (fun hHeld => ?_)
  · exact ⟨kc KK.out BB.out, kc KN.out BB.out⟩
  clear hdr
  generalize w.drew = wd at *
  refine wpAnyH_take (i := 0) (oi := { dst := some 13, op := Op.move (Operand.tmp 0), type := 25, pos := "l09_key.go:37", after := #[], guard := none }) (v := ?_) rfl (by kernel_rfl) (by kernel_rfl) (by kernel_rfl) (fun _ _ _ h => h) (Or.inl ⟨by rfl, ?_⟩) (by assumption) ?_
  rotate_left
  · intro w' hSw; (try dsimp only at hSw); first | (go_simp; done) | (go_simp; with_reducible rfl)
  (try simp only [Act.put, List.setIfInBounds_toArray, List.set_cons_zero, List.set_cons_succ])
  refine wpAnyH_take (i := 1) (oi := { dst := some 14, op := Op.load 34 (Operand.tmp 6), type := 34, pos := "l09_key.go:37", after := #[], guard := none }) (v := ?_) rfl (by kernel_rfl) (by kernel_rfl) (by kernel_rfl) (fun _ _ _ h => h) (Or.inl ⟨by rfl, ?_⟩) (by assumption) ?_
  rotate_left
  · intro w' hSw; (try dsimp only at hSw); first | (go_simp; done) | (go_simp; with_reducible rfl)
  (try simp only [Act.put, List.setIfInBounds_toArray, List.set_cons_zero, List.set_cons_succ])
  refine wpAnyH_take (i := 3) (oi := { dst := some 16, op := Op.load 34 (Operand.tmp 7), type := 34, pos := "l09_key.go:37", after := #[], guard := none }) (v := ?_) rfl (by kernel_rfl) (by kernel_rfl) (by kernel_rfl) (fun _ _ _ h => h) (Or.inl ⟨by rfl, ?_⟩) (by assumption) ?_
  rotate_left
  · intro w' hSw; (try dsimp only at hSw); first | (go_simp; done) | (go_simp; with_reducible rfl)
  (try simp only [Act.put, List.setIfInBounds_toArray, List.set_cons_zero, List.set_cons_succ])
  refine wpAnyH_take (i := 4) (oi := { dst := some 17, op := Op.move (Operand.tmp 3), type := 38, pos := "l09_key.go:37", after := #[], guard := none }) (v := ?_) rfl (by kernel_rfl) (by kernel_rfl) (by kernel_rfl) (fun _ _ _ h => h) (Or.inl ⟨by rfl, ?_⟩) (by assumption) ?_
  rotate_left
  · intro w' hSw; (try dsimp only at hSw); first | (go_simp; done) | (go_simp; with_reducible rfl)
  (try simp only [Act.put, List.setIfInBounds_toArray, List.set_cons_zero, List.set_cons_succ])
  refine wpAnyH_take (i := 5) (oi := { dst := some 18, op := Op.load 34 (Operand.tmp 6), type := 34, pos := "l09_key.go:37", after := #[], guard := none }) (v := ?_) rfl (by kernel_rfl) (by kernel_rfl) (by kernel_rfl) (fun _ _ _ h => h) (Or.inl ⟨by rfl, ?_⟩) (by assumption) ?_
  rotate_left
  · intro w' hSw; (try dsimp only at hSw); first | (go_simp; done) | (go_simp; with_reducible rfl)
  (try simp only [Act.put, List.setIfInBounds_toArray, List.set_cons_zero, List.set_cons_succ])
  refine wpAnyH_take (i := 6) (oi := { dst := some 19, op := Op.move (Operand.tmp 4), type := 3, pos := "l09_key.go:37", after := #[], guard := none }) (v := ?_) rfl (by kernel_rfl) (by kernel_rfl) (by kernel_rfl) (fun _ _ _ h => h) (Or.inl ⟨by rfl, ?_⟩) (by assumption) ?_
  rotate_left
  · intro w' hSw; (try dsimp only at hSw); first | (go_simp; done) | (go_simp; with_reducible rfl)
  (try simp only [Act.put, List.setIfInBounds_toArray, List.set_cons_zero, List.set_cons_succ])
  refine wpAnyH_take (i := 7) (oi := { dst := some 20, op := Op.build 40 #[(0, Operand.tmp 16), (1, Operand.tmp 17), (2, Operand.tmp 18), (3, Operand.tmp 19)], type := 40, pos := "l09_key.go:37", after := #[{ on := 3, ground := Ground.data }, { on := 4, ground := Ground.data }, { on := 5, ground := Ground.data }, { on := 6, ground := Ground.data }], guard := none }) (v := ?_) rfl (by kernel_rfl) (by kernel_rfl) (by kernel_rfl) (fun _ _ _ h => h) (Or.inl ⟨by rfl, ?_⟩) (by assumption) ?_
  rotate_left
  · intro w' hSw; (try dsimp only at hSw); first | (go_simp; done) | (go_simp; with_reducible rfl)
  (try simp only [Act.put, List.setIfInBounds_toArray, List.set_cons_zero, List.set_cons_succ])
  refine wpAnyH_ready (rs := [2, 9]) (by kernel_rfl) (by simp) ?_
  refine AllReadyH.cons (o := { dst := some 15, op := Op.call { callee := Callee.value (Operand.func 16), args := #[Operand.tmp 13, Operand.tmp 14], argTypes := #[25, 34] }, type := 3, pos := "l09_key.go:37", after := #[{ on := 0, ground := Ground.data }, { on := 1, ground := Ground.data }], guard := none }) rfl (fun K hK => ?_) ?_
  ·
    go_simp
    refine (secV r HR.out ⟨ML, rfl, HT.out.on BB.out⟩ (HK.out.on BB.out) HLM.out HTS.out HKB.out).mono ?_
    rintro e wn1 ⟨rfl, hb⟩
    replace BB := Lib.hid (BB.out.trans (hb.mono BB.out.size))
    clear hb
    (try go_wp2_with fail)
    clear hHeld
    refine hK.out _ _ ?_ (fun hHeld => ?_)
    · (try dsimp only); exact ⟨kc KK.out BB.out, kc KN.out BB.out⟩
    clear hK K
    (try simp only [Act.put, List.setIfInBounds_toArray, List.set_cons_zero, List.set_cons_succ])
    refine wpAnyH_ready (rs := [8, 9]) (by kernel_rfl) (by simp) ?_
    refine AllReadyH.cons (o := { dst := some 21, op := Op.call { callee := Callee.value (Operand.func 57), args := #[Operand.tmp 15, Operand.tmp 20], argTypes := #[3, 40] }, type := 40, pos := "l09_key.go:37", after := #[{ on := 2, ground := Ground.data }, { on := 7, ground := Ground.data }, { on := 2, ground := Ground.chain }], guard := none }) rfl (fun K hK => ?_) ?_
    ·
      go_simp
      refine (specSignV M HM.out ⟨HN.out.on BB.out, HB.out.on BB.out, HK.out.on BB.out⟩ HBY.out HSM.out).mono ?_
      rintro e wn2 ⟨ya, ma, da, yb, mb, db, yc, mc, dc_, rfl, hd, hb⟩
      have HD := Lib.hid (hd.mono BB.out.size); clear hd
      replace BB := Lib.hid (BB.out.trans (hb.mono BB.out.size))
      clear hb
      (try go_wp2_with fail)
      clear hHeld
      refine hK.out _ _ ?_ (fun hHeld => ?_)
      · (try dsimp only); exact ⟨kc KK.out BB.out, kc KN.out BB.out⟩
      clear hK K
      (try simp only [Act.put, List.setIfInBounds_toArray, List.set_cons_zero, List.set_cons_succ])
      refine wpAnyH_ready (rs := [9]) (by kernel_rfl) (by simp) ?_
      refine AllReadyH.cons (o := { dst := some 12, op := Op.alloc 40, type := 0, pos := "l09_key.go:37", after := #[], guard := none }) rfl (fun K hK => ?_) AllReadyH.nil
      go_simp
      have hb : Below wn2.heap.size wn2 (wn2.alloc (.cells #[.slice none 0 0, .slice none 0 0, .slice none 0 0, .int .i64 0, .int .i64 0] 40)) := (Below.refl _ _).alloc (Nat.le_refl _) _
      obtain ⟨gD, hgD⟩ : ∃ g, g = wn2.heap.size := ⟨_, rfl⟩
      have XD := Lib.hid (show Ret.Blk (wn2.alloc (.cells #[.slice none 0 0, .slice none 0 0, .slice none 0 0, .int .i64 0, .int .i64 0] 40)) gD (dc (.slice none 0 0) (.slice none 0 0) (.slice none 0 0) 0 0) 40 from by rw [hgD]; exact Ret.Blk.new wn2 _ _)
      have HDW := Lib.hid (show w.heap.size ≤ gD from by rw [hgD]; exact BB.out.size)
      rw [← hgD]
      clear hgD
      replace HD := Lib.hid (HD.out.on hb)
      replace BB := Lib.hid (BB.out.trans (hb.mono BB.out.size))
      clear hb
      generalize wn2.alloc (.cells #[.slice none 0 0, .slice none 0 0, .slice none 0 0, .int .i64 0, .int .i64 0] 40) = wn3 at *
      clear hHeld
      refine hK.out _ _ ?_ (fun hHeld => ?_)
      · (try dsimp only); exact ⟨kc KK.out BB.out, kc KN.out BB.out⟩
      clear hK K
      (try simp only [Act.put, List.setIfInBounds_toArray, List.set_cons_zero, List.set_cons_succ])
      refine wpAnyH_ready (rs := [10]) (by kernel_rfl) (by simp) ?_
      refine AllReadyH.cons (o := { dst := none, op := Op.store 40 (Operand.tmp 12) (Operand.tmp 21), type := 0, pos := "l09_key.go:37", after := #[{ on := 9, ground := Ground.data }, { on := 8, ground := Ground.data }, { on := 8, ground := Ground.chain }, { on := 0, ground := Ground.phase }, { on := 1, ground := Ground.phase }, { on := 2, ground := Ground.phase }, { on := 3, ground := Ground.phase }, { on := 4, ground := Ground.phase }, { on := 5, ground := Ground.phase }, { on := 6, ground := Ground.phase }, { on := 7, ground := Ground.phase }, { on := 8, ground := Ground.phase }, { on := 9, ground := Ground.phase }], guard := none }) rfl (fun K hK => ?_) AllReadyH.nil
      obtain ⟨r0, r1, r2, r3, r4⟩ := cells5 XD.out
      obtain ⟨t0, t1, t2, t3, t4⟩ := froz5 XD.out
      go_simp
      clear hHeld
      refine hK.out _ _ ?_ (fun hHeld => ?_)
      · (try dsimp only); exact ⟨cell_five (kc KK.out BB.out) (by have h1 : p < w.heap.size := cell_lt KK.out; have h2 := HDW.out; omega), cell_five (kc KN.out BB.out) (by have h1 : q < w.heap.size := cell_lt KN.out; have h2 := HDW.out; omega)⟩
      clear hK K
      (try simp only [Act.put, List.setIfInBounds_toArray, List.set_cons_zero, List.set_cons_succ])
      refine wpAnyH_done (by kernel_rfl) ?_ _
      exact NoPanic.normal (HQ.out _ _ _ _ _ _ _ _ _ gD ma da mb db mc dc_ ya yb yc _ HDW.out XD.out HD.out BB.out)
    refine AllReadyH.cons (o := { dst := some 12, op := Op.alloc 40, type := 0, pos := "l09_key.go:37", after := #[], guard := none }) rfl (fun K hK => ?_) AllReadyH.nil
    go_simp
    have hb : Below wn1.heap.size wn1 (wn1.alloc (.cells #[.slice none 0 0, .slice none 0 0, .slice none 0 0, .int .i64 0, .int .i64 0] 40)) := (Below.refl _ _).alloc (Nat.le_refl _) _
    obtain ⟨gD, hgD⟩ : ∃ g, g = wn1.heap.size := ⟨_, rfl⟩
    have XD := Lib.hid (show Ret.Blk (wn1.alloc (.cells #[.slice none 0 0, .slice none 0 0, .slice none 0 0, .int .i64 0, .int .i64 0] 40)) gD (dc (.slice none 0 0) (.slice none 0 0) (.slice none 0 0) 0 0) 40 from by rw [hgD]; exact Ret.Blk.new wn1 _ _)
    have HDW := Lib.hid (show w.heap.size ≤ gD from by rw [hgD]; exact BB.out.size)
    rw [← hgD]
    clear hgD
    replace BB := Lib.hid (BB.out.trans (hb.mono BB.out.size))
    clear hb
    generalize wn1.alloc (.cells #[.slice none 0 0, .slice none 0 0, .slice none 0 0, .int .i64 0, .int .i64 0] 40) = wn5 at *
    clear hHeld
    refine hK.out _ _ ?_ (fun hHeld => ?_)
    · (try dsimp only); exact ⟨kc KK.out BB.out, kc KN.out BB.out⟩
    clear hK K
    (try simp only [Act.put, List.setIfInBounds_toArray, List.set_cons_zero, List.set_cons_succ])
    refine wpAnyH_ready (rs := [8]) (by kernel_rfl) (by simp) ?_
    refine AllReadyH.cons (o := { dst := some 21, op := Op.call { callee := Callee.value (Operand.func 57), args := #[Operand.tmp 15, Operand.tmp 20], argTypes := #[3, 40] }, type := 40, pos := "l09_key.go:37", after := #[{ on := 2, ground := Ground.data }, { on := 7, ground := Ground.data }, { on := 2, ground := Ground.chain }], guard := none }) rfl (fun K hK => ?_) AllReadyH.nil
    go_simp
    refine (specSignV M HM.out ⟨HN.out.on BB.out, HB.out.on BB.out, HK.out.on BB.out⟩ HBY.out HSM.out).mono ?_
    rintro e wn6 ⟨ya, ma, da, yb, mb, db, yc, mc, dc_, rfl, hd, hb⟩
    have HD := Lib.hid (hd.mono BB.out.size); clear hd
    replace XD := Lib.hid (XD.out.on hb)
    replace BB := Lib.hid (BB.out.trans (hb.mono BB.out.size))
    clear hb
    (try go_wp2_with fail)
    clear hHeld
    refine hK.out _ _ ?_ (fun hHeld => ?_)
    · (try dsimp only); exact ⟨kc KK.out BB.out, kc KN.out BB.out⟩
    clear hK K
    (try simp only [Act.put, List.setIfInBounds_toArray, List.set_cons_zero, List.set_cons_succ])
    refine wpAnyH_ready (rs := [10]) (by kernel_rfl) (by simp) ?_
    refine AllReadyH.cons (o := { dst := none, op := Op.store 40 (Operand.tmp 12) (Operand.tmp 21), type := 0, pos := "l09_key.go:37", after := #[{ on := 9, ground := Ground.data }, { on := 8, ground := Ground.data }, { on := 8, ground := Ground.chain }, { on := 0, ground := Ground.phase }, { on := 1, ground := Ground.phase }, { on := 2, ground := Ground.phase }, { on := 3, ground := Ground.phase }, { on := 4, ground := Ground.phase }, { on := 5, ground := Ground.phase }, { on := 6, ground := Ground.phase }, { on := 7, ground := Ground.phase }, { on := 8, ground := Ground.phase }, { on := 9, ground := Ground.phase }], guard := none }) rfl (fun K hK => ?_) AllReadyH.nil
    obtain ⟨r0, r1, r2, r3, r4⟩ := cells5 XD.out
    obtain ⟨t0, t1, t2, t3, t4⟩ := froz5 XD.out
    go_simp
    clear hHeld
    refine hK.out _ _ ?_ (fun hHeld => ?_)
    · (try dsimp only); exact ⟨cell_five (kc KK.out BB.out) (by have h1 : p < w.heap.size := cell_lt KK.out; have h2 := HDW.out; omega), cell_five (kc KN.out BB.out) (by have h1 : q < w.heap.size := cell_lt KN.out; have h2 := HDW.out; omega)⟩
    clear hK K
    (try simp only [Act.put, List.setIfInBounds_toArray, List.set_cons_zero, List.set_cons_succ])
    refine wpAnyH_done (by kernel_rfl) ?_ _
    exact NoPanic.normal (HQ.out _ _ _ _ _ _ _ _ _ gD ma da mb db mc dc_ ya yb yc _ HDW.out XD.out HD.out BB.out)
  refine AllReadyH.cons (o := { dst := some 12, op := Op.alloc 40, type := 0, pos := "l09_key.go:37", after := #[], guard := none }) rfl (fun K hK => ?_) AllReadyH.nil
  go_simp
  have hb : Below wd.heap.size wd (wd.alloc (.cells #[.slice none 0 0, .slice none 0 0, .slice none 0 0, .int .i64 0, .int .i64 0] 40)) := (Below.refl _ _).alloc (Nat.le_refl _) _
  obtain ⟨gD, hgD⟩ : ∃ g, g = wd.heap.size := ⟨_, rfl⟩
  have XD := Lib.hid (show Ret.Blk (wd.alloc (.cells #[.slice none 0 0, .slice none 0 0, .slice none 0 0, .int .i64 0, .int .i64 0] 40)) gD (dc (.slice none 0 0) (.slice none 0 0) (.slice none 0 0) 0 0) 40 from by rw [hgD]; exact Ret.Blk.new wd _ _)
  have HDW := Lib.hid (show w.heap.size ≤ gD from by rw [hgD]; exact BB.out.size)
  rw [← hgD]
  clear hgD
  replace BB := Lib.hid (BB.out.trans (hb.mono BB.out.size))
  clear hb
  generalize wd.alloc (.cells #[.slice none 0 0, .slice none 0 0, .slice none 0 0, .int .i64 0, .int .i64 0] 40) = wn8 at *
  clear hHeld
  refine hK.out _ _ ?_ (fun hHeld => ?_)
  · (try dsimp only); exact ⟨kc KK.out BB.out, kc KN.out BB.out⟩
  clear hK K
  (try simp only [Act.put, List.setIfInBounds_toArray, List.set_cons_zero, List.set_cons_succ])
  refine wpAnyH_ready (rs := [2]) (by kernel_rfl) (by simp) ?_
  refine AllReadyH.cons (o := { dst := some 15, op := Op.call { callee := Callee.value (Operand.func 16), args := #[Operand.tmp 13, Operand.tmp 14], argTypes := #[25, 34] }, type := 3, pos := "l09_key.go:37", after := #[{ on := 0, ground := Ground.data }, { on := 1, ground := Ground.data }], guard := none }) rfl (fun K hK => ?_) AllReadyH.nil
  go_simp
  refine (secV r HR.out ⟨ML, rfl, HT.out.on BB.out⟩ (HK.out.on BB.out) HLM.out HTS.out HKB.out).mono ?_
  rintro e wn9 ⟨rfl, hb⟩
  replace XD := Lib.hid (XD.out.on hb)
  replace BB := Lib.hid (BB.out.trans (hb.mono BB.out.size))
  clear hb
  (try go_wp2_with fail)
  clear hHeld
  refine hK.out _ _ ?_ (fun hHeld => ?_)
  · (try dsimp only); exact ⟨kc KK.out BB.out, kc KN.out BB.out⟩
  clear hK K
  (try simp only [Act.put, List.setIfInBounds_toArray, List.set_cons_zero, List.set_cons_succ])
  refine wpAnyH_ready (rs := [8]) (by kernel_rfl) (by simp) ?_
  refine AllReadyH.cons (o := { dst := some 21, op := Op.call { callee := Callee.value (Operand.func 57), args := #[Operand.tmp 15, Operand.tmp 20], argTypes := #[3, 40] }, type := 40, pos := "l09_key.go:37", after := #[{ on := 2, ground := Ground.data }, { on := 7, ground := Ground.data }, { on := 2, ground := Ground.chain }], guard := none }) rfl (fun K hK => ?_) AllReadyH.nil
  go_simp
  refine (specSignV M HM.out ⟨HN.out.on BB.out, HB.out.on BB.out, HK.out.on BB.out⟩ HBY.out HSM.out).mono ?_
  rintro e wn10 ⟨ya, ma, da, yb, mb, db, yc, mc, dc_, rfl, hd, hb⟩
  have HD := Lib.hid (hd.mono BB.out.size); clear hd
  replace XD := Lib.hid (XD.out.on hb)
  replace BB := Lib.hid (BB.out.trans (hb.mono BB.out.size))
  clear hb
  (try go_wp2_with fail)
  clear hHeld
  refine hK.out _ _ ?_ (fun hHeld => ?_)
  · (try dsimp only); exact ⟨kc KK.out BB.out, kc KN.out BB.out⟩
  clear hK K
  (try simp only [Act.put, List.setIfInBounds_toArray, List.set_cons_zero, List.set_cons_succ])
  refine wpAnyH_ready (rs := [10]) (by kernel_rfl) (by simp) ?_
  refine AllReadyH.cons (o := { dst := none, op := Op.store 40 (Operand.tmp 12) (Operand.tmp 21), type := 0, pos := "l09_key.go:37", after := #[{ on := 9, ground := Ground.data }, { on := 8, ground := Ground.data }, { on := 8, ground := Ground.chain }, { on := 0, ground := Ground.phase }, { on := 1, ground := Ground.phase }, { on := 2, ground := Ground.phase }, { on := 3, ground := Ground.phase }, { on := 4, ground := Ground.phase }, { on := 5, ground := Ground.phase }, { on := 6, ground := Ground.phase }, { on := 7, ground := Ground.phase }, { on := 8, ground := Ground.phase }, { on := 9, ground := Ground.phase }], guard := none }) rfl (fun K hK => ?_) AllReadyH.nil
  obtain ⟨r0, r1, r2, r3, r4⟩ := cells5 XD.out
  obtain ⟨t0, t1, t2, t3, t4⟩ := froz5 XD.out
  go_simp
  clear hHeld
  refine hK.out _ _ ?_ (fun hHeld => ?_)
  · (try dsimp only); exact ⟨cell_five (kc KK.out BB.out) (by have h1 : p < w.heap.size := cell_lt KK.out; have h2 := HDW.out; omega), cell_five (kc KN.out BB.out) (by have h1 : q < w.heap.size := cell_lt KN.out; have h2 := HDW.out; omega)⟩
  clear hK K
  (try simp only [Act.put, List.setIfInBounds_toArray, List.set_cons_zero, List.set_cons_succ])
  refine wpAnyH_done (by kernel_rfl) ?_ _
  exact NoPanic.normal (HQ.out _ _ _ _ _ _ _ _ _ gD ma da mb db mc dc_ ya yb yc _ HDW.out XD.out HD.out BB.out)

end Go.Proofs.Ytnblopilgfdjkaa.Row.Ring
/- Contracts of SignWithKey, the model's and the program's. No conditions but that lengths fit. -/
namespace Go.Proofs.Ytnblopilgfdjkaa.Row.Ring
open Go.ChangeShapes Go.WideShapes Go.ChangeAt Go.RowKit Go.Instr
set_option linter.unusedVariables false
set_option maxRecDepth 100000

theorem sgOk_zero {T : List (List ByteArray × Int)} {key n : List ByteArray} {b : List Int} {u r : Int} (hr : lkN T key = r) (h : (r == 0) = true) : sgOk T key n b u = false := by unfold sgOk; rw [hr, h]; rfl
theorem sgOk_val {T : List (List ByteArray × Int)} {key n : List ByteArray} {b : List Int} {u r M : Int} {z : Bool} (hr : lkN T key = r) (h : (r == 0) = false) (hM : Seal.mac r (portD (n, b, key, u, 0)) = M) (hz : validD (n, b, key, u, M) = z) : sgOk T key n b u = z ∧ sgX T key n b u = (n, b, key, u, M) := by
  have e : sgX T key n b u = (n, b, key, u, M) := by unfold sgX sgD; rw [hr, hM]
  refine ⟨?_, e⟩
  unfold sgOk
  rw [hr, h, e, hz]; rfl
theorem sgK_no {T : List (List ByteArray × Int)} {key n : List ByteArray} {b : List Int} {u : Int} (h : sgOk T key n b u = false) : sgK T key n b u = zD := by unfold sgK; rw [h]; rfl
theorem sgK_yes {T : List (List ByteArray × Int)} {key n : List ByteArray} {b : List Int} {u : Int} (h : sgOk T key n b u = true) : sgK T key n b u = sgX T key n b u := by unfold sgK; rw [h]; rfl

set_option maxHeartbeats 8000000 in
theorem specSignWithKey (v uk un vb : Value) (T : List (List ByteArray × Int)) (lk ln : List ByteArray) (lb : List Int) (u : Int) (w : World) (h : TabHolds w v T) (gk : Holds Value.string w uk lk) (gn : Holds Value.string w un ln) (gb : Sl.Holds .u8 w vb lb) (hB : Sl.Byt lb) (hl : T.length ≤ 4000000) (hT : smT T) (hk : bulk lk ≤ 1200000) (hn : bulk ln ≤ 1200000) (hlb : lb.length ≤ 1200000) :
    Calls Try.prog 20 #[v, .agg #[uk], .agg #[un], vb, .int .i64 u] w (GivesDB w (sgK T lk ln lb u) (sgOk T lk ln lb u)) := by
  obtain ⟨L, rfl, h⟩ := h
  obtain ⟨xl, nl, cl, rfl, -, -, hh⟩ := h.shapeN
  obtain ⟨xk, nk, ck, rfl, -, -, hk1⟩ := gk.shapeN
  obtain ⟨xn, nn, cn, rfl, -, -, hn1⟩ := gn.shapeN
  obtain ⟨xb, nb, cb, rfl, -, -, hb1⟩ := Holds.shapeN (enc := Value.int .u8) gb
  replace hb1 : Sl.Holds .u8 w (.slice xb nb cb) lb := hb1
  have ha := (Below.refl w.heap.size w).alloc (Nat.le_refl _) (.cells #[.slice xk nk ck] 34)
  have hb := ha.alloc (by simp) (.cells #[.slice xn nn cn] 34)
  have hc := hb.alloc (by simp <;> omega) (.cells (dc (.slice none 0 0) (.slice none 0 0) (.slice none 0 0) 0 0) 40)
  have HB := Lib.hid hc
  have HXK := Lib.hid (((Ret.Box.new w (.slice xk nk ck) 34).on ((Below.refl _ _).alloc (Nat.le_refl _) (.cells #[.slice xn nn cn] 34))).on ((Below.refl _ _).alloc (Nat.le_refl _) (.cells (dc (.slice none 0 0) (.slice none 0 0) (.slice none 0 0) 0 0) 40)))
  have HXN := Lib.hid ((Ret.Box.new' (w := w.alloc (.cells #[.slice xk nk ck] 34)) (.slice xn nn cn) 34 (n := w.heap.size + 1) (by simp)).on ((Below.refl _ _).alloc (Nat.le_refl _) (.cells (dc (.slice none 0 0) (.slice none 0 0) (.slice none 0 0) 0 0) 40)))
  have HR := Lib.hid (Ret.Blk.new' (w := (w.alloc (.cells #[.slice xk nk ck] 34)).alloc (.cells #[.slice xn nn cn] 34)) (n := w.heap.size + 2) (dc (.slice none 0 0) (.slice none 0 0) (.slice none 0 0) 0 0) 40 (by simp))
  have HS := Lib.hid (show (((w.alloc (.cells #[.slice xk nk ck] 34)).alloc (.cells #[.slice xn nn cn] 34)).alloc (.cells (dc (.slice none 0 0) (.slice none 0 0) (.slice none 0 0) 0 0) 40)).heap.size = w.heap.size + 3 by simp)
  have HH := Lib.hid (hh.on hc); have HK := Lib.hid (hk1.on hc); have HN := Lib.hid (hn1.on hc); have HBB := Lib.hid (hb1.on hc)
  have HL := Lib.hid (show (strip L).length ≤ 4000000 from hl); have HT := Lib.hid hT; have HKB := Lib.hid (show bulk lk ≤ 9000000 by omega); have HBY := Lib.hid hB
  have HSM := Lib.hid (show smD (ln, lb, lk, u, 0) from ⟨hn, hlb, hk⟩)
  have HK1 := Lib.hid hk; have HN1 := Lib.hid hn
  obtain ⟨r, hr⟩ : ∃ r, lkN (strip L) lk = r := ⟨_, rfl⟩
  obtain ⟨M, hM⟩ : ∃ M, Seal.mac r (portD (ln, lb, lk, u, 0)) = M := ⟨_, rfl⟩
  obtain ⟨z, hz⟩ : ∃ z, validD (ln, lb, lk, u, M) = z := ⟨_, rfl⟩
  have HRR := Lib.hid hr; have HM := Lib.hid hM; have HZ := Lib.hid hz
  clear ha hb hc hh hk1 hn1 hb1 h gk gn gb hB hl hT hk hn hlb hr hM hz
  go_enter Try.func20, Try.ntmps20
  go_wp2_with fail
  refine signR1 HH HK HN HBB HL HT HKB HBY HSM HRR HM (Lib.hid HXK.out.cell) (Lib.hid HXN.out.cell) ?_
  intro u13 u14 u15 u16 u17 u18 u19 u20 u21 gD ma da mb db mc dc_ ya yb yc w2 hgd hxd hd hb2
  have hs0 : (((w.alloc (.cells #[.slice xk nk ck] 34)).alloc (.cells #[.slice xn nn cn] 34)).alloc (.cells (#[.slice none 0 0, .slice none 0 0, .slice none 0 0, .int .i64 0, .int .i64 0]) 40)).heap.size = w.heap.size + 3 := by simp
  have hs2 := hb2.size
  have hg3 : w.heap.size + 3 ≤ gD := by omega
  have HX := Lib.hid (show Ret.Blk ((((((w2).setCell ⟨gD, 0, none⟩ (.slice ya ma da)).setCell ⟨gD, 1, none⟩ (.slice yb mb db)).setCell ⟨gD, 2, none⟩ (.slice yc mc dc_)).setCell ⟨gD, 3, none⟩ (.int .i64 u)).setCell ⟨gD, 4, none⟩ (.int .i64 M)) gD (dc (.slice ya ma da) (.slice yb mb db) (.slice yc mc dc_) u M) 40 from blk_five hxd)
  have HD := Lib.hid (show DOwn w.heap.size ((((((w2).setCell ⟨gD, 0, none⟩ (.slice ya ma da)).setCell ⟨gD, 1, none⟩ (.slice yb mb db)).setCell ⟨gD, 2, none⟩ (.slice yc mc dc_)).setCell ⟨gD, 3, none⟩ (.int .i64 u)).setCell ⟨gD, 4, none⟩ (.int .i64 M)) (.slice ya ma da) (.slice yb mb db) (.slice yc mc dc_) (ln, lb, lk, u, M) from (hd.mono (by omega)).five hxd)
  replace HXK := Lib.hid (show Ret.Box ((((((w2).setCell ⟨gD, 0, none⟩ (.slice ya ma da)).setCell ⟨gD, 1, none⟩ (.slice yb mb db)).setCell ⟨gD, 2, none⟩ (.slice yc mc dc_)).setCell ⟨gD, 3, none⟩ (.int .i64 u)).setCell ⟨gD, 4, none⟩ (.int .i64 M)) w.heap.size (.slice xk nk ck) 34 from box_five (HXK.out.on hb2) (by omega))
  replace HR := Lib.hid (show Ret.Blk ((((((w2).setCell ⟨gD, 0, none⟩ (.slice ya ma da)).setCell ⟨gD, 1, none⟩ (.slice yb mb db)).setCell ⟨gD, 2, none⟩ (.slice yc mc dc_)).setCell ⟨gD, 3, none⟩ (.int .i64 u)).setCell ⟨gD, 4, none⟩ (.int .i64 M)) (w.heap.size + 2) (dc (.slice none 0 0) (.slice none 0 0) (.slice none 0 0) 0 0) 40 from blk_five_other (HR.out.on hb2) (by omega))
  have HBW := Lib.hid (show Below (((w.alloc (.cells #[.slice xk nk ck] 34)).alloc (.cells #[.slice xn nn cn] 34)).alloc (.cells (#[.slice none 0 0, .slice none 0 0, .slice none 0 0, .int .i64 0, .int .i64 0]) 40)).heap.size (((w.alloc (.cells #[.slice xk nk ck] 34)).alloc (.cells #[.slice xn nn cn] 34)).alloc (.cells (#[.slice none 0 0, .slice none 0 0, .slice none 0 0, .int .i64 0, .int .i64 0]) 40)) ((((((w2).setCell ⟨gD, 0, none⟩ (.slice ya ma da)).setCell ⟨gD, 1, none⟩ (.slice yb mb db)).setCell ⟨gD, 2, none⟩ (.slice yc mc dc_)).setCell ⟨gD, 3, none⟩ (.int .i64 u)).setCell ⟨gD, 4, none⟩ (.int .i64 M)) from below_five hb2 hgd)
  have HSZ := Lib.hid (show w.heap.size + 3 ≤ ((((((w2).setCell ⟨gD, 0, none⟩ (.slice ya ma da)).setCell ⟨gD, 1, none⟩ (.slice yb mb db)).setCell ⟨gD, 2, none⟩ (.slice yc mc dc_)).setCell ⟨gD, 3, none⟩ (.int .i64 u)).setCell ⟨gD, 4, none⟩ (.int .i64 M)).heap.size from by have h1 := HBW.out.size; omega)
  replace HB := Lib.hid (HB.out.trans (HBW.out.mono (by omega)))
  replace HH := Lib.hid (HH.out.on HBW.out); replace HK := Lib.hid (HK.out.on HBW.out)
  clear hgd hxd hd hb2 hs0 hs2 hg3 HBW HS HN HBB HXN
  generalize ((((((w2).setCell ⟨gD, 0, none⟩ (.slice ya ma da)).setCell ⟨gD, 1, none⟩ (.slice yb mb db)).setCell ⟨gD, 2, none⟩ (.slice yc mc dc_)).setCell ⟨gD, 3, none⟩ (.int .i64 u)).setCell ⟨gD, 4, none⟩ (.int .i64 M)) = w3 at *
  have hxk := HXK.out.cell
  go_wp2_with fail
  refine (secV r HRR.out ⟨L, rfl, HH.out⟩ HK.out HL.out HT.out HKB.out).mono ?_
  rintro e w4 ⟨rfl, hb4⟩
  have HSZ4 := Lib.hid (show w.heap.size + 3 ≤ w4.heap.size from by have h1 := HSZ.out; have h2 := hb4.size; omega)
  replace HX := Lib.hid (HX.out.on hb4); replace HD := Lib.hid (HD.out.on hb4); replace HR := Lib.hid (HR.out.on hb4)
  replace HB := Lib.hid (HB.out.trans (hb4.mono HB.out.size))
  clear hb4 hxk HSZ HXK HH HK
  by_cases hr0 : r = 0
  · have ht : (r == 0) = true := by simpa using hr0
    have HOK := Lib.hid (sgOk_zero (n := ln) (b := lb) (u := u) HRR.out ht)
    clear hr0
    obtain ⟨r0, r1, r2, r3, r4⟩ := cells5 HR.out
    obtain ⟨t0, t1, t2, t3, t4⟩ := froz5 HR.out
    have Z1 := Lib.hid (show Ret.Blk ((((((w4).setCell ⟨w.heap.size + 2, 0, none⟩ (.slice none 0 0)).setCell ⟨w.heap.size + 2, 1, none⟩ (.slice none 0 0)).setCell ⟨w.heap.size + 2, 2, none⟩ (.slice none 0 0)).setCell ⟨w.heap.size + 2, 3, none⟩ (.int .i64 0)).setCell ⟨w.heap.size + 2, 4, none⟩ (.int .i64 0)) (w.heap.size + 2) (dc (.slice none 0 0) (.slice none 0 0) (.slice none 0 0) 0 0) 40 from blk_five HR.out)
    have Z2 := Lib.hid (show Below w.heap.size w ((((((w4).setCell ⟨w.heap.size + 2, 0, none⟩ (.slice none 0 0)).setCell ⟨w.heap.size + 2, 1, none⟩ (.slice none 0 0)).setCell ⟨w.heap.size + 2, 2, none⟩ (.slice none 0 0)).setCell ⟨w.heap.size + 2, 3, none⟩ (.int .i64 0)).setCell ⟨w.heap.size + 2, 4, none⟩ (.int .i64 0)) from below_five HB.out (by omega))
    clear HR
    go_wp2_with fail
    refine bodyPost_ret (Ret.results_ct rfl _ _ (w.heap.size + 2) (dc (.slice none 0 0) (.slice none 0 0) (.slice none 0 0) 0 0).toList rfl aggD Z1.out.cells) rfl ?_
    rw [HOK.out, sgK_no HOK.out]
    exact ⟨nil, nil, nil, rfl, dOwn_zero _ _, Z2.out⟩
  · have ht : (r == 0) = false := by simpa using hr0
    have HOKX := Lib.hid (sgOk_val HRR.out ht HM.out HZ.out)
    obtain ⟨s0, s1, s2, s3, s4⟩ := cells5 HX.out
    clear hr0
    go_wp2_with fail
    refine (specValidData _ _ _ (ln, lb, lk, u, M) _ HD.out.hold (Nat.le_trans HN1.out (by decide)) (Nat.le_trans HK1.out (by decide))).mono ?_
    rintro e w5 ⟨rfl, hb5⟩
    rw [HZ.out]
    replace HX := Lib.hid (HX.out.on hb5); replace HD := Lib.hid (HD.out.on hb5); replace HR := Lib.hid (HR.out.on hb5)
    replace HB := Lib.hid (HB.out.trans (hb5.mono HB.out.size))
    clear hb5 s0 s1 s2 s3 s4
    cases z with
    | false =>
      have HOK := Lib.hid HOKX.out.1
      obtain ⟨r0, r1, r2, r3, r4⟩ := cells5 HR.out
      obtain ⟨t0, t1, t2, t3, t4⟩ := froz5 HR.out
      have Z1 := Lib.hid (show Ret.Blk ((((((w5).setCell ⟨w.heap.size + 2, 0, none⟩ (.slice none 0 0)).setCell ⟨w.heap.size + 2, 1, none⟩ (.slice none 0 0)).setCell ⟨w.heap.size + 2, 2, none⟩ (.slice none 0 0)).setCell ⟨w.heap.size + 2, 3, none⟩ (.int .i64 0)).setCell ⟨w.heap.size + 2, 4, none⟩ (.int .i64 0)) (w.heap.size + 2) (dc (.slice none 0 0) (.slice none 0 0) (.slice none 0 0) 0 0) 40 from blk_five HR.out)
      have Z2 := Lib.hid (show Below w.heap.size w ((((((w5).setCell ⟨w.heap.size + 2, 0, none⟩ (.slice none 0 0)).setCell ⟨w.heap.size + 2, 1, none⟩ (.slice none 0 0)).setCell ⟨w.heap.size + 2, 2, none⟩ (.slice none 0 0)).setCell ⟨w.heap.size + 2, 3, none⟩ (.int .i64 0)).setCell ⟨w.heap.size + 2, 4, none⟩ (.int .i64 0)) from below_five HB.out (by omega))
      clear HR
      go_wp2_with fail
      refine bodyPost_ret (Ret.results_ct rfl _ _ (w.heap.size + 2) (dc (.slice none 0 0) (.slice none 0 0) (.slice none 0 0) 0 0).toList rfl aggD Z1.out.cells) rfl ?_
      rw [HOK.out, sgK_no HOK.out]
      exact ⟨nil, nil, nil, rfl, dOwn_zero _ _, Z2.out⟩
    | true =>
      have HOK := Lib.hid HOKX.out.1; have HSX := Lib.hid HOKX.out.2
      obtain ⟨r0, r1, r2, r3, r4⟩ := cells5 HR.out
      obtain ⟨t0, t1, t2, t3, t4⟩ := froz5 HR.out
      have Z1 := Lib.hid (show Ret.Blk ((((((w5).setCell ⟨w.heap.size + 2, 0, none⟩ (.slice ya ma da)).setCell ⟨w.heap.size + 2, 1, none⟩ (.slice yb mb db)).setCell ⟨w.heap.size + 2, 2, none⟩ (.slice yc mc dc_)).setCell ⟨w.heap.size + 2, 3, none⟩ (.int .i64 u)).setCell ⟨w.heap.size + 2, 4, none⟩ (.int .i64 M)) (w.heap.size + 2) (dc (.slice ya ma da) (.slice yb mb db) (.slice yc mc dc_) u M) 40 from blk_five HR.out)
      have Z2 := Lib.hid (show Below w.heap.size w ((((((w5).setCell ⟨w.heap.size + 2, 0, none⟩ (.slice ya ma da)).setCell ⟨w.heap.size + 2, 1, none⟩ (.slice yb mb db)).setCell ⟨w.heap.size + 2, 2, none⟩ (.slice yc mc dc_)).setCell ⟨w.heap.size + 2, 3, none⟩ (.int .i64 u)).setCell ⟨w.heap.size + 2, 4, none⟩ (.int .i64 M)) from below_five HB.out (by omega))
      have Z3 := Lib.hid (show DOwn w.heap.size ((((((w5).setCell ⟨w.heap.size + 2, 0, none⟩ (.slice ya ma da)).setCell ⟨w.heap.size + 2, 1, none⟩ (.slice yb mb db)).setCell ⟨w.heap.size + 2, 2, none⟩ (.slice yc mc dc_)).setCell ⟨w.heap.size + 2, 3, none⟩ (.int .i64 u)).setCell ⟨w.heap.size + 2, 4, none⟩ (.int .i64 M)) (.slice ya ma da) (.slice yb mb db) (.slice yc mc dc_) (ln, lb, lk, u, M) from HD.out.five HR.out)
      obtain ⟨s0, s1, s2, s3, s4⟩ := cells5 HX.out
      clear HR
      clear HX
      go_wp2_with fail
      refine bodyPost_ret (Ret.results_ct rfl _ _ (w.heap.size + 2) (dc (.slice ya ma da) (.slice yb mb db) (.slice yc mc dc_) u M).toList rfl aggD Z1.out.cells) rfl ?_
      rw [HOK.out, sgK_yes HOK.out, HSX.out]
      exact ⟨_, _, _, rfl, Z3.out, Z2.out⟩

set_option maxHeartbeats 8000000 in
theorem implSignWithKey (v uk un vb : Value) (T : List (List ByteArray × Int)) (lk ln : List ByteArray) (lb : List Int) (u : Int) (w : World) (h : TabHolds w v T) (gk : Holds Value.string w uk lk) (gn : Holds Value.string w un ln) (gb : Sl.Holds .u8 w vb lb) (hB : Sl.Byt lb) (hl : T.length ≤ 4000000) (hT : smT T) (hk : bulk lk ≤ 1200000) (hn : bulk ln ≤ 1200000) (hlb : lb.length ≤ 1200000) :
    Calls Try.prog 22 #[v, .agg #[uk], .agg #[un], vb, .int .i64 u] w (GivesDB w (sgK T lk ln lb u) (sgOk T lk ln lb u)) := by
  obtain ⟨L, rfl, h⟩ := h
  obtain ⟨xl, nl, cl, rfl, -, -, hh⟩ := h.shapeN
  obtain ⟨xk, nk, ck, rfl, -, -, hk1⟩ := gk.shapeN
  obtain ⟨xn, nn, cn, rfl, -, -, hn1⟩ := gn.shapeN
  obtain ⟨xb, nb, cb, rfl, -, -, hb1⟩ := Holds.shapeN (enc := Value.int .u8) gb
  replace hb1 : Sl.Holds .u8 w (.slice xb nb cb) lb := hb1
  have ha := (Below.refl w.heap.size w).alloc (Nat.le_refl _) (.cells #[.slice xk nk ck] 34)
  have hb := ha.alloc (by simp) (.cells #[.slice xn nn cn] 34)
  have hc := hb.alloc (by simp <;> omega) (.cells (dc (.slice none 0 0) (.slice none 0 0) (.slice none 0 0) 0 0) 40)
  have HB := Lib.hid hc
  have HXK := Lib.hid (((Ret.Box.new w (.slice xk nk ck) 34).on ((Below.refl _ _).alloc (Nat.le_refl _) (.cells #[.slice xn nn cn] 34))).on ((Below.refl _ _).alloc (Nat.le_refl _) (.cells (dc (.slice none 0 0) (.slice none 0 0) (.slice none 0 0) 0 0) 40)))
  have HXN := Lib.hid ((Ret.Box.new' (w := w.alloc (.cells #[.slice xk nk ck] 34)) (.slice xn nn cn) 34 (n := w.heap.size + 1) (by simp)).on ((Below.refl _ _).alloc (Nat.le_refl _) (.cells (dc (.slice none 0 0) (.slice none 0 0) (.slice none 0 0) 0 0) 40)))
  have HR := Lib.hid (Ret.Blk.new' (w := (w.alloc (.cells #[.slice xk nk ck] 34)).alloc (.cells #[.slice xn nn cn] 34)) (n := w.heap.size + 2) (dc (.slice none 0 0) (.slice none 0 0) (.slice none 0 0) 0 0) 40 (by simp))
  have HS := Lib.hid (show (((w.alloc (.cells #[.slice xk nk ck] 34)).alloc (.cells #[.slice xn nn cn] 34)).alloc (.cells (dc (.slice none 0 0) (.slice none 0 0) (.slice none 0 0) 0 0) 40)).heap.size = w.heap.size + 3 by simp)
  have HH := Lib.hid (hh.on hc); have HK := Lib.hid (hk1.on hc); have HN := Lib.hid (hn1.on hc); have HBB := Lib.hid (hb1.on hc)
  have HL := Lib.hid (show (strip L).length ≤ 4000000 from hl); have HT := Lib.hid hT; have HKB := Lib.hid (show bulk lk ≤ 9000000 by omega); have HBY := Lib.hid hB
  have HSM := Lib.hid (show smD (ln, lb, lk, u, 0) from ⟨hn, hlb, hk⟩)
  have HK1 := Lib.hid hk; have HN1 := Lib.hid hn
  obtain ⟨r, hr⟩ : ∃ r, lkN (strip L) lk = r := ⟨_, rfl⟩
  obtain ⟨M, hM⟩ : ∃ M, Seal.mac r (portD (ln, lb, lk, u, 0)) = M := ⟨_, rfl⟩
  obtain ⟨z, hz⟩ : ∃ z, validD (ln, lb, lk, u, M) = z := ⟨_, rfl⟩
  have HRR := Lib.hid hr; have HM := Lib.hid hM; have HZ := Lib.hid hz
  clear ha hb hc hh hk1 hn1 hb1 h gk gn gb hB hl hT hk hn hlb hr hM hz
  go_enter Try.func22, Try.ntmps22
  have hxk := HXK.out.cell
  go_wp2_with fail
  refine (isecV r HRR.out ⟨L, rfl, HH.out⟩ HK.out HL.out HT.out HKB.out).mono ?_
  rintro e w1 ⟨rfl, hb1⟩
  have HSZ1 := Lib.hid (show w.heap.size + 3 ≤ w1.heap.size from by have h1 := HS.out; have h2 := hb1.size; omega)
  replace HXK := Lib.hid (HXK.out.on hb1); replace HXN := Lib.hid (HXN.out.on hb1); replace HR := Lib.hid (HR.out.on hb1)
  have HD0 := Lib.hid (show DHold w1 (.slice xn nn cn) (.slice xb nb cb) (.slice xk nk ck) (ln, lb, lk, u, 0) from ⟨HN.out.on hb1, HBB.out.on hb1, HK.out.on hb1⟩)
  replace HB := Lib.hid (HB.out.trans (hb1.mono HB.out.size))
  clear hb1 hxk HS HH HK HN HBB
  by_cases hr0 : r = 0
  · have ht : (r == 0) = true := by simpa using hr0
    have HOK := Lib.hid (sgOk_zero (n := ln) (b := lb) (u := u) HRR.out ht)
    clear hr0
    obtain ⟨r0, r1, r2, r3, r4⟩ := cells5 HR.out
    obtain ⟨t0, t1, t2, t3, t4⟩ := froz5 HR.out
    have Z1 := Lib.hid (show Ret.Blk ((((((w1).setCell ⟨w.heap.size + 2, 0, none⟩ (.slice none 0 0)).setCell ⟨w.heap.size + 2, 1, none⟩ (.slice none 0 0)).setCell ⟨w.heap.size + 2, 2, none⟩ (.slice none 0 0)).setCell ⟨w.heap.size + 2, 3, none⟩ (.int .i64 0)).setCell ⟨w.heap.size + 2, 4, none⟩ (.int .i64 0)) (w.heap.size + 2) (dc (.slice none 0 0) (.slice none 0 0) (.slice none 0 0) 0 0) 40 from blk_five HR.out)
    have Z2 := Lib.hid (show Below w.heap.size w ((((((w1).setCell ⟨w.heap.size + 2, 0, none⟩ (.slice none 0 0)).setCell ⟨w.heap.size + 2, 1, none⟩ (.slice none 0 0)).setCell ⟨w.heap.size + 2, 2, none⟩ (.slice none 0 0)).setCell ⟨w.heap.size + 2, 3, none⟩ (.int .i64 0)).setCell ⟨w.heap.size + 2, 4, none⟩ (.int .i64 0)) from below_five HB.out (by omega))
    clear HR
    go_wp2_with fail
    refine bodyPost_ret (Ret.results_ct rfl _ _ (w.heap.size + 2) (dc (.slice none 0 0) (.slice none 0 0) (.slice none 0 0) 0 0).toList rfl aggD Z1.out.cells) rfl ?_
    rw [HOK.out, sgK_no HOK.out]
    exact ⟨nil, nil, nil, rfl, dOwn_zero _ _, Z2.out⟩
  · have ht : (r == 0) = false := by simpa using hr0
    have HOKX := Lib.hid (sgOk_val HRR.out ht HM.out HZ.out)
    have hxk := HXK.out.cell; have hxn := HXN.out.cell
    clear hr0
    go_wp2_with fail
    refine (implSignV M HM.out HD0.out HBY.out HSM.out).mono ?_
    rintro e w2 ⟨ya, ma, da, yb, mb, db, yc, mc, dc_, rfl, hd, hb2⟩
    have hal := (Below.refl w2.heap.size w2).alloc (Nat.le_refl _) (.cells (dc (.slice ya ma da) (.slice yb mb db) (.slice yc mc dc_) u M) 40)
    have HSZ2 := Lib.hid (show w.heap.size + 3 ≤ w2.heap.size from by have h1 := HSZ1.out; have h2 := hb2.size; omega)
    have HX := Lib.hid (Ret.Blk.new w2 (dc (.slice ya ma da) (.slice yb mb db) (.slice yc mc dc_) u M) 40)
    have HD := Lib.hid (show DOwn w.heap.size (w2.alloc (.cells (dc (.slice ya ma da) (.slice yb mb db) (.slice yc mc dc_) u M) 40)) (.slice ya ma da) (.slice yb mb db) (.slice yc mc dc_) (ln, lb, lk, u, M) from (hd.mono (by have h1 := HSZ1.out; omega)).on hal)
    replace HR := Lib.hid ((HR.out.on hb2).on hal)
    replace HB := Lib.hid ((HB.out.trans (hb2.mono HB.out.size)).trans (hal.mono (by have h1 := HSZ2.out; omega)))
    have HSZ3 := Lib.hid (show w.heap.size + 3 ≤ (w2.alloc (.cells (dc (.slice ya ma da) (.slice yb mb db) (.slice yc mc dc_) u M) 40)).heap.size from by rw [World.size_alloc]; have h1 := HSZ2.out; omega)
    obtain ⟨s0, s1, s2, s3, s4⟩ := cells5 HX.out
    clear hd hb2 hal hxk hxn HD0 HXK HXN HSZ1
    go_wp2_with fail
    refine (implValidData _ _ _ (ln, lb, lk, u, M) _ HD.out.hold (Nat.le_trans HN1.out (by decide)) (Nat.le_trans HK1.out (by decide))).mono ?_
    rintro e w5 ⟨rfl, hb5⟩
    rw [HZ.out]
    replace HX := Lib.hid (HX.out.on hb5); replace HD := Lib.hid (HD.out.on hb5); replace HR := Lib.hid (HR.out.on hb5)
    replace HB := Lib.hid (HB.out.trans (hb5.mono HB.out.size))
    clear hb5 s0 s1 s2 s3 s4
    cases z with
    | false =>
      have HOK := Lib.hid HOKX.out.1
      obtain ⟨r0, r1, r2, r3, r4⟩ := cells5 HR.out
      obtain ⟨t0, t1, t2, t3, t4⟩ := froz5 HR.out
      have Z1 := Lib.hid (show Ret.Blk ((((((w5).setCell ⟨w.heap.size + 2, 0, none⟩ (.slice none 0 0)).setCell ⟨w.heap.size + 2, 1, none⟩ (.slice none 0 0)).setCell ⟨w.heap.size + 2, 2, none⟩ (.slice none 0 0)).setCell ⟨w.heap.size + 2, 3, none⟩ (.int .i64 0)).setCell ⟨w.heap.size + 2, 4, none⟩ (.int .i64 0)) (w.heap.size + 2) (dc (.slice none 0 0) (.slice none 0 0) (.slice none 0 0) 0 0) 40 from blk_five HR.out)
      have Z2 := Lib.hid (show Below w.heap.size w ((((((w5).setCell ⟨w.heap.size + 2, 0, none⟩ (.slice none 0 0)).setCell ⟨w.heap.size + 2, 1, none⟩ (.slice none 0 0)).setCell ⟨w.heap.size + 2, 2, none⟩ (.slice none 0 0)).setCell ⟨w.heap.size + 2, 3, none⟩ (.int .i64 0)).setCell ⟨w.heap.size + 2, 4, none⟩ (.int .i64 0)) from below_five HB.out (by omega))
      clear HR
      go_wp2_with fail
      refine bodyPost_ret (Ret.results_ct rfl _ _ (w.heap.size + 2) (dc (.slice none 0 0) (.slice none 0 0) (.slice none 0 0) 0 0).toList rfl aggD Z1.out.cells) rfl ?_
      rw [HOK.out, sgK_no HOK.out]
      exact ⟨nil, nil, nil, rfl, dOwn_zero _ _, Z2.out⟩
    | true =>
      have HOK := Lib.hid HOKX.out.1; have HSX := Lib.hid HOKX.out.2
      obtain ⟨r0, r1, r2, r3, r4⟩ := cells5 HR.out
      obtain ⟨t0, t1, t2, t3, t4⟩ := froz5 HR.out
      have Z1 := Lib.hid (show Ret.Blk ((((((w5).setCell ⟨w.heap.size + 2, 0, none⟩ (.slice ya ma da)).setCell ⟨w.heap.size + 2, 1, none⟩ (.slice yb mb db)).setCell ⟨w.heap.size + 2, 2, none⟩ (.slice yc mc dc_)).setCell ⟨w.heap.size + 2, 3, none⟩ (.int .i64 u)).setCell ⟨w.heap.size + 2, 4, none⟩ (.int .i64 M)) (w.heap.size + 2) (dc (.slice ya ma da) (.slice yb mb db) (.slice yc mc dc_) u M) 40 from blk_five HR.out)
      have Z2 := Lib.hid (show Below w.heap.size w ((((((w5).setCell ⟨w.heap.size + 2, 0, none⟩ (.slice ya ma da)).setCell ⟨w.heap.size + 2, 1, none⟩ (.slice yb mb db)).setCell ⟨w.heap.size + 2, 2, none⟩ (.slice yc mc dc_)).setCell ⟨w.heap.size + 2, 3, none⟩ (.int .i64 u)).setCell ⟨w.heap.size + 2, 4, none⟩ (.int .i64 M)) from below_five HB.out (by omega))
      have Z3 := Lib.hid (show DOwn w.heap.size ((((((w5).setCell ⟨w.heap.size + 2, 0, none⟩ (.slice ya ma da)).setCell ⟨w.heap.size + 2, 1, none⟩ (.slice yb mb db)).setCell ⟨w.heap.size + 2, 2, none⟩ (.slice yc mc dc_)).setCell ⟨w.heap.size + 2, 3, none⟩ (.int .i64 u)).setCell ⟨w.heap.size + 2, 4, none⟩ (.int .i64 M)) (.slice ya ma da) (.slice yb mb db) (.slice yc mc dc_) (ln, lb, lk, u, M) from HD.out.five HR.out)
      obtain ⟨s0, s1, s2, s3, s4⟩ := cells5 HX.out
      clear HR
      clear HX
      go_wp2_with fail
      refine bodyPost_ret (Ret.results_ct rfl _ _ (w.heap.size + 2) (dc (.slice ya ma da) (.slice yb mb db) (.slice yc mc dc_) u M).toList rfl aggD Z1.out.cells) rfl ?_
      rw [HOK.out, sgK_yes HOK.out, HSX.out]
      exact ⟨_, _, _, rfl, Z3.out, Z2.out⟩
end Go.Proofs.Ytnblopilgfdjkaa.Row.Ring
/- Lists of keys, and a key, in the words of the exact laws; chapter 9's functions, the model's and the program's, in these words. No conditions but that lengths fit. -/
namespace Go.Proofs.Ytnblopilgfdjkaa.Row.Ring
open Go.ChangeShapes Go.WideShapes Go.ChangeAt Go.RowKit Go.Instr
set_option linter.unusedVariables false
set_option maxRecDepth 100000

abbrev Kt := List (List ByteArray × Int)
def kK.At (w : World) (V : Value) (T : Kt) : Prop := TabHolds w V T
def kK.In (B E : Nat) (w : World) (V : Value) (T : Kt) : Prop := TabIn B E w V T
section
variable {B E B' E' : Nat} {w w' : World} {V : Value} {T : Kt}
theorem kK.At.on (h : kK.At w V T) (hb : Below w.heap.size w w') : kK.At w' V T := TabHolds.on h hb
theorem kK.In.on (h : kK.In B E w V T) (hb : Below w.heap.size w w') : kK.In B E w' V T := TabIn.on h hb
theorem kK.In.at (h : kK.In B E w V T) : kK.At w V T := TabIn.holds h
theorem kK.In.wrote (h : kK.In B E w V T) (hw : Wrote B' E' w w') (hn : E ≤ B' ∨ E' ≤ B) : kK.In B E w' V T := TabIn.wrote h hw hn
theorem kK_shape (h : kK.In B E w V T) : ∃ x n c, V = .slice x n c ∧ kK.In B E w (.slice x n c) T := by
  obtain ⟨x, n, c, rfl, -, -, -⟩ := (TabIn.holds h).shapeN
  exact ⟨x, n, c, rfl, h⟩
theorem kK_shapeA (h : kK.At w V T) : ∃ x n c, V = .slice x n c ∧ kK.At w (.slice x n c) T := by
  obtain ⟨x, n, c, rfl, -, -, h⟩ := TabHolds.shapeN h
  exact ⟨x, n, c, rfl, h⟩
end
theorem adv_big {T : Kt} {n : Nat} (h : bulkT T ≤ n) : adv T ≤ n := Nat.le_trans (adv_bulk T) h
theorem lnT_adv {T : Kt} (h : adv T ≤ 9000000) : lnT T := fun t ht => by
  obtain ⟨j, hj, rfl⟩ := List.getElem_of_mem ht
  have h1 := adv_take hj
  have h2 := adv_take_le T (j + 1)
  rw [nth_eq hj] at h1
  omega
theorem szKK (V : Value) (T : Kt) (w : World) (left : Int) (h : kK.At w V T) (hl : T.length ≤ 9223372036854775807) (hs : ∀ t ∈ T, t.1.length ≤ 9223372036854775807 ∧ (∀ x ∈ t.1, x.size ≤ maxLen) ∧ (Lit.int .i64 t.2).wf = true) (h0 : 0 ≤ left) (h1 : left ≤ 1048576) :
    Calls Try.prog 10 #[V, .int .i64 left] w fun e w' => e = .returned (.int .i64 (szLT T left)) ∧ Below w.heap.size w w' :=
  szKeyS V T w left h hl (fun t ht => ⟨(hs t ht).1, (hs t ht).2.1⟩) h0 h1
theorem toKK (V : Value) (T : Kt) (w : World) (h : kK.At w V T) (hl : bulkT T ≤ 9000000) :
    Calls Try.prog 12 #[V] w fun e w' => ∃ U, e = .returned U ∧ kK.In w.heap.size w'.heap.size w' U T ∧ Below w.heap.size w w' :=
  (toKeyS V T w h (by have := bulkT_len T; omega) (fun t ht => by have := bulkT_mem ht; have := bulk_len t.1; omega)).mono fun e w' ⟨v, a, b, c⟩ => ⟨v, a, TabIn.of b |> fun h => (by
    obtain ⟨L, e, h, h1, h2⟩ := h
    exact ⟨L, e, h, h1, h2⟩), c⟩
theorem sameKK (V U : Value) (T : Kt) (w : World) (h : kK.At w V T) (g : kK.At w U T) (hl : adv T ≤ 9000000) :
    Calls Try.prog 14 #[V, U] w fun e w' => e = .returned (.bool true) ∧ Below w.heap.size w w' := by
  have hl2 : T.length ≤ 140737488351232 := by have := adv_len T; omega
  have := eqKeyS V U T T w h g hl2 hl2 (lnT_adv hl) (lnT_adv hl)
  rwa [eqT_self] at this
theorem markKK (B E : Nat) (V : Value) (T : Kt) (w : World) (k : Int) (h : kK.In B E w V T) (hl : adv T ≤ 100000000) (h0 : 0 ≤ k) (h1 : k ≤ 1000000000) :
    Calls Try.prog 25 #[V, .int .i64 k] w fun e w' => e = .returned (.int .i64 (k + (adv T : Int))) ∧ kK.In B E w' V (markTb k T) ∧ Wrote B E w w' := markKeyS B E V T w k h hl h0 (by omega)
theorem heldKK (V : Value) (w : World) (k : Int) (T : Kt) (h : kK.At w V (markTb k T)) (hl : adv T ≤ 100000000) (h0 : 0 ≤ k) (h1 : k ≤ 1000000000) :
    Calls Try.prog 45 #[V, .int .i64 k] w fun e w' => e = .returned (.int .i64 (k + (adv T : Int))) ∧ Below w.heap.size w w' := heldKeyS V w k T h hl h0 (by omega)

/-! ### a key -/
abbrev K1 := List ByteArray × Int
def k1.At (w : World) (V : Value) (x : K1) : Prop := ∃ v, V = .agg #[v, .int .i64 x.2] ∧ Holds Value.string w v x.1
def k1.In (B E : Nat) (w : World) (V : Value) (x : K1) : Prop := ∃ v, V = .agg #[v, .int .i64 x.2] ∧ Own 9 Value.string B w v x.1 ∧ ∀ g, v.ownBlock = some g → g < E
section
variable {B E B' E' : Nat} {w w' : World} {V : Value} {x : K1}
theorem k1.At.on (h : k1.At w V x) (hb : Below w.heap.size w w') : k1.At w' V x := by
  obtain ⟨v, rfl, h⟩ := h
  exact ⟨v, rfl, h.on hb⟩
theorem k1.In.on (h : k1.In B E w V x) (hb : Below w.heap.size w w') : k1.In B E w' V x := by
  obtain ⟨v, rfl, h, h1⟩ := h
  exact ⟨v, rfl, h.on hb, h1⟩
theorem k1.In.at (h : k1.In B E w V x) : k1.At w V x := by
  obtain ⟨v, rfl, h, h1⟩ := h
  exact ⟨v, rfl, h.holds⟩
theorem k1.In.wrote (h : k1.In B E w V x) (hw : Wrote B' E' w w') (hn : E ≤ B' ∨ E' ≤ B) : k1.In B E w' V x := by
  obtain ⟨v, rfl, h, h1⟩ := h
  exact ⟨v, rfl, hw.row h (fun g hg => by have := (h.lt g hg).1; have := h1 g hg; omega), h1⟩
theorem k1_shape (h : k1.In B E w V x) : ∃ y n c, V = .agg #[.slice y n c, .int .i64 x.2] ∧ k1.In B E w (.agg #[.slice y n c, .int .i64 x.2]) x := by
  obtain ⟨v, rfl, h, h1⟩ := h
  obtain ⟨y, n, c, rfl, -⟩ := h.shapeN
  exact ⟨y, n, c, rfl, _, rfl, h, h1⟩
theorem k1_shapeA (h : k1.At w V x) : ∃ y n c, V = .agg #[.slice y n c, .int .i64 x.2] ∧ k1.At w (.agg #[.slice y n c, .int .i64 x.2]) x := by
  obtain ⟨v, rfl, h⟩ := h
  obtain ⟨y, n, c, rfl, -⟩ := h.shapeN
  exact ⟨y, n, c, rfl, _, rfl, h⟩
end
def WfK1 (x : K1) : Prop := (∀ y ∈ x.1, y.size ≤ maxLen) ∧ (Lit.int .i64 x.2).wf = true
def mk1 (k : Int) (x : K1) : K1 := (marks markT k x.1.length, x.2)
theorem szk1 (V : Value) (x : K1) (w : World) (left : Int) (h : k1.At w V x) (hl : x.1.length ≤ 9223372036854775807) (hs : WfK1 x) (h0 : 0 ≤ left) (h1 : left ≤ 1048576) :
    Calls Try.prog 39 #[V, .int .i64 left] w fun e w' => e = .returned (.int .i64 (szL x.1 left)) ∧ Below w.heap.size w w' := by
  obtain ⟨v, rfl, h⟩ := h
  exact szKey v x.1 x.2 w left h hl hs.1 h0 h1
theorem tok1 (V : Value) (x : K1) (w : World) (h : k1.At w V x) (hl : bulk x.1 ≤ 9000000) :
    Calls Try.prog 41 #[V] w fun e w' => ∃ U, e = .returned U ∧ k1.In w.heap.size w'.heap.size w' U x ∧ Below w.heap.size w w' := by
  obtain ⟨v, rfl, h⟩ := h
  exact (toKey v x.1 x.2 w h (by have := bulk_len x.1; omega)).mono fun e w' ⟨u, a, b, c⟩ => ⟨_, a, ⟨u, rfl, b, fun g hg => (b.lt g hg).2⟩, c⟩
theorem samek1 (V U : Value) (x : K1) (w : World) (h : k1.At w V x) (g : k1.At w U x) (hl : x.1.length ≤ 9000000) :
    Calls Try.prog 43 #[V, U] w fun e w' => e = .returned (.bool true) ∧ Below w.heap.size w w' := by
  obtain ⟨v, rfl, h⟩ := h
  obtain ⟨u, rfl, g⟩ := g
  exact eqKey v u x x w true (by simp) h g (by omega) (by omega)
set_option maxHeartbeats 1000000 in
theorem markk1 (B E : Nat) (V : Value) (x : K1) (w : World) (k : Int) (h : k1.In B E w V x) (hl : x.1.length ≤ 100000000) (h0 : 0 ≤ k) (h1 : k ≤ 1000000000) :
    Calls Try.prog 44 #[V, .int .i64 k] w fun e w' => e = .returned (.int .i64 (k + (x.1.length : Int))) ∧ k1.In B E w' V (mk1 k x) ∧ Wrote B E w w' := by
  obtain ⟨l, s⟩ := x
  obtain ⟨v, rfl, h, hE⟩ := h
  obtain ⟨y, n, c, rfl, -, -, h⟩ := h.shapeN
  simp only at h hl ⊢
  have hal := (Below.refl w.heap.size w).alloc (Nat.le_refl _) (.cells #[.slice y n c, .int .i64 s] 67)
  have HO := Lib.hid (h.on hal); have HB := Lib.hid hal; have HE := Lib.hid hE; have HLT := Lib.hid (fun g hg => (h.lt g hg).1)
  clear h hE hal
  go_enter Try.func44, Try.ntmps44
  go_wp2_with fail
  refine (markName B _ l _ k HO.out hl h0 (by omega)).mono ?_
  rintro e w' ⟨rfl, ho, hg⟩
  have HO2 := Lib.hid ho
  have HW := Lib.hid ((Wrote.ofBelow (B := B) (E := E) HB.out).trans (Wrote.of hg (fun g hg => ⟨HLT.out g hg, HE.out g hg⟩)))
  clear ho hg
  go_wp2_with fail
  go_ret
  exact ⟨rfl, ⟨_, rfl, HO2.out, HE.out⟩, HW.out⟩
/-- A key as it came in. -/
theorem open_key {H : Type} {enc : TypeId × Value → H} {P : Program} {w : World} {base b2 : Nat} {held : Bool} {t ep : TypeId} {v : Value} {d : DataW H} {p : List MemPlace} {f0 f1 g0 : Field}
    (he : P.underlying t = some (.struct #[f0, f1])) (hN : P.underlying f0.type = some (.struct #[g0])) (hg : P.underlying g0.type = some (.slice ep)) (hs : P.underlying ep = some .string) (hI : P.underlying f1.type = some (.int .i64))
    (ho0 : f0.offset = 0) (ho1 : f1.offset = 1) (hog : g0.offset = 0) (hc0 : P.cellsOf f0.type = 1) (hc1 : P.cellsOf f1.type = 1) (hcg : P.cellsOf g0.type = 1) (hcs : P.cellsOf ep = 1) (hC : P.cellsOf t = 2)
    (hv : Value.okWide P w .any base t v) (h : DataW.Trod enc P w b2 (fun _ => true) held t v d p) :
    ∃ x, k1.At w v x ∧ WfK1 x ∧ x.1.length ≤ 9223372036854775807 := by
  obtain ⟨cs, rfl, hcz⟩ := okWide_struct he hv
  obtain ⟨fuel, hfu⟩ := h
  obtain ⟨y0, y1, n2, -, -, q0, q1⟩ := trod_struct2 he hfu
  rw [ho0, hc0] at q0
  rw [ho1, hc1] at q1
  obtain ⟨z0, n3, -, -, q0⟩ := trod_struct1 hN q0
  rw [hog, hcg] at q0
  obtain ⟨ad, k, c, l, e0, hh, hz, hln⟩ := open_strs1 hg hs hcs q0
  obtain ⟨v1, e1, -, w1⟩ := DataW.trod_int hI q1
  rw [hC] at hcz
  obtain ⟨u0, u1, rfl⟩ : ∃ u0 u1, cs = #[u0, u1] := by
    obtain ⟨l⟩ := cs
    match l, hcz with
    | [u0, u1], _ => exact ⟨u0, u1, rfl⟩
  simp [Value.cells] at e0 e1
  subst e0 e1
  exact ⟨(l, v1), ⟨_, rfl, hh⟩, ⟨hz, w1⟩, hln⟩

/-! ### the functions -/
theorem len_bulkT {T : Kt} (h : bulkT T ≤ 1200000) : T.length ≤ 3000000 := by have := bulkT_len T; omega
theorem sm_bulkT {T : Kt} (h : bulkT T ≤ 1200000) : smT T := smT_of (by omega)
theorem addK_adv (T : Kt) (x : K1) : adv (addK T x) ≤ adv T + x.1.length + 1 := by
  unfold addK
  split
  · rw [adv_append]; simp [adv]; omega
  · omega
theorem matK_len (T : Kt) (x : Dt) : (matK T x).length ≤ adv T := Nat.le_trans (matTo_le T x _) (adv_len T)
theorem sgK_adv (T : Kt) (key n : List ByteArray) (b : List Int) (u : Int) : advD (sgK T key n b u) ≤ n.length + b.length + key.length + 2 := by
  unfold sgK
  split
  · unfold sgX; rw [sgD_adv]; unfold advD; simp only; omega
  · unfold zD advD; simp
theorem of_ring {w : World} {V : Value} {T : Kt} {B : Nat} (h : TabOwn B w V T) : kK.In B w.heap.size w V T := TabIn.of h
theorem specValidKeysK (V : Value) (T : Kt) (w : World) (h : kK.At w V T) (hl : bulkT T ≤ 1200000) :
    Calls Try.prog 11 #[V] w fun e w' => e = .returned (.bool (validK T)) ∧ Below w.heap.size w w' := specValidKeys V T w h (Nat.le_trans (len_bulkT hl) (by decide)) (sm_bulkT hl)
theorem specSecretOfK (V U : Value) (T : Kt) (m : List ByteArray) (w : World) (h : kK.At w V T) (g : kN.At w U m) (hl : bulkT T ≤ 1200000) (hm : bulk m ≤ 1200000) :
    Calls Try.prog 16 #[V, U] w fun e w' => e = .returned (.int .i64 (lkN T m)) ∧ Below w.heap.size w w' := by
  obtain ⟨v, rfl, g9⟩ := kN_at g
  exact specSecretOf V v T m w h g9 (Nat.le_trans (len_bulkT hl) (by decide)) (sm_bulkT hl) (by omega)
theorem specSignWithKeyK (V U1 U2 U3 : Value) (T : Kt) (lk ln : List ByteArray) (lb : List Int) (u : Int) (w : World) (h : kK.At w V T) (g1 : kN.At w U1 lk) (g2 : kN.At w U2 ln) (g3 : kB.At w U3 lb) (hB : Sl.Byt lb) (hl : bulkT T ≤ 1200000) (h1 : bulk lk ≤ 1200000) (h2 : bulk ln ≤ 1200000) (h3 : lb.length ≤ 1200000) :
    Calls Try.prog 20 #[V, U1, U2, U3, .int .i64 u] w fun e w' => ∃ X, e = .returned (.tuple #[X, .bool (sgOk T lk ln lb u)]) ∧ kD.In w.heap.size w'.heap.size w' X (sgK T lk ln lb u) ∧ Below w.heap.size w w' := by
  obtain ⟨v1, rfl, g8⟩ := kN_at g1
  obtain ⟨v2, rfl, g9⟩ := kN_at g2
  exact giveDB (specSignWithKey V v1 v2 U3 T lk ln lb u w h g8 g9 (kS_at g3) hB (Nat.le_trans (len_bulkT hl) (by decide)) (sm_bulkT hl) h1 h2 h3)
theorem specVerifySignatureK (V U : Value) (T : Kt) (x : Dt) (w : World) (h : kK.At w V T) (g : kD.At w U x) (gn : WfD x) (hl : bulkT T ≤ 1200000) (hx : bulkD x ≤ 1200000) :
    Calls Try.prog 31 #[V, U] w fun e w' => e = .returned (.bool (verD (lkN T x.2.2.1) x)) ∧ Below w.heap.size w w' := specVerifySignature V U T x w h g gn (Nat.le_trans (len_bulkT hl) (by decide)) (sm_bulkT hl) hx
theorem specMatchingKeysK (V U : Value) (T : Kt) (x : Dt) (w : World) (h : kK.At w V T) (g : kD.At w U x) (gn : WfD x) (hl : bulkT T ≤ 1200000) (hx : bulkD x ≤ 1200000) :
    Calls Try.prog 34 #[V, U] w fun e w' => ∃ U, e = .returned U ∧ kI.In w.heap.size w'.heap.size w' U (matK T x) ∧ Below w.heap.size w w' := giveI (specMatchingKeys V U T x w h g gn (Nat.le_trans (len_bulkT hl) (by decide)) (sm_bulkT hl) hx)
theorem specAddKeyK (V U : Value) (T : Kt) (x : K1) (w : World) (h : kK.At w V T) (g : k1.At w U x) (hl : bulkT T ≤ 1200000) (hx : bulk x.1 ≤ 1200000) :
    Calls Try.prog 40 #[V, U] w fun e w' => ∃ X, e = .returned (.tuple #[X, .bool (validK (T ++ [x]))]) ∧ kK.In w.heap.size w'.heap.size w' X (addK T x) ∧ Below w.heap.size w w' := by
  obtain ⟨v, rfl, g⟩ := g
  exact (specAddKey V v T x.1 x.2 w h g (len_bulkT hl) (sm_bulkT hl) (by omega)).mono fun e w' ⟨v, a, b, c⟩ => ⟨v, a, of_ring b, c⟩
theorem specFormatKeysK (V : Value) (T : Kt) (w : World) (h : kK.At w V T) (hl : bulkT T ≤ 1200000) :
    Calls Try.prog 46 #[V] w fun e w' => e = .returned (.string (fmtK T)) ∧ Below w.heap.size w w' := specFormatKeys V T w h (by omega)
theorem implValidKeysK (V : Value) (T : Kt) (w : World) (h : kK.At w V T) (hn : ∀ t ∈ T, t.1.length ≤ 9223372036854775807 ∧ (∀ x ∈ t.1, x.size ≤ maxLen) ∧ (Lit.int .i64 t.2).wf = true) (hl : bulkT T ≤ 1200000) :
    Calls Try.prog 13 #[V] w fun e w' => e = .returned (.bool (validK T)) ∧ Below w.heap.size w w' := implValidKeys V T w h (Nat.le_trans (len_bulkT hl) (by decide)) (sm_bulkT hl) (fun t ht => (hn t ht).2.2)
theorem implSecretOfK (V U : Value) (T : Kt) (m : List ByteArray) (w : World) (h : kK.At w V T) (g : kN.At w U m) (hl : bulkT T ≤ 1200000) (hm : bulk m ≤ 1200000) :
    Calls Try.prog 18 #[V, U] w fun e w' => e = .returned (.int .i64 (lkN T m)) ∧ Below w.heap.size w w' := by
  obtain ⟨v, rfl, g9⟩ := kN_at g
  exact implSecretOf V v T m w h g9 (Nat.le_trans (len_bulkT hl) (by decide)) (sm_bulkT hl) (by omega)
theorem implSignWithKeyK (V U1 U2 U3 : Value) (T : Kt) (lk ln : List ByteArray) (lb : List Int) (u : Int) (w : World) (h : kK.At w V T) (g1 : kN.At w U1 lk) (g2 : kN.At w U2 ln) (g3 : kB.At w U3 lb) (hB : Sl.Byt lb) (hl : bulkT T ≤ 1200000) (h1 : bulk lk ≤ 1200000) (h2 : bulk ln ≤ 1200000) (h3 : lb.length ≤ 1200000) :
    Calls Try.prog 22 #[V, U1, U2, U3, .int .i64 u] w fun e w' => ∃ X, e = .returned (.tuple #[X, .bool (sgOk T lk ln lb u)]) ∧ kD.In w.heap.size w'.heap.size w' X (sgK T lk ln lb u) ∧ Below w.heap.size w w' := by
  obtain ⟨v1, rfl, g8⟩ := kN_at g1
  obtain ⟨v2, rfl, g9⟩ := kN_at g2
  exact giveDB (implSignWithKey V v1 v2 U3 T lk ln lb u w h g8 g9 (kS_at g3) hB (Nat.le_trans (len_bulkT hl) (by decide)) (sm_bulkT hl) h1 h2 h3)
theorem implVerifySignatureK (V U : Value) (T : Kt) (x : Dt) (w : World) (h : kK.At w V T) (g : kD.At w U x) (gn : WfD x) (hl : bulkT T ≤ 1200000) (hx : bulkD x ≤ 1200000) :
    Calls Try.prog 33 #[V, U] w fun e w' => e = .returned (.bool (verD (lkN T x.2.2.1) x)) ∧ Below w.heap.size w w' := implVerifySignature V U T x w h g gn (Nat.le_trans (len_bulkT hl) (by decide)) (sm_bulkT hl) hx
theorem implMatchingKeysK (V U : Value) (T : Kt) (x : Dt) (w : World) (h : kK.At w V T) (g : kD.At w U x) (gn : WfD x) (hl : bulkT T ≤ 1200000) (hx : bulkD x ≤ 1200000) :
    Calls Try.prog 35 #[V, U] w fun e w' => ∃ U, e = .returned U ∧ kI.In w.heap.size w'.heap.size w' U (matK T x) ∧ Below w.heap.size w w' := giveI (implMatchingKeys V U T x w h g gn (Nat.le_trans (len_bulkT hl) (by decide)) (sm_bulkT hl) hx)
theorem implAddKeyK (V U : Value) (T : Kt) (x : K1) (w : World) (h : kK.At w V T) (g : k1.At w U x) (hn : ∀ t ∈ T, t.1.length ≤ 9223372036854775807 ∧ (∀ x ∈ t.1, x.size ≤ maxLen) ∧ (Lit.int .i64 t.2).wf = true) (gn : WfK1 x) (hl : bulkT T ≤ 1200000) (hx : bulk x.1 ≤ 1200000) :
    Calls Try.prog 42 #[V, U] w fun e w' => ∃ X, e = .returned (.tuple #[X, .bool (validK (T ++ [x]))]) ∧ kK.In w.heap.size w'.heap.size w' X (addK T x) ∧ Below w.heap.size w w' := by
  obtain ⟨v, rfl, g⟩ := g
  exact (implAddKey V v T x.1 x.2 w h g (len_bulkT hl) (sm_bulkT hl) (fun t ht => (hn t ht).2.2) gn.2 (by omega)).mono fun e w' ⟨v, a, b, c⟩ => ⟨v, a, of_ring b, c⟩
theorem implFormatKeysK (V : Value) (T : Kt) (w : World) (h : kK.At w V T) (hl : bulkT T ≤ 1200000) :
    Calls Try.prog 47 #[V] w fun e w' => e = .returned (.string (fmtK T)) ∧ Below w.heap.size w w' := implFormatKeys V T w h (by omega)
end Go.Proofs.Ytnblopilgfdjkaa.Row.Ring
