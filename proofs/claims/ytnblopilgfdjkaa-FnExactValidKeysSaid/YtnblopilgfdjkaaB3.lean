/- Contracts and mathematics, joined: Port, PortI, SealC, PortF, Sign, RingB. No conditions but those that each states. -/
import Derived.Test.YtnblopilgfdjkaaB2
import Derived.WalkKit
import Derived.Deep.RegionHeld3
import Derived.Test.YtnblopilgfdjkaaB1
/- Mathematics of the signed portion; the regions of SignedPortion of the model. No conditions but that lengths fit. -/
namespace Go.Proofs.Ytnblopilgfdjkaa.Row
open Go.ChangeShapes Go.WideShapes Go.ChangeAt Go.RowKit Go.Instr
set_option linter.unusedVariables false
set_option maxRecDepth 100000

theorem pbyt_var (n : Int) : Sl.Byt (Var.var n) := by
  unfold Var.var
  split
  · exact Var.enc_byte _
  · intro x hx; cases hx
theorem pbyt_two {a b : List Int} (h : Sl.Byt a) (k : Sl.Byt b) : Sl.Byt (a ++ b) := fun x hx => by
  rcases List.mem_append.1 hx with h1 | h1
  · exact h x h1
  · exact k x h1
theorem pbyt_ps (l : List ByteArray) : Sl.Byt (encPs l) := fun x hx => by
  unfold encPs at hx
  obtain ⟨y, _, hx⟩ := List.mem_flatMap.1 hx
  exact pbyt_two (pbyt_var _) (Sl.bytesOf_byt y) x hx
theorem pbyt_nil : Sl.Byt [] := fun x hx => by cases hx
theorem pbyt_app {b : List Int} (l : List ByteArray) (h : Sl.Byt b) : Sl.Byt (appName b l) := by
  unfold appName encN
  split
  · exact pbyt_two h (pbyt_two (pbyt_var _) (pbyt_ps l))
  · exact h
theorem pname_len (b : List Int) (l : List ByteArray) : (appName b l).length ≤ b.length + (6 + 6 * bulk l) := by
  have h1 := encPs_len l
  have h2 := Var.var_len l.length
  unfold appName encN
  split
  · simp only [List.length_append]; omega
  · omega
/-- The signed portion. -/
def portD (x : Dt) : List Int := Seal.b2i (appName [] x.1) ++ Seal.b2i x.2.1 ++ Seal.b2i (appName [] x.2.2.1) ++ [x.2.2.2.1]
theorem bulk_small : ∀ l : List ByteArray, (∀ p ∈ l, p.size ≤ 8) → bulk l ≤ 9 * l.length
  | [], _ => by simp [bulk, bulkTo]
  | s :: r, h => by
    have h1 := bulk_small r (fun p hp => h p (by simp [hp]))
    have h2 := h s (by simp)
    have h3 : bulk (s :: r) = 1 + s.size + bulk r := by simp [bulk_cons]
    rw [h3, List.length_cons]; omega
/-- A name that is encoded is short. -/
theorem appName_small (l : List ByteArray) : (appName [] l).length ≤ 400 := by
  unfold appName
  split
  · rename_i h
    obtain ⟨h6, hp⟩ := validN_iff.1 h
    have h1 := bulk_small l (fun s hs => (validP_iff.1 (hp s hs)).2.1)
    have h2 := encPs_len l
    have h3 := Var.var_len l.length
    unfold encN
    simp only [List.nil_append, List.length_append]
    omega
  · simp
theorem portD_small (x : Dt) : (portD x).length ≤ 1000 + x.2.1.length := by
  have h1 := appName_small x.1
  have h2 := appName_small x.2.2.1
  unfold portD
  simp only [List.length_append, Seal.b2i_length, List.length_cons, List.length_nil]
  omega
/-- A slice of the call's own that is not empty has an address. -/
theorem own_some {k : IntKind} {e : TypeId} {B : Nat} {w : World} {v : Value} {l : List Int} (h : Sl.Own e k B w v l) (hl : 0 < l.length) : ∃ g n c, v = .slice (some ⟨g, 0, none⟩) n c ∧ Sl.Own e k B w (.slice (some ⟨g, 0, none⟩) n c) l := by
  rcases h.form with ⟨_, h0⟩ | ⟨g, c, e, h1, _⟩
  · rw [h0] at hl; simp at hl
  · exact ⟨g, _, c, e, by rw [← e]; exact h⟩
theorem b2i_pos (l : List Int) : 0 < (Seal.b2i l).length := by rw [Seal.b2i_length]; omega
theorem hold_one (w : World) (f : Int) (b : Nat) (hb : b = w.heap.size) : Sl.Holds .i64 (w.alloc (.cells #[.int .i64 f] 3)) (.slice (some ⟨b, 0, none⟩) 1 1) [f] := by
  subst hb
  exact Sl.holds_one .i64 _ w f
set_option maxHeartbeats 1000000 in
theorem concat4 {b : Nat} {v0 v1 v2 v3 : Value} {l0 l1 l2 l3 : List Int} {w : World} {t : TypeId} (hb : Ret.Blk w b #[v0, v1, v2, v3] t) (h0 : Sl.Holds .i64 w v0 l0) (h1 : Sl.Holds .i64 w v1 l1) (h2 : Sl.Holds .i64 w v2 l2) (h3 : Sl.Holds .i64 w v3 l3) (hl : (l0 ++ l1 ++ l2 ++ l3).length ≤ 10000000) :
    Calls Try.prog 111 #[.slice (some ⟨b, 0, none⟩) 4 4] w (Sl.GivesI w (l0 ++ l1 ++ l2 ++ l3)) := by
  have hcat : Sl.cat (fun j => if j = 0 then l0 else if j = 1 then l1 else if j = 2 then l2 else l3) 4 = l0 ++ l1 ++ l2 ++ l3 := by simp [Sl.cat]
  have hc : ∀ j, j < 4 → w.cell? ⟨b, j, none⟩ = some (if j = 0 then v0 else if j = 1 then v1 else if j = 2 then v2 else v3) := by
    intro j hj
    rw [hb.cell]
    obtain rfl | rfl | rfl | rfl : j = 0 ∨ j = 1 ∨ j = 2 ∨ j = 3 := by omega
    all_goals rfl
  have hh : ∀ j, j < 4 → Sl.Holds .i64 w (if j = 0 then v0 else if j = 1 then v1 else if j = 2 then v2 else v3) (if j = 0 then l0 else if j = 1 then l1 else if j = 2 then l2 else l3) := by
    intro j hj
    obtain rfl | rfl | rfl | rfl : j = 0 ∨ j = 1 ∨ j = 2 ∨ j = 3 := by omega
    · exact h0
    · exact h1
    · exact h2
    · exact h3
  have := Sl.concat b _ (fun j => if j = 0 then l0 else if j = 1 then l1 else if j = 2 then l2 else l3) 4 w (by decide) hc hh (by rw [hcat]; exact hl)
  rw [hcat] at this
  exact this

set_option maxRecDepth 100000 in
set_option maxHeartbeats 4000000 in
theorem portS1 {Q : Exit → Act → World → Prop} {v0 v2 v3 v4 v5 v6 v7 v8 v9 v10 v11 v12 v13 v14 v15 v16 v17 v18 v19 v20 v21 v22 v23 : Value} {w : World} {p na ca nb cb nc cc : Nat} {xa xb xc : Option Addr} {f s : Int} {la : List ByteArray} {lb : List Int} (H_a : Hid (Holds Value.string w (.slice xa na ca) la)) (H_b : Hid (Sl.Holds .u8 w (.slice xb nb cb) lb)) (HBY : Hid (Sl.Byt lb)) (HLA : Hid (bulk la ≤ 1200000)) (HLB : Hid (lb.length ≤ 1200000)) (K0 : Hid (w.cell? ⟨p, 0, none⟩ = some (.slice xa na ca))) (K1 : Hid (w.cell? ⟨p, 1, none⟩ = some (.slice xb nb cb))) (K2 : Hid (w.cell? ⟨p, 2, none⟩ = some (.slice xc nc cc))) (K3 : Hid (w.cell? ⟨p, 3, none⟩ = some (.int .i64 f))) (K4 : Hid (w.cell? ⟨p, 4, none⟩ = some (.int .i64 s)))
    (hQ : ∀ (u4 u5 u6 u7 u8 u9 u10 u11 u12 : Value) (v12 : Value) (wx : World), Sl.Own 3 .i64 w.heap.size wx v12 (Seal.b2i (appName [] la) ++ Seal.b2i lb) → Below w.heap.size w wx → Q .normal ⟨#[v0, .pointer (some ⟨p, 0, none⟩), v2, v12, u4, u5, u6, u7, u8, u9, u10, u11, u12, v13, v14, v15, v16, v17, v18, v19, v20, v21, v22, v23], []⟩ wx) :
    (Code.region 1 #[{ dst := some 4, op := Op.buildSlice 38 0 #[], type := 38, pos := "l08_thing.go:10", after := #[], guard := none },
      { dst := some 5, op := Op.fieldAddr 40 (Operand.tmp 1) 0, type := 0, pos := "l08_thing.go:10", after := #[], guard := none },
      { dst := some 6, op := Op.load 34 (Operand.tmp 5), type := 34, pos := "l08_thing.go:10", after := #[{ on := 1, ground := Ground.data }], guard := none },
      { dst := some 7, op := Op.call { callee := Callee.value (Operand.func 98), args := #[Operand.tmp 4, Operand.tmp 6], argTypes := #[38, 34] }, type := 38, pos := "l08_thing.go:10", after := #[{ on := 0, ground := Ground.data }, { on := 2, ground := Ground.data }], guard := none },
      { dst := some 8, op := Op.call { callee := Callee.value (Operand.func 97), args := #[Operand.tmp 7], argTypes := #[38] }, type := 57, pos := "l08_thing.go:10", after := #[{ on := 3, ground := Ground.data }, { on := 3, ground := Ground.chain }], guard := none },
      { dst := some 9, op := Op.fieldAddr 40 (Operand.tmp 1) 1, type := 0, pos := "l08_thing.go:10", after := #[], guard := none },
      { dst := some 10, op := Op.load 38 (Operand.tmp 9), type := 38, pos := "l08_thing.go:10", after := #[{ on := 5, ground := Ground.data }], guard := none },
      { dst := some 11, op := Op.call { callee := Callee.value (Operand.func 97), args := #[Operand.tmp 10], argTypes := #[38] }, type := 57, pos := "l08_thing.go:10", after := #[{ on := 6, ground := Ground.data }, { on := 4, ground := Ground.chain }], guard := none },
      { dst := some 12, op := Op.call { callee := Callee.builtin Builtin.append, args := #[Operand.tmp 8, Operand.tmp 11], argTypes := #[57, 57] }, type := 57, pos := "l08_thing.go:10", after := #[{ on := 4, ground := Ground.data }, { on := 7, ground := Ground.data }, { on := 7, ground := Ground.chain }], guard := none },
      { dst := some 3, op := Op.assign (Operand.tmp 12), type := 57, pos := "l08_thing.go:10", after := #[{ on := 8, ground := Ground.data }, { on := 8, ground := Ground.chain }, { on := 0, ground := Ground.phase }, { on := 1, ground := Ground.phase }, { on := 2, ground := Ground.phase }, { on := 3, ground := Ground.phase }, { on := 4, ground := Ground.phase }, { on := 5, ground := Ground.phase }, { on := 6, ground := Ground.phase }, { on := 7, ground := Ground.phase }, { on := 8, ground := Ground.phase }], guard := none }] true).wp Try.prog Q ⟨#[v0, .pointer (some ⟨p, 0, none⟩), v2, v3, v4, v5, v6, v7, v8, v9, v10, v11, v12, v13, v14, v15, v16, v17, v18, v19, v20, v21, v22, v23], []⟩ w := by
  have HQ := Lib.hid hQ; clear hQ
  have hdr : Below w.heap.size w w.drew := (Below.refl _ _).drew
  have BB := Lib.hid hdr
  refine wp_region_noPanic ?_
  refine wp_region_held_drew (S := (fun w' => w'.cell? ⟨p, 0, none⟩ = some (.slice xa na ca) ∧ w'.cell? ⟨p, 1, none⟩ = some (.slice xb nb cb) ∧ w'.cell? ⟨p, 2, none⟩ = some (.slice xc nc cc) ∧ w'.cell? ⟨p, 3, none⟩ = some (.int .i64 f) ∧ w'.cell? ⟨p, 4, none⟩ = some (.int .i64 s))) (by kernel_rfl) ?_ (fun hHeld => ?_)
  · exact ⟨kc K0.out BB.out, kc K1.out BB.out, kc K2.out BB.out, kc K3.out BB.out, kc K4.out BB.out⟩
  clear hdr
  generalize w.drew = wd at *
  refine wpAnyH_take (i := 1) (oi := { dst := some 5, op := Op.fieldAddr 40 (Operand.tmp 1) 0, type := 0, pos := "l08_thing.go:10", after := #[], guard := none }) (v := ?_) rfl (by kernel_rfl) (by kernel_rfl) (by kernel_rfl) (fun _ _ _ h => h) (Or.inl ⟨by rfl, ?_⟩) (by assumption) ?_
  rotate_left
  · intro w' hSw; (try dsimp only at hSw); first | (go_simp; done) | (go_simp; with_reducible rfl)
  (try simp only [Act.put, List.setIfInBounds_toArray, List.set_cons_zero, List.set_cons_succ])
  refine wpAnyH_take (i := 2) (oi := { dst := some 6, op := Op.load 34 (Operand.tmp 5), type := 34, pos := "l08_thing.go:10", after := #[{ on := 1, ground := Ground.data }], guard := none }) (v := ?_) rfl (by kernel_rfl) (by kernel_rfl) (by kernel_rfl) (fun _ _ _ h => h) (Or.inl ⟨by rfl, ?_⟩) (by assumption) ?_
  rotate_left
  · intro w' hSw; (try dsimp only at hSw); first | (go_simp; done) | (go_simp; with_reducible rfl)
  (try simp only [Act.put, List.setIfInBounds_toArray, List.set_cons_zero, List.set_cons_succ])
  refine wpAnyH_take (i := 5) (oi := { dst := some 9, op := Op.fieldAddr 40 (Operand.tmp 1) 1, type := 0, pos := "l08_thing.go:10", after := #[], guard := none }) (v := ?_) rfl (by kernel_rfl) (by kernel_rfl) (by kernel_rfl) (fun _ _ _ h => h) (Or.inl ⟨by rfl, ?_⟩) (by assumption) ?_
  rotate_left
  · intro w' hSw; (try dsimp only at hSw); first | (go_simp; done) | (go_simp; with_reducible rfl)
  (try simp only [Act.put, List.setIfInBounds_toArray, List.set_cons_zero, List.set_cons_succ])
  refine wpAnyH_take (i := 6) (oi := { dst := some 10, op := Op.load 38 (Operand.tmp 9), type := 38, pos := "l08_thing.go:10", after := #[{ on := 5, ground := Ground.data }], guard := none }) (v := ?_) rfl (by kernel_rfl) (by kernel_rfl) (by kernel_rfl) (fun _ _ _ h => h) (Or.inl ⟨by rfl, ?_⟩) (by assumption) ?_
  rotate_left
  · intro w' hSw; (try dsimp only at hSw); first | (go_simp; done) | (go_simp; with_reducible rfl)
  (try simp only [Act.put, List.setIfInBounds_toArray, List.set_cons_zero, List.set_cons_succ])
  refine wpAnyH_ready (rs := [0]) (by kernel_rfl) (by simp) ?_
  refine AllReadyH.cons (o := { dst := some 4, op := Op.buildSlice 38 0 #[], type := 38, pos := "l08_thing.go:10", after := #[], guard := none }) rfl (fun K hK => ?_) AllReadyH.nil
  go_simp
  have hb : Below wd.heap.size wd (wd.alloc (.cells #[] 5)) := (Below.refl _ _).alloc (Nat.le_refl _) _
  replace BB := Lib.hid (BB.out.trans (hb.mono BB.out.size))
  clear hb
  generalize wd.alloc (.cells #[] 5) = wn1 at *
  clear hHeld
  refine hK.out _ _ ?_ (fun hHeld => ?_)
  · (try dsimp only); exact ⟨kc K0.out BB.out, kc K1.out BB.out, kc K2.out BB.out, kc K3.out BB.out, kc K4.out BB.out⟩
  clear hK K
  (try simp only [Act.put, List.setIfInBounds_toArray, List.set_cons_zero, List.set_cons_succ])
  refine wpAnyH_ready (rs := [3]) (by kernel_rfl) (by simp) ?_
  refine AllReadyH.cons (o := { dst := some 7, op := Op.call { callee := Callee.value (Operand.func 98), args := #[Operand.tmp 4, Operand.tmp 6], argTypes := #[38, 34] }, type := 38, pos := "l08_thing.go:10", after := #[{ on := 0, ground := Ground.data }, { on := 2, ground := Ground.data }], guard := none }) rfl (fun K hK => ?_) AllReadyH.nil
  go_simp
  refine (specAppendName (.slice _ 0 0) _ [] la _ (Sl.holds_empty _ _ _ _) (H_a.out.on BB.out) (by simp) HLA.out).mono ?_
  rintro e wn2 ⟨v7, rfl, ho, hb⟩
  have H_v7 := Lib.hid ho.holds; clear ho
  replace BB := Lib.hid (BB.out.trans (hb.mono BB.out.size))
  clear hb
  (try go_wp2_with fail)
  clear hHeld
  refine hK.out _ _ ?_ (fun hHeld => ?_)
  · (try dsimp only); exact ⟨kc K0.out BB.out, kc K1.out BB.out, kc K2.out BB.out, kc K3.out BB.out, kc K4.out BB.out⟩
  clear hK K
  (try simp only [Act.put, List.setIfInBounds_toArray, List.set_cons_zero, List.set_cons_succ])
  refine wpAnyH_ready (rs := [4]) (by kernel_rfl) (by simp) ?_
  refine AllReadyH.cons (o := { dst := some 8, op := Op.call { callee := Callee.value (Operand.func 97), args := #[Operand.tmp 7], argTypes := #[38] }, type := 57, pos := "l08_thing.go:10", after := #[{ on := 3, ground := Ground.data }, { on := 3, ground := Ground.chain }], guard := none }) rfl (fun K hK => ?_) AllReadyH.nil
  go_simp
  refine (Sl.specBytesToInts _ (appName [] la) _ (H_v7.out) (pbyt_app la pbyt_nil) (by have h1 := pname_len [] la; have h2 := HLA.out; simp only [List.length_nil] at h1; omega)).mono ?_
  rintro e wn3 ⟨v8, rfl, ho, hb⟩
  have O_v8 := Lib.hid (Sl.Own.mono ho BB.out.size)
  clear ho
  replace H_v7 := Lib.hid (H_v7.out.on hb)
  replace BB := Lib.hid (BB.out.trans (hb.mono BB.out.size))
  clear hb
  (try go_wp2_with fail)
  clear hHeld
  refine hK.out _ _ ?_ (fun hHeld => ?_)
  · (try dsimp only); exact ⟨kc K0.out BB.out, kc K1.out BB.out, kc K2.out BB.out, kc K3.out BB.out, kc K4.out BB.out⟩
  clear hK K
  (try simp only [Act.put, List.setIfInBounds_toArray, List.set_cons_zero, List.set_cons_succ])
  refine wpAnyH_ready (rs := [7]) (by kernel_rfl) (by simp) ?_
  refine AllReadyH.cons (o := { dst := some 11, op := Op.call { callee := Callee.value (Operand.func 97), args := #[Operand.tmp 10], argTypes := #[38] }, type := 57, pos := "l08_thing.go:10", after := #[{ on := 6, ground := Ground.data }, { on := 4, ground := Ground.chain }], guard := none }) rfl (fun K hK => ?_) AllReadyH.nil
  go_simp
  refine (Sl.specBytesToInts _ (lb) _ (H_b.out.on BB.out) HBY.out (by have h2 := HLB.out; omega)).mono ?_
  rintro e wn4 ⟨v11, rfl, ho, hb⟩
  obtain ⟨g_v11, n_v11, c_v11, rfl, ho⟩ := own_some ho (b2i_pos _)
  have O_v11 := Lib.hid (ho.holds)
  clear ho
  replace H_v7 := Lib.hid (H_v7.out.on hb)
  replace O_v8 := Lib.hid (O_v8.out.on hb)
  replace BB := Lib.hid (BB.out.trans (hb.mono BB.out.size))
  clear hb
  (try go_wp2_with fail)
  clear hHeld
  refine hK.out _ _ ?_ (fun hHeld => ?_)
  · (try dsimp only); exact ⟨kc K0.out BB.out, kc K1.out BB.out, kc K2.out BB.out, kc K3.out BB.out, kc K4.out BB.out⟩
  clear hK K
  (try simp only [Act.put, List.setIfInBounds_toArray, List.set_cons_zero, List.set_cons_succ])
  refine wpAnyH_ready (rs := [8]) (by kernel_rfl) (by simp) ?_
  refine AllReadyH.cons (o := { dst := some 12, op := Op.call { callee := Callee.builtin Builtin.append, args := #[Operand.tmp 8, Operand.tmp 11], argTypes := #[57, 57] }, type := 57, pos := "l08_thing.go:10", after := #[{ on := 4, ground := Ground.data }, { on := 7, ground := Ground.data }, { on := 7, ground := Ground.chain }], guard := none }) rfl (fun K hK => ?_) AllReadyH.nil
  refine Sl.step_app2 (k := .i64) (B := w.heap.size) (v := v8) (l := Seal.b2i (appName [] la)) (m := Seal.b2i lb) rfl _ _ (by rfl) Try.underlying57 Sl.elemINT rfl (by rfl) (by rfl) ?_ ?_ ?_ (by decide) ?_ ?_
  · with_reducible exact O_v8.out
  · with_reducible exact O_v11.out
  · exact (by have h1 := pname_len [] la; have h2 := HLA.out; have h3 := HLB.out; simp only [List.length_nil] at h1; rw [Seal.b2i_length, Seal.b2i_length]; omega)
  · exact BB.out.size
  intro v12 wn5 ho hg
  replace BB := Lib.hid (BB.out.grown hg BB.out.size (fun g e => (O_v8.out.lt g e).1))
  have O_v12 := Lib.hid ho; clear ho
  clear hg
  clear hHeld
  refine hK.out _ _ ?_ (fun hHeld => ?_)
  · (try dsimp only); exact ⟨kc K0.out BB.out, kc K1.out BB.out, kc K2.out BB.out, kc K3.out BB.out, kc K4.out BB.out⟩
  clear hK K
  (try simp only [Act.put, List.setIfInBounds_toArray, List.set_cons_zero, List.set_cons_succ])
  refine wpAnyH_take (i := 9) (oi := { dst := some 3, op := Op.assign (Operand.tmp 12), type := 57, pos := "l08_thing.go:10", after := #[{ on := 8, ground := Ground.data }, { on := 8, ground := Ground.chain }, { on := 0, ground := Ground.phase }, { on := 1, ground := Ground.phase }, { on := 2, ground := Ground.phase }, { on := 3, ground := Ground.phase }, { on := 4, ground := Ground.phase }, { on := 5, ground := Ground.phase }, { on := 6, ground := Ground.phase }, { on := 7, ground := Ground.phase }, { on := 8, ground := Ground.phase }], guard := none }) (v := ?_) rfl (by kernel_rfl) (by kernel_rfl) (by kernel_rfl) (fun _ _ _ h => h) (Or.inl ⟨by rfl, ?_⟩) (by assumption) ?_
  rotate_left
  · intro w' hSw; (try dsimp only at hSw); first | (go_simp; done) | (go_simp; with_reducible rfl)
  (try simp only [Act.put, List.setIfInBounds_toArray, List.set_cons_zero, List.set_cons_succ])
  refine wpAnyH_done (by kernel_rfl) ?_ _
  exact NoPanic.normal (HQ.out _ _ _ _ _ _ _ _ _ _ _ O_v12.out BB.out)

set_option maxRecDepth 100000 in
set_option maxHeartbeats 4000000 in
theorem portS2 {Q : Exit → Act → World → Prop} {v0 v2 v4 v5 v6 v7 v8 v9 v10 v11 v12 v13 v14 v15 v16 v17 v18 v19 v20 v21 v22 v23 : Value} {w : World} {p na ca nb cb nc cc : Nat} {xa xb xc : Option Addr} {f s : Int} {lc : List ByteArray} {B : Nat} {y3 : Value} {l3 : List Int} (H_c : Hid (Holds Value.string w (.slice xc nc cc) lc)) (HLC : Hid (bulk lc ≤ 1200000)) (HL3 : Hid (l3.length ≤ 12000000)) (O3 : Hid (Sl.Own 3 .i64 B w y3 l3)) (HBW : Hid (B ≤ w.heap.size)) (PB : Hid (p < B)) (K0 : Hid (w.cell? ⟨p, 0, none⟩ = some (.slice xa na ca))) (K1 : Hid (w.cell? ⟨p, 1, none⟩ = some (.slice xb nb cb))) (K2 : Hid (w.cell? ⟨p, 2, none⟩ = some (.slice xc nc cc))) (K3 : Hid (w.cell? ⟨p, 3, none⟩ = some (.int .i64 f))) (K4 : Hid (w.cell? ⟨p, 4, none⟩ = some (.int .i64 s)))
    (hQ : ∀ (u13 u14 u15 u16 u17 u18 u19 u20 u21 u22 u23 : Value) (v23 : Value) (wx : World), Sl.Own 3 .i64 B wx v23 (l3 ++ Seal.b2i (appName [] lc) ++ [f]) → Below B w wx → Q .normal ⟨#[v0, .pointer (some ⟨p, 0, none⟩), v23, y3, v4, v5, v6, v7, v8, v9, v10, v11, v12, u13, u14, u15, u16, u17, u18, u19, u20, u21, u22, u23], []⟩ wx) :
    (Code.region 2 #[{ dst := some 13, op := Op.move (Operand.tmp 3), type := 57, pos := "l08_thing.go:11", after := #[], guard := none },
      { dst := some 14, op := Op.buildSlice 38 0 #[], type := 38, pos := "l08_thing.go:11", after := #[], guard := none },
      { dst := some 15, op := Op.fieldAddr 40 (Operand.tmp 1) 2, type := 0, pos := "l08_thing.go:11", after := #[], guard := none },
      { dst := some 16, op := Op.load 34 (Operand.tmp 15), type := 34, pos := "l08_thing.go:11", after := #[{ on := 2, ground := Ground.data }], guard := none },
      { dst := some 17, op := Op.call { callee := Callee.value (Operand.func 98), args := #[Operand.tmp 14, Operand.tmp 16], argTypes := #[38, 34] }, type := 38, pos := "l08_thing.go:11", after := #[{ on := 1, ground := Ground.data }, { on := 3, ground := Ground.data }], guard := none },
      { dst := some 18, op := Op.call { callee := Callee.value (Operand.func 97), args := #[Operand.tmp 17], argTypes := #[38] }, type := 57, pos := "l08_thing.go:11", after := #[{ on := 4, ground := Ground.data }, { on := 4, ground := Ground.chain }], guard := none },
      { dst := some 19, op := Op.call { callee := Callee.builtin Builtin.append, args := #[Operand.tmp 13, Operand.tmp 18], argTypes := #[57, 57] }, type := 57, pos := "l08_thing.go:11", after := #[{ on := 0, ground := Ground.data }, { on := 5, ground := Ground.data }, { on := 5, ground := Ground.chain }], guard := none },
      { dst := some 20, op := Op.fieldAddr 40 (Operand.tmp 1) 3, type := 0, pos := "l08_thing.go:11", after := #[], guard := none },
      { dst := some 21, op := Op.load 3 (Operand.tmp 20), type := 3, pos := "l08_thing.go:11", after := #[{ on := 7, ground := Ground.data }], guard := none },
      { dst := some 22, op := Op.buildSlice 57 1 #[(0, Operand.tmp 21)], type := 57, pos := "l08_thing.go:11", after := #[{ on := 8, ground := Ground.data }], guard := none },
      { dst := some 23, op := Op.call { callee := Callee.builtin Builtin.append, args := #[Operand.tmp 19, Operand.tmp 22], argTypes := #[57, 57] }, type := 57, pos := "l08_thing.go:11", after := #[{ on := 6, ground := Ground.data }, { on := 9, ground := Ground.data }, { on := 6, ground := Ground.chain }], guard := none },
      { dst := some 2, op := Op.assign (Operand.tmp 23), type := 57, pos := "l08_thing.go:11", after := #[{ on := 10, ground := Ground.data }, { on := 10, ground := Ground.chain }, { on := 0, ground := Ground.phase }, { on := 1, ground := Ground.phase }, { on := 2, ground := Ground.phase }, { on := 3, ground := Ground.phase }, { on := 4, ground := Ground.phase }, { on := 5, ground := Ground.phase }, { on := 6, ground := Ground.phase }, { on := 7, ground := Ground.phase }, { on := 8, ground := Ground.phase }, { on := 9, ground := Ground.phase }, { on := 10, ground := Ground.phase }], guard := none }] true).wp Try.prog Q ⟨#[v0, .pointer (some ⟨p, 0, none⟩), v2, y3, v4, v5, v6, v7, v8, v9, v10, v11, v12, v13, v14, v15, v16, v17, v18, v19, v20, v21, v22, v23], []⟩ w := by
  have HQ := Lib.hid hQ; clear hQ
  have hdr : Below w.heap.size w w.drew := (Below.refl _ _).drew
  have BB := Lib.hid hdr
  have BX := Lib.hid (BB.out.mono HBW.out)
  refine wp_region_noPanic ?_
  refine wp_region_held_drew (S := (fun w' => w'.cell? ⟨p, 0, none⟩ = some (.slice xa na ca) ∧ w'.cell? ⟨p, 1, none⟩ = some (.slice xb nb cb) ∧ w'.cell? ⟨p, 2, none⟩ = some (.slice xc nc cc) ∧ w'.cell? ⟨p, 3, none⟩ = some (.int .i64 f) ∧ w'.cell? ⟨p, 4, none⟩ = some (.int .i64 s))) (by kernel_rfl) ?_ (fun hHeld => ?_)
  · exact ⟨kc K0.out BB.out, kc K1.out BB.out, kc K2.out BB.out, kc K3.out BB.out, kc K4.out BB.out⟩
  clear hdr
  generalize w.drew = wd at *
  refine wpAnyH_take (i := 0) (oi := { dst := some 13, op := Op.move (Operand.tmp 3), type := 57, pos := "l08_thing.go:11", after := #[], guard := none }) (v := ?_) rfl (by kernel_rfl) (by kernel_rfl) (by kernel_rfl) (fun _ _ _ h => h) (Or.inl ⟨by rfl, ?_⟩) (by assumption) ?_
  rotate_left
  · intro w' hSw; (try dsimp only at hSw); first | (go_simp; done) | (go_simp; with_reducible rfl)
  (try simp only [Act.put, List.setIfInBounds_toArray, List.set_cons_zero, List.set_cons_succ])
  refine wpAnyH_take (i := 2) (oi := { dst := some 15, op := Op.fieldAddr 40 (Operand.tmp 1) 2, type := 0, pos := "l08_thing.go:11", after := #[], guard := none }) (v := ?_) rfl (by kernel_rfl) (by kernel_rfl) (by kernel_rfl) (fun _ _ _ h => h) (Or.inl ⟨by rfl, ?_⟩) (by assumption) ?_
  rotate_left
  · intro w' hSw; (try dsimp only at hSw); first | (go_simp; done) | (go_simp; with_reducible rfl)
  (try simp only [Act.put, List.setIfInBounds_toArray, List.set_cons_zero, List.set_cons_succ])
  refine wpAnyH_take (i := 3) (oi := { dst := some 16, op := Op.load 34 (Operand.tmp 15), type := 34, pos := "l08_thing.go:11", after := #[{ on := 2, ground := Ground.data }], guard := none }) (v := ?_) rfl (by kernel_rfl) (by kernel_rfl) (by kernel_rfl) (fun _ _ _ h => h) (Or.inl ⟨by rfl, ?_⟩) (by assumption) ?_
  rotate_left
  · intro w' hSw; (try dsimp only at hSw); first | (go_simp; done) | (go_simp; with_reducible rfl)
  (try simp only [Act.put, List.setIfInBounds_toArray, List.set_cons_zero, List.set_cons_succ])
  refine wpAnyH_take (i := 7) (oi := { dst := some 20, op := Op.fieldAddr 40 (Operand.tmp 1) 3, type := 0, pos := "l08_thing.go:11", after := #[], guard := none }) (v := ?_) rfl (by kernel_rfl) (by kernel_rfl) (by kernel_rfl) (fun _ _ _ h => h) (Or.inl ⟨by rfl, ?_⟩) (by assumption) ?_
  rotate_left
  · intro w' hSw; (try dsimp only at hSw); first | (go_simp; done) | (go_simp; with_reducible rfl)
  (try simp only [Act.put, List.setIfInBounds_toArray, List.set_cons_zero, List.set_cons_succ])
  refine wpAnyH_take (i := 8) (oi := { dst := some 21, op := Op.load 3 (Operand.tmp 20), type := 3, pos := "l08_thing.go:11", after := #[{ on := 7, ground := Ground.data }], guard := none }) (v := ?_) rfl (by kernel_rfl) (by kernel_rfl) (by kernel_rfl) (fun _ _ _ h => h) (Or.inl ⟨by rfl, ?_⟩) (by assumption) ?_
  rotate_left
  · intro w' hSw; (try dsimp only at hSw); first | (go_simp; done) | (go_simp; with_reducible rfl)
  (try simp only [Act.put, List.setIfInBounds_toArray, List.set_cons_zero, List.set_cons_succ])
  refine wpAnyH_ready (rs := [1, 9]) (by kernel_rfl) (by simp) ?_
  refine AllReadyH.cons (o := { dst := some 14, op := Op.buildSlice 38 0 #[], type := 38, pos := "l08_thing.go:11", after := #[], guard := none }) rfl (fun K hK => ?_) ?_
  ·
    go_simp
    have hb : Below wd.heap.size wd (wd.alloc (.cells #[] 5)) := (Below.refl _ _).alloc (Nat.le_refl _) _
    replace BB := Lib.hid (BB.out.trans (hb.mono BB.out.size))
    replace BX := Lib.hid (BX.out.trans (hb.mono (Nat.le_trans HBW.out BX.out.size)))
    clear hb
    generalize wd.alloc (.cells #[] 5) = wn1 at *
    clear hHeld
    refine hK.out _ _ ?_ (fun hHeld => ?_)
    · (try dsimp only); exact ⟨kc K0.out BB.out, kc K1.out BB.out, kc K2.out BB.out, kc K3.out BB.out, kc K4.out BB.out⟩
    clear hK K
    (try simp only [Act.put, List.setIfInBounds_toArray, List.set_cons_zero, List.set_cons_succ])
    refine wpAnyH_ready (rs := [4, 9]) (by kernel_rfl) (by simp) ?_
    refine AllReadyH.cons (o := { dst := some 17, op := Op.call { callee := Callee.value (Operand.func 98), args := #[Operand.tmp 14, Operand.tmp 16], argTypes := #[38, 34] }, type := 38, pos := "l08_thing.go:11", after := #[{ on := 1, ground := Ground.data }, { on := 3, ground := Ground.data }], guard := none }) rfl (fun K hK => ?_) ?_
    ·
      go_simp
      refine (specAppendName (.slice _ 0 0) _ [] lc _ (Sl.holds_empty _ _ _ _) (H_c.out.on BB.out) (by simp) HLC.out).mono ?_
      rintro e wn2 ⟨v17, rfl, ho, hb⟩
      have H_v17 := Lib.hid ho.holds; clear ho
      replace BB := Lib.hid (BB.out.trans (hb.mono BB.out.size))
      replace BX := Lib.hid (BX.out.trans (hb.mono (Nat.le_trans HBW.out BX.out.size)))
      clear hb
      (try go_wp2_with fail)
      clear hHeld
      refine hK.out _ _ ?_ (fun hHeld => ?_)
      · (try dsimp only); exact ⟨kc K0.out BB.out, kc K1.out BB.out, kc K2.out BB.out, kc K3.out BB.out, kc K4.out BB.out⟩
      clear hK K
      (try simp only [Act.put, List.setIfInBounds_toArray, List.set_cons_zero, List.set_cons_succ])
      refine wpAnyH_ready (rs := [5, 9]) (by kernel_rfl) (by simp) ?_
      refine AllReadyH.cons (o := { dst := some 18, op := Op.call { callee := Callee.value (Operand.func 97), args := #[Operand.tmp 17], argTypes := #[38] }, type := 57, pos := "l08_thing.go:11", after := #[{ on := 4, ground := Ground.data }, { on := 4, ground := Ground.chain }], guard := none }) rfl (fun K hK => ?_) ?_
      ·
        go_simp
        refine (Sl.specBytesToInts _ (appName [] lc) _ (H_v17.out) (pbyt_app lc pbyt_nil) (by have h1 := pname_len [] lc; have h2 := HLC.out; simp only [List.length_nil] at h1; omega)).mono ?_
        rintro e wn3 ⟨v18, rfl, ho, hb⟩
        obtain ⟨g_v18, n_v18, c_v18, rfl, ho⟩ := own_some ho (b2i_pos _)
        have O_v18 := Lib.hid (ho.holds)
        clear ho
        replace H_v17 := Lib.hid (H_v17.out.on hb)
        replace BB := Lib.hid (BB.out.trans (hb.mono BB.out.size))
        replace BX := Lib.hid (BX.out.trans (hb.mono (Nat.le_trans HBW.out BX.out.size)))
        clear hb
        (try go_wp2_with fail)
        clear hHeld
        refine hK.out _ _ ?_ (fun hHeld => ?_)
        · (try dsimp only); exact ⟨kc K0.out BB.out, kc K1.out BB.out, kc K2.out BB.out, kc K3.out BB.out, kc K4.out BB.out⟩
        clear hK K
        (try simp only [Act.put, List.setIfInBounds_toArray, List.set_cons_zero, List.set_cons_succ])
        refine wpAnyH_ready (rs := [6, 9]) (by kernel_rfl) (by simp) ?_
        refine AllReadyH.cons (o := { dst := some 19, op := Op.call { callee := Callee.builtin Builtin.append, args := #[Operand.tmp 13, Operand.tmp 18], argTypes := #[57, 57] }, type := 57, pos := "l08_thing.go:11", after := #[{ on := 0, ground := Ground.data }, { on := 5, ground := Ground.data }, { on := 5, ground := Ground.chain }], guard := none }) rfl (fun K hK => ?_) ?_
        ·
          have O3C := Lib.hid (O3.out.on BB.out)
          refine Sl.step_app2 (k := .i64) (B := B) (v := y3) (l := l3) (m := Seal.b2i (appName [] lc)) rfl _ _ (by rfl) Try.underlying57 Sl.elemINT rfl (by rfl) (by rfl) ?_ ?_ ?_ (by decide) ?_ ?_
          · with_reducible exact O3C.out
          · with_reducible exact O_v18.out
          · exact (by have h1 := pname_len [] lc; have h2 := HLC.out; have h3 := HL3.out; simp only [List.length_nil] at h1; rw [Seal.b2i_length]; omega)
          · exact Nat.le_trans HBW.out BX.out.size
          intro v19 wn4 ho hg
          replace BX := Lib.hid (BX.out.grown hg (Nat.le_trans HBW.out BX.out.size) (fun g e => (O3C.out.lt g e).1))
          have O_v19 := Lib.hid ho; clear ho
          clear hg
          clear hHeld
          refine hK.out _ _ ?_ (fun hHeld => ?_)
          · (try dsimp only); exact ⟨(BX.out.cell PB.out).trans K0.out, (BX.out.cell PB.out).trans K1.out, (BX.out.cell PB.out).trans K2.out, (BX.out.cell PB.out).trans K3.out, (BX.out.cell PB.out).trans K4.out⟩
          clear hK K
          (try simp only [Act.put, List.setIfInBounds_toArray, List.set_cons_zero, List.set_cons_succ])
          refine wpAnyH_ready (rs := [9]) (by kernel_rfl) (by simp) ?_
          refine AllReadyH.cons (o := { dst := some 22, op := Op.buildSlice 57 1 #[(0, Operand.tmp 21)], type := 57, pos := "l08_thing.go:11", after := #[{ on := 8, ground := Ground.data }], guard := none }) rfl (fun K hK => ?_) AllReadyH.nil
          go_simp
          have hb : Below wn4.heap.size wn4 (wn4.alloc (.cells #[.int .i64 f] 3)) := (Below.refl _ _).alloc (Nat.le_refl _) _
          obtain ⟨bf, hbf⟩ : ∃ b, b = wn4.heap.size := ⟨_, rfl⟩
          have HF := Lib.hid (hold_one wn4 f bf hbf)
          have HFS := Lib.hid (show w.heap.size ≤ bf from by rw [hbf]; exact BX.out.size)
          rw [← hbf]
          clear hbf
          replace O_v19 := Lib.hid (O_v19.out.on hb)
          replace BX := Lib.hid (BX.out.trans (hb.mono (Nat.le_trans HBW.out BX.out.size)))
          clear hb
          generalize wn4.alloc (.cells #[.int .i64 f] 3) = wn5 at *
          clear hHeld
          refine hK.out _ _ ?_ (fun hHeld => ?_)
          · (try dsimp only); exact ⟨(BX.out.cell PB.out).trans K0.out, (BX.out.cell PB.out).trans K1.out, (BX.out.cell PB.out).trans K2.out, (BX.out.cell PB.out).trans K3.out, (BX.out.cell PB.out).trans K4.out⟩
          clear hK K
          (try simp only [Act.put, List.setIfInBounds_toArray, List.set_cons_zero, List.set_cons_succ])
          refine wpAnyH_ready (rs := [10]) (by kernel_rfl) (by simp) ?_
          refine AllReadyH.cons (o := { dst := some 23, op := Op.call { callee := Callee.builtin Builtin.append, args := #[Operand.tmp 19, Operand.tmp 22], argTypes := #[57, 57] }, type := 57, pos := "l08_thing.go:11", after := #[{ on := 6, ground := Ground.data }, { on := 9, ground := Ground.data }, { on := 6, ground := Ground.chain }], guard := none }) rfl (fun K hK => ?_) AllReadyH.nil
          refine Sl.step_app2 (k := .i64) (B := B) (v := v19) (l := (l3 ++ Seal.b2i (appName [] lc))) (m := [f]) rfl _ _ (by rfl) Try.underlying57 Sl.elemINT rfl (by rfl) (by rfl) ?_ ?_ ?_ (by decide) ?_ ?_
          · with_reducible exact O_v19.out
          · with_reducible exact HF.out
          · exact (by have h1 := pname_len [] lc; have h2 := HLC.out; have h3 := HL3.out; simp only [List.length_nil] at h1; rw [List.length_append, Seal.b2i_length, List.length_singleton]; omega)
          · exact Nat.le_trans HBW.out BX.out.size
          intro v23 wn6 ho hg
          replace BX := Lib.hid (BX.out.grown hg (Nat.le_trans HBW.out BX.out.size) (fun g e => (O_v19.out.lt g e).1))
          have O_v23 := Lib.hid ho; clear ho
          clear hg
          clear hHeld
          refine hK.out _ _ ?_ (fun hHeld => ?_)
          · (try dsimp only); exact ⟨(BX.out.cell PB.out).trans K0.out, (BX.out.cell PB.out).trans K1.out, (BX.out.cell PB.out).trans K2.out, (BX.out.cell PB.out).trans K3.out, (BX.out.cell PB.out).trans K4.out⟩
          clear hK K
          (try simp only [Act.put, List.setIfInBounds_toArray, List.set_cons_zero, List.set_cons_succ])
          refine wpAnyH_take (i := 11) (oi := { dst := some 2, op := Op.assign (Operand.tmp 23), type := 57, pos := "l08_thing.go:11", after := #[{ on := 10, ground := Ground.data }, { on := 10, ground := Ground.chain }, { on := 0, ground := Ground.phase }, { on := 1, ground := Ground.phase }, { on := 2, ground := Ground.phase }, { on := 3, ground := Ground.phase }, { on := 4, ground := Ground.phase }, { on := 5, ground := Ground.phase }, { on := 6, ground := Ground.phase }, { on := 7, ground := Ground.phase }, { on := 8, ground := Ground.phase }, { on := 9, ground := Ground.phase }, { on := 10, ground := Ground.phase }], guard := none }) (v := ?_) rfl (by kernel_rfl) (by kernel_rfl) (by kernel_rfl) (fun _ _ _ h => h) (Or.inl ⟨by rfl, ?_⟩) (by assumption) ?_
          rotate_left
          · intro w' hSw; (try dsimp only at hSw); first | (go_simp; done) | (go_simp; with_reducible rfl)
          (try simp only [Act.put, List.setIfInBounds_toArray, List.set_cons_zero, List.set_cons_succ])
          refine wpAnyH_done (by kernel_rfl) ?_ _
          exact NoPanic.normal (HQ.out _ _ _ _ _ _ _ _ _ _ _ _ _ O_v23.out BX.out)
        refine AllReadyH.cons (o := { dst := some 22, op := Op.buildSlice 57 1 #[(0, Operand.tmp 21)], type := 57, pos := "l08_thing.go:11", after := #[{ on := 8, ground := Ground.data }], guard := none }) rfl (fun K hK => ?_) AllReadyH.nil
        go_simp
        have hb : Below wn3.heap.size wn3 (wn3.alloc (.cells #[.int .i64 f] 3)) := (Below.refl _ _).alloc (Nat.le_refl _) _
        obtain ⟨bf, hbf⟩ : ∃ b, b = wn3.heap.size := ⟨_, rfl⟩
        have HF := Lib.hid (hold_one wn3 f bf hbf)
        have HFS := Lib.hid (show w.heap.size ≤ bf from by rw [hbf]; exact BB.out.size)
        rw [← hbf]
        clear hbf
        replace H_v17 := Lib.hid (H_v17.out.on hb)
        replace O_v18 := Lib.hid (O_v18.out.on hb)
        replace BB := Lib.hid (BB.out.trans (hb.mono BB.out.size))
        replace BX := Lib.hid (BX.out.trans (hb.mono (Nat.le_trans HBW.out BX.out.size)))
        clear hb
        generalize wn3.alloc (.cells #[.int .i64 f] 3) = wn7 at *
        clear hHeld
        refine hK.out _ _ ?_ (fun hHeld => ?_)
        · (try dsimp only); exact ⟨kc K0.out BB.out, kc K1.out BB.out, kc K2.out BB.out, kc K3.out BB.out, kc K4.out BB.out⟩
        clear hK K
        (try simp only [Act.put, List.setIfInBounds_toArray, List.set_cons_zero, List.set_cons_succ])
        refine wpAnyH_ready (rs := [6]) (by kernel_rfl) (by simp) ?_
        refine AllReadyH.cons (o := { dst := some 19, op := Op.call { callee := Callee.builtin Builtin.append, args := #[Operand.tmp 13, Operand.tmp 18], argTypes := #[57, 57] }, type := 57, pos := "l08_thing.go:11", after := #[{ on := 0, ground := Ground.data }, { on := 5, ground := Ground.data }, { on := 5, ground := Ground.chain }], guard := none }) rfl (fun K hK => ?_) AllReadyH.nil
        have O3C := Lib.hid (O3.out.on BB.out)
        refine Sl.step_app2 (k := .i64) (B := B) (v := y3) (l := l3) (m := Seal.b2i (appName [] lc)) rfl _ _ (by rfl) Try.underlying57 Sl.elemINT rfl (by rfl) (by rfl) ?_ ?_ ?_ (by decide) ?_ ?_
        · with_reducible exact O3C.out
        · with_reducible exact O_v18.out
        · exact (by have h1 := pname_len [] lc; have h2 := HLC.out; have h3 := HL3.out; simp only [List.length_nil] at h1; rw [Seal.b2i_length]; omega)
        · exact Nat.le_trans HBW.out BX.out.size
        intro v19 wn8 ho hg
        replace HF := Lib.hid (HF.out.grown hg (fun g e1 e2 => by have h5 : g = bf := (Option.some.inj e1).symm; have h6 := (O3.out.lt g e2.symm).2; have h7 := HFS.out; omega))
        replace BX := Lib.hid (BX.out.grown hg (Nat.le_trans HBW.out BX.out.size) (fun g e => (O3C.out.lt g e).1))
        have O_v19 := Lib.hid ho; clear ho
        clear hg
        clear hHeld
        refine hK.out _ _ ?_ (fun hHeld => ?_)
        · (try dsimp only); exact ⟨(BX.out.cell PB.out).trans K0.out, (BX.out.cell PB.out).trans K1.out, (BX.out.cell PB.out).trans K2.out, (BX.out.cell PB.out).trans K3.out, (BX.out.cell PB.out).trans K4.out⟩
        clear hK K
        (try simp only [Act.put, List.setIfInBounds_toArray, List.set_cons_zero, List.set_cons_succ])
        refine wpAnyH_ready (rs := [10]) (by kernel_rfl) (by simp) ?_
        refine AllReadyH.cons (o := { dst := some 23, op := Op.call { callee := Callee.builtin Builtin.append, args := #[Operand.tmp 19, Operand.tmp 22], argTypes := #[57, 57] }, type := 57, pos := "l08_thing.go:11", after := #[{ on := 6, ground := Ground.data }, { on := 9, ground := Ground.data }, { on := 6, ground := Ground.chain }], guard := none }) rfl (fun K hK => ?_) AllReadyH.nil
        refine Sl.step_app2 (k := .i64) (B := B) (v := v19) (l := (l3 ++ Seal.b2i (appName [] lc))) (m := [f]) rfl _ _ (by rfl) Try.underlying57 Sl.elemINT rfl (by rfl) (by rfl) ?_ ?_ ?_ (by decide) ?_ ?_
        · with_reducible exact O_v19.out
        · with_reducible exact HF.out
        · exact (by have h1 := pname_len [] lc; have h2 := HLC.out; have h3 := HL3.out; simp only [List.length_nil] at h1; rw [List.length_append, Seal.b2i_length, List.length_singleton]; omega)
        · exact Nat.le_trans HBW.out BX.out.size
        intro v23 wn9 ho hg
        replace BX := Lib.hid (BX.out.grown hg (Nat.le_trans HBW.out BX.out.size) (fun g e => (O_v19.out.lt g e).1))
        have O_v23 := Lib.hid ho; clear ho
        clear hg
        clear hHeld
        refine hK.out _ _ ?_ (fun hHeld => ?_)
        · (try dsimp only); exact ⟨(BX.out.cell PB.out).trans K0.out, (BX.out.cell PB.out).trans K1.out, (BX.out.cell PB.out).trans K2.out, (BX.out.cell PB.out).trans K3.out, (BX.out.cell PB.out).trans K4.out⟩
        clear hK K
        (try simp only [Act.put, List.setIfInBounds_toArray, List.set_cons_zero, List.set_cons_succ])
        refine wpAnyH_take (i := 11) (oi := { dst := some 2, op := Op.assign (Operand.tmp 23), type := 57, pos := "l08_thing.go:11", after := #[{ on := 10, ground := Ground.data }, { on := 10, ground := Ground.chain }, { on := 0, ground := Ground.phase }, { on := 1, ground := Ground.phase }, { on := 2, ground := Ground.phase }, { on := 3, ground := Ground.phase }, { on := 4, ground := Ground.phase }, { on := 5, ground := Ground.phase }, { on := 6, ground := Ground.phase }, { on := 7, ground := Ground.phase }, { on := 8, ground := Ground.phase }, { on := 9, ground := Ground.phase }, { on := 10, ground := Ground.phase }], guard := none }) (v := ?_) rfl (by kernel_rfl) (by kernel_rfl) (by kernel_rfl) (fun _ _ _ h => h) (Or.inl ⟨by rfl, ?_⟩) (by assumption) ?_
        rotate_left
        · intro w' hSw; (try dsimp only at hSw); first | (go_simp; done) | (go_simp; with_reducible rfl)
        (try simp only [Act.put, List.setIfInBounds_toArray, List.set_cons_zero, List.set_cons_succ])
        refine wpAnyH_done (by kernel_rfl) ?_ _
        exact NoPanic.normal (HQ.out _ _ _ _ _ _ _ _ _ _ _ _ _ O_v23.out BX.out)
      refine AllReadyH.cons (o := { dst := some 22, op := Op.buildSlice 57 1 #[(0, Operand.tmp 21)], type := 57, pos := "l08_thing.go:11", after := #[{ on := 8, ground := Ground.data }], guard := none }) rfl (fun K hK => ?_) AllReadyH.nil
      go_simp
      have hb : Below wn2.heap.size wn2 (wn2.alloc (.cells #[.int .i64 f] 3)) := (Below.refl _ _).alloc (Nat.le_refl _) _
      obtain ⟨bf, hbf⟩ : ∃ b, b = wn2.heap.size := ⟨_, rfl⟩
      have HF := Lib.hid (hold_one wn2 f bf hbf)
      have HFS := Lib.hid (show w.heap.size ≤ bf from by rw [hbf]; exact BB.out.size)
      rw [← hbf]
      clear hbf
      replace H_v17 := Lib.hid (H_v17.out.on hb)
      replace BB := Lib.hid (BB.out.trans (hb.mono BB.out.size))
      replace BX := Lib.hid (BX.out.trans (hb.mono (Nat.le_trans HBW.out BX.out.size)))
      clear hb
      generalize wn2.alloc (.cells #[.int .i64 f] 3) = wn10 at *
      clear hHeld
      refine hK.out _ _ ?_ (fun hHeld => ?_)
      · (try dsimp only); exact ⟨kc K0.out BB.out, kc K1.out BB.out, kc K2.out BB.out, kc K3.out BB.out, kc K4.out BB.out⟩
      clear hK K
      (try simp only [Act.put, List.setIfInBounds_toArray, List.set_cons_zero, List.set_cons_succ])
      refine wpAnyH_ready (rs := [5]) (by kernel_rfl) (by simp) ?_
      refine AllReadyH.cons (o := { dst := some 18, op := Op.call { callee := Callee.value (Operand.func 97), args := #[Operand.tmp 17], argTypes := #[38] }, type := 57, pos := "l08_thing.go:11", after := #[{ on := 4, ground := Ground.data }, { on := 4, ground := Ground.chain }], guard := none }) rfl (fun K hK => ?_) AllReadyH.nil
      go_simp
      refine (Sl.specBytesToInts _ (appName [] lc) _ (H_v17.out) (pbyt_app lc pbyt_nil) (by have h1 := pname_len [] lc; have h2 := HLC.out; simp only [List.length_nil] at h1; omega)).mono ?_
      rintro e wn11 ⟨v18, rfl, ho, hb⟩
      obtain ⟨g_v18, n_v18, c_v18, rfl, ho⟩ := own_some ho (b2i_pos _)
      have O_v18 := Lib.hid (ho.holds)
      clear ho
      replace H_v17 := Lib.hid (H_v17.out.on hb)
      replace HF := Lib.hid (HF.out.on hb)
      replace BB := Lib.hid (BB.out.trans (hb.mono BB.out.size))
      replace BX := Lib.hid (BX.out.trans (hb.mono (Nat.le_trans HBW.out BX.out.size)))
      clear hb
      (try go_wp2_with fail)
      clear hHeld
      refine hK.out _ _ ?_ (fun hHeld => ?_)
      · (try dsimp only); exact ⟨kc K0.out BB.out, kc K1.out BB.out, kc K2.out BB.out, kc K3.out BB.out, kc K4.out BB.out⟩
      clear hK K
      (try simp only [Act.put, List.setIfInBounds_toArray, List.set_cons_zero, List.set_cons_succ])
      refine wpAnyH_ready (rs := [6]) (by kernel_rfl) (by simp) ?_
      refine AllReadyH.cons (o := { dst := some 19, op := Op.call { callee := Callee.builtin Builtin.append, args := #[Operand.tmp 13, Operand.tmp 18], argTypes := #[57, 57] }, type := 57, pos := "l08_thing.go:11", after := #[{ on := 0, ground := Ground.data }, { on := 5, ground := Ground.data }, { on := 5, ground := Ground.chain }], guard := none }) rfl (fun K hK => ?_) AllReadyH.nil
      have O3C := Lib.hid (O3.out.on BB.out)
      refine Sl.step_app2 (k := .i64) (B := B) (v := y3) (l := l3) (m := Seal.b2i (appName [] lc)) rfl _ _ (by rfl) Try.underlying57 Sl.elemINT rfl (by rfl) (by rfl) ?_ ?_ ?_ (by decide) ?_ ?_
      · with_reducible exact O3C.out
      · with_reducible exact O_v18.out
      · exact (by have h1 := pname_len [] lc; have h2 := HLC.out; have h3 := HL3.out; simp only [List.length_nil] at h1; rw [Seal.b2i_length]; omega)
      · exact Nat.le_trans HBW.out BX.out.size
      intro v19 wn12 ho hg
      replace HF := Lib.hid (HF.out.grown hg (fun g e1 e2 => by have h5 : g = bf := (Option.some.inj e1).symm; have h6 := (O3.out.lt g e2.symm).2; have h7 := HFS.out; omega))
      replace BX := Lib.hid (BX.out.grown hg (Nat.le_trans HBW.out BX.out.size) (fun g e => (O3C.out.lt g e).1))
      have O_v19 := Lib.hid ho; clear ho
      clear hg
      clear hHeld
      refine hK.out _ _ ?_ (fun hHeld => ?_)
      · (try dsimp only); exact ⟨(BX.out.cell PB.out).trans K0.out, (BX.out.cell PB.out).trans K1.out, (BX.out.cell PB.out).trans K2.out, (BX.out.cell PB.out).trans K3.out, (BX.out.cell PB.out).trans K4.out⟩
      clear hK K
      (try simp only [Act.put, List.setIfInBounds_toArray, List.set_cons_zero, List.set_cons_succ])
      refine wpAnyH_ready (rs := [10]) (by kernel_rfl) (by simp) ?_
      refine AllReadyH.cons (o := { dst := some 23, op := Op.call { callee := Callee.builtin Builtin.append, args := #[Operand.tmp 19, Operand.tmp 22], argTypes := #[57, 57] }, type := 57, pos := "l08_thing.go:11", after := #[{ on := 6, ground := Ground.data }, { on := 9, ground := Ground.data }, { on := 6, ground := Ground.chain }], guard := none }) rfl (fun K hK => ?_) AllReadyH.nil
      refine Sl.step_app2 (k := .i64) (B := B) (v := v19) (l := (l3 ++ Seal.b2i (appName [] lc))) (m := [f]) rfl _ _ (by rfl) Try.underlying57 Sl.elemINT rfl (by rfl) (by rfl) ?_ ?_ ?_ (by decide) ?_ ?_
      · with_reducible exact O_v19.out
      · with_reducible exact HF.out
      · exact (by have h1 := pname_len [] lc; have h2 := HLC.out; have h3 := HL3.out; simp only [List.length_nil] at h1; rw [List.length_append, Seal.b2i_length, List.length_singleton]; omega)
      · exact Nat.le_trans HBW.out BX.out.size
      intro v23 wn13 ho hg
      replace BX := Lib.hid (BX.out.grown hg (Nat.le_trans HBW.out BX.out.size) (fun g e => (O_v19.out.lt g e).1))
      have O_v23 := Lib.hid ho; clear ho
      clear hg
      clear hHeld
      refine hK.out _ _ ?_ (fun hHeld => ?_)
      · (try dsimp only); exact ⟨(BX.out.cell PB.out).trans K0.out, (BX.out.cell PB.out).trans K1.out, (BX.out.cell PB.out).trans K2.out, (BX.out.cell PB.out).trans K3.out, (BX.out.cell PB.out).trans K4.out⟩
      clear hK K
      (try simp only [Act.put, List.setIfInBounds_toArray, List.set_cons_zero, List.set_cons_succ])
      refine wpAnyH_take (i := 11) (oi := { dst := some 2, op := Op.assign (Operand.tmp 23), type := 57, pos := "l08_thing.go:11", after := #[{ on := 10, ground := Ground.data }, { on := 10, ground := Ground.chain }, { on := 0, ground := Ground.phase }, { on := 1, ground := Ground.phase }, { on := 2, ground := Ground.phase }, { on := 3, ground := Ground.phase }, { on := 4, ground := Ground.phase }, { on := 5, ground := Ground.phase }, { on := 6, ground := Ground.phase }, { on := 7, ground := Ground.phase }, { on := 8, ground := Ground.phase }, { on := 9, ground := Ground.phase }, { on := 10, ground := Ground.phase }], guard := none }) (v := ?_) rfl (by kernel_rfl) (by kernel_rfl) (by kernel_rfl) (fun _ _ _ h => h) (Or.inl ⟨by rfl, ?_⟩) (by assumption) ?_
      rotate_left
      · intro w' hSw; (try dsimp only at hSw); first | (go_simp; done) | (go_simp; with_reducible rfl)
      (try simp only [Act.put, List.setIfInBounds_toArray, List.set_cons_zero, List.set_cons_succ])
      refine wpAnyH_done (by kernel_rfl) ?_ _
      exact NoPanic.normal (HQ.out _ _ _ _ _ _ _ _ _ _ _ _ _ O_v23.out BX.out)
    refine AllReadyH.cons (o := { dst := some 22, op := Op.buildSlice 57 1 #[(0, Operand.tmp 21)], type := 57, pos := "l08_thing.go:11", after := #[{ on := 8, ground := Ground.data }], guard := none }) rfl (fun K hK => ?_) AllReadyH.nil
    go_simp
    have hb : Below wn1.heap.size wn1 (wn1.alloc (.cells #[.int .i64 f] 3)) := (Below.refl _ _).alloc (Nat.le_refl _) _
    obtain ⟨bf, hbf⟩ : ∃ b, b = wn1.heap.size := ⟨_, rfl⟩
    have HF := Lib.hid (hold_one wn1 f bf hbf)
    have HFS := Lib.hid (show w.heap.size ≤ bf from by rw [hbf]; exact BB.out.size)
    rw [← hbf]
    clear hbf
    replace BB := Lib.hid (BB.out.trans (hb.mono BB.out.size))
    replace BX := Lib.hid (BX.out.trans (hb.mono (Nat.le_trans HBW.out BX.out.size)))
    clear hb
    generalize wn1.alloc (.cells #[.int .i64 f] 3) = wn14 at *
    clear hHeld
    refine hK.out _ _ ?_ (fun hHeld => ?_)
    · (try dsimp only); exact ⟨kc K0.out BB.out, kc K1.out BB.out, kc K2.out BB.out, kc K3.out BB.out, kc K4.out BB.out⟩
    clear hK K
    (try simp only [Act.put, List.setIfInBounds_toArray, List.set_cons_zero, List.set_cons_succ])
    refine wpAnyH_ready (rs := [4]) (by kernel_rfl) (by simp) ?_
    refine AllReadyH.cons (o := { dst := some 17, op := Op.call { callee := Callee.value (Operand.func 98), args := #[Operand.tmp 14, Operand.tmp 16], argTypes := #[38, 34] }, type := 38, pos := "l08_thing.go:11", after := #[{ on := 1, ground := Ground.data }, { on := 3, ground := Ground.data }], guard := none }) rfl (fun K hK => ?_) AllReadyH.nil
    go_simp
    refine (specAppendName (.slice _ 0 0) _ [] lc _ (Sl.holds_empty _ _ _ _) (H_c.out.on BB.out) (by simp) HLC.out).mono ?_
    rintro e wn15 ⟨v17, rfl, ho, hb⟩
    have H_v17 := Lib.hid ho.holds; clear ho
    replace HF := Lib.hid (HF.out.on hb)
    replace BB := Lib.hid (BB.out.trans (hb.mono BB.out.size))
    replace BX := Lib.hid (BX.out.trans (hb.mono (Nat.le_trans HBW.out BX.out.size)))
    clear hb
    (try go_wp2_with fail)
    clear hHeld
    refine hK.out _ _ ?_ (fun hHeld => ?_)
    · (try dsimp only); exact ⟨kc K0.out BB.out, kc K1.out BB.out, kc K2.out BB.out, kc K3.out BB.out, kc K4.out BB.out⟩
    clear hK K
    (try simp only [Act.put, List.setIfInBounds_toArray, List.set_cons_zero, List.set_cons_succ])
    refine wpAnyH_ready (rs := [5]) (by kernel_rfl) (by simp) ?_
    refine AllReadyH.cons (o := { dst := some 18, op := Op.call { callee := Callee.value (Operand.func 97), args := #[Operand.tmp 17], argTypes := #[38] }, type := 57, pos := "l08_thing.go:11", after := #[{ on := 4, ground := Ground.data }, { on := 4, ground := Ground.chain }], guard := none }) rfl (fun K hK => ?_) AllReadyH.nil
    go_simp
    refine (Sl.specBytesToInts _ (appName [] lc) _ (H_v17.out) (pbyt_app lc pbyt_nil) (by have h1 := pname_len [] lc; have h2 := HLC.out; simp only [List.length_nil] at h1; omega)).mono ?_
    rintro e wn16 ⟨v18, rfl, ho, hb⟩
    obtain ⟨g_v18, n_v18, c_v18, rfl, ho⟩ := own_some ho (b2i_pos _)
    have O_v18 := Lib.hid (ho.holds)
    clear ho
    replace HF := Lib.hid (HF.out.on hb)
    replace H_v17 := Lib.hid (H_v17.out.on hb)
    replace BB := Lib.hid (BB.out.trans (hb.mono BB.out.size))
    replace BX := Lib.hid (BX.out.trans (hb.mono (Nat.le_trans HBW.out BX.out.size)))
    clear hb
    (try go_wp2_with fail)
    clear hHeld
    refine hK.out _ _ ?_ (fun hHeld => ?_)
    · (try dsimp only); exact ⟨kc K0.out BB.out, kc K1.out BB.out, kc K2.out BB.out, kc K3.out BB.out, kc K4.out BB.out⟩
    clear hK K
    (try simp only [Act.put, List.setIfInBounds_toArray, List.set_cons_zero, List.set_cons_succ])
    refine wpAnyH_ready (rs := [6]) (by kernel_rfl) (by simp) ?_
    refine AllReadyH.cons (o := { dst := some 19, op := Op.call { callee := Callee.builtin Builtin.append, args := #[Operand.tmp 13, Operand.tmp 18], argTypes := #[57, 57] }, type := 57, pos := "l08_thing.go:11", after := #[{ on := 0, ground := Ground.data }, { on := 5, ground := Ground.data }, { on := 5, ground := Ground.chain }], guard := none }) rfl (fun K hK => ?_) AllReadyH.nil
    have O3C := Lib.hid (O3.out.on BB.out)
    refine Sl.step_app2 (k := .i64) (B := B) (v := y3) (l := l3) (m := Seal.b2i (appName [] lc)) rfl _ _ (by rfl) Try.underlying57 Sl.elemINT rfl (by rfl) (by rfl) ?_ ?_ ?_ (by decide) ?_ ?_
    · with_reducible exact O3C.out
    · with_reducible exact O_v18.out
    · exact (by have h1 := pname_len [] lc; have h2 := HLC.out; have h3 := HL3.out; simp only [List.length_nil] at h1; rw [Seal.b2i_length]; omega)
    · exact Nat.le_trans HBW.out BX.out.size
    intro v19 wn17 ho hg
    replace HF := Lib.hid (HF.out.grown hg (fun g e1 e2 => by have h5 : g = bf := (Option.some.inj e1).symm; have h6 := (O3.out.lt g e2.symm).2; have h7 := HFS.out; omega))
    replace BX := Lib.hid (BX.out.grown hg (Nat.le_trans HBW.out BX.out.size) (fun g e => (O3C.out.lt g e).1))
    have O_v19 := Lib.hid ho; clear ho
    clear hg
    clear hHeld
    refine hK.out _ _ ?_ (fun hHeld => ?_)
    · (try dsimp only); exact ⟨(BX.out.cell PB.out).trans K0.out, (BX.out.cell PB.out).trans K1.out, (BX.out.cell PB.out).trans K2.out, (BX.out.cell PB.out).trans K3.out, (BX.out.cell PB.out).trans K4.out⟩
    clear hK K
    (try simp only [Act.put, List.setIfInBounds_toArray, List.set_cons_zero, List.set_cons_succ])
    refine wpAnyH_ready (rs := [10]) (by kernel_rfl) (by simp) ?_
    refine AllReadyH.cons (o := { dst := some 23, op := Op.call { callee := Callee.builtin Builtin.append, args := #[Operand.tmp 19, Operand.tmp 22], argTypes := #[57, 57] }, type := 57, pos := "l08_thing.go:11", after := #[{ on := 6, ground := Ground.data }, { on := 9, ground := Ground.data }, { on := 6, ground := Ground.chain }], guard := none }) rfl (fun K hK => ?_) AllReadyH.nil
    refine Sl.step_app2 (k := .i64) (B := B) (v := v19) (l := (l3 ++ Seal.b2i (appName [] lc))) (m := [f]) rfl _ _ (by rfl) Try.underlying57 Sl.elemINT rfl (by rfl) (by rfl) ?_ ?_ ?_ (by decide) ?_ ?_
    · with_reducible exact O_v19.out
    · with_reducible exact HF.out
    · exact (by have h1 := pname_len [] lc; have h2 := HLC.out; have h3 := HL3.out; simp only [List.length_nil] at h1; rw [List.length_append, Seal.b2i_length, List.length_singleton]; omega)
    · exact Nat.le_trans HBW.out BX.out.size
    intro v23 wn18 ho hg
    replace BX := Lib.hid (BX.out.grown hg (Nat.le_trans HBW.out BX.out.size) (fun g e => (O_v19.out.lt g e).1))
    have O_v23 := Lib.hid ho; clear ho
    clear hg
    clear hHeld
    refine hK.out _ _ ?_ (fun hHeld => ?_)
    · (try dsimp only); exact ⟨(BX.out.cell PB.out).trans K0.out, (BX.out.cell PB.out).trans K1.out, (BX.out.cell PB.out).trans K2.out, (BX.out.cell PB.out).trans K3.out, (BX.out.cell PB.out).trans K4.out⟩
    clear hK K
    (try simp only [Act.put, List.setIfInBounds_toArray, List.set_cons_zero, List.set_cons_succ])
    refine wpAnyH_take (i := 11) (oi := { dst := some 2, op := Op.assign (Operand.tmp 23), type := 57, pos := "l08_thing.go:11", after := #[{ on := 10, ground := Ground.data }, { on := 10, ground := Ground.chain }, { on := 0, ground := Ground.phase }, { on := 1, ground := Ground.phase }, { on := 2, ground := Ground.phase }, { on := 3, ground := Ground.phase }, { on := 4, ground := Ground.phase }, { on := 5, ground := Ground.phase }, { on := 6, ground := Ground.phase }, { on := 7, ground := Ground.phase }, { on := 8, ground := Ground.phase }, { on := 9, ground := Ground.phase }, { on := 10, ground := Ground.phase }], guard := none }) (v := ?_) rfl (by kernel_rfl) (by kernel_rfl) (by kernel_rfl) (fun _ _ _ h => h) (Or.inl ⟨by rfl, ?_⟩) (by assumption) ?_
    rotate_left
    · intro w' hSw; (try dsimp only at hSw); first | (go_simp; done) | (go_simp; with_reducible rfl)
    (try simp only [Act.put, List.setIfInBounds_toArray, List.set_cons_zero, List.set_cons_succ])
    refine wpAnyH_done (by kernel_rfl) ?_ _
    exact NoPanic.normal (HQ.out _ _ _ _ _ _ _ _ _ _ _ _ _ O_v23.out BX.out)
  refine AllReadyH.cons (o := { dst := some 22, op := Op.buildSlice 57 1 #[(0, Operand.tmp 21)], type := 57, pos := "l08_thing.go:11", after := #[{ on := 8, ground := Ground.data }], guard := none }) rfl (fun K hK => ?_) AllReadyH.nil
  go_simp
  have hb : Below wd.heap.size wd (wd.alloc (.cells #[.int .i64 f] 3)) := (Below.refl _ _).alloc (Nat.le_refl _) _
  obtain ⟨bf, hbf⟩ : ∃ b, b = wd.heap.size := ⟨_, rfl⟩
  have HF := Lib.hid (hold_one wd f bf hbf)
  have HFS := Lib.hid (show w.heap.size ≤ bf from by rw [hbf]; exact BB.out.size)
  rw [← hbf]
  clear hbf
  replace BB := Lib.hid (BB.out.trans (hb.mono BB.out.size))
  replace BX := Lib.hid (BX.out.trans (hb.mono (Nat.le_trans HBW.out BX.out.size)))
  clear hb
  generalize wd.alloc (.cells #[.int .i64 f] 3) = wn19 at *
  clear hHeld
  refine hK.out _ _ ?_ (fun hHeld => ?_)
  · (try dsimp only); exact ⟨kc K0.out BB.out, kc K1.out BB.out, kc K2.out BB.out, kc K3.out BB.out, kc K4.out BB.out⟩
  clear hK K
  (try simp only [Act.put, List.setIfInBounds_toArray, List.set_cons_zero, List.set_cons_succ])
  refine wpAnyH_ready (rs := [1]) (by kernel_rfl) (by simp) ?_
  refine AllReadyH.cons (o := { dst := some 14, op := Op.buildSlice 38 0 #[], type := 38, pos := "l08_thing.go:11", after := #[], guard := none }) rfl (fun K hK => ?_) AllReadyH.nil
  go_simp
  have hb : Below wn19.heap.size wn19 (wn19.alloc (.cells #[] 5)) := (Below.refl _ _).alloc (Nat.le_refl _) _
  replace HF := Lib.hid (HF.out.on hb)
  replace BB := Lib.hid (BB.out.trans (hb.mono BB.out.size))
  replace BX := Lib.hid (BX.out.trans (hb.mono (Nat.le_trans HBW.out BX.out.size)))
  clear hb
  generalize wn19.alloc (.cells #[] 5) = wn20 at *
  clear hHeld
  refine hK.out _ _ ?_ (fun hHeld => ?_)
  · (try dsimp only); exact ⟨kc K0.out BB.out, kc K1.out BB.out, kc K2.out BB.out, kc K3.out BB.out, kc K4.out BB.out⟩
  clear hK K
  (try simp only [Act.put, List.setIfInBounds_toArray, List.set_cons_zero, List.set_cons_succ])
  refine wpAnyH_ready (rs := [4]) (by kernel_rfl) (by simp) ?_
  refine AllReadyH.cons (o := { dst := some 17, op := Op.call { callee := Callee.value (Operand.func 98), args := #[Operand.tmp 14, Operand.tmp 16], argTypes := #[38, 34] }, type := 38, pos := "l08_thing.go:11", after := #[{ on := 1, ground := Ground.data }, { on := 3, ground := Ground.data }], guard := none }) rfl (fun K hK => ?_) AllReadyH.nil
  go_simp
  refine (specAppendName (.slice _ 0 0) _ [] lc _ (Sl.holds_empty _ _ _ _) (H_c.out.on BB.out) (by simp) HLC.out).mono ?_
  rintro e wn21 ⟨v17, rfl, ho, hb⟩
  have H_v17 := Lib.hid ho.holds; clear ho
  replace HF := Lib.hid (HF.out.on hb)
  replace BB := Lib.hid (BB.out.trans (hb.mono BB.out.size))
  replace BX := Lib.hid (BX.out.trans (hb.mono (Nat.le_trans HBW.out BX.out.size)))
  clear hb
  (try go_wp2_with fail)
  clear hHeld
  refine hK.out _ _ ?_ (fun hHeld => ?_)
  · (try dsimp only); exact ⟨kc K0.out BB.out, kc K1.out BB.out, kc K2.out BB.out, kc K3.out BB.out, kc K4.out BB.out⟩
  clear hK K
  (try simp only [Act.put, List.setIfInBounds_toArray, List.set_cons_zero, List.set_cons_succ])
  refine wpAnyH_ready (rs := [5]) (by kernel_rfl) (by simp) ?_
  refine AllReadyH.cons (o := { dst := some 18, op := Op.call { callee := Callee.value (Operand.func 97), args := #[Operand.tmp 17], argTypes := #[38] }, type := 57, pos := "l08_thing.go:11", after := #[{ on := 4, ground := Ground.data }, { on := 4, ground := Ground.chain }], guard := none }) rfl (fun K hK => ?_) AllReadyH.nil
  go_simp
  refine (Sl.specBytesToInts _ (appName [] lc) _ (H_v17.out) (pbyt_app lc pbyt_nil) (by have h1 := pname_len [] lc; have h2 := HLC.out; simp only [List.length_nil] at h1; omega)).mono ?_
  rintro e wn22 ⟨v18, rfl, ho, hb⟩
  obtain ⟨g_v18, n_v18, c_v18, rfl, ho⟩ := own_some ho (b2i_pos _)
  have O_v18 := Lib.hid (ho.holds)
  clear ho
  replace HF := Lib.hid (HF.out.on hb)
  replace H_v17 := Lib.hid (H_v17.out.on hb)
  replace BB := Lib.hid (BB.out.trans (hb.mono BB.out.size))
  replace BX := Lib.hid (BX.out.trans (hb.mono (Nat.le_trans HBW.out BX.out.size)))
  clear hb
  (try go_wp2_with fail)
  clear hHeld
  refine hK.out _ _ ?_ (fun hHeld => ?_)
  · (try dsimp only); exact ⟨kc K0.out BB.out, kc K1.out BB.out, kc K2.out BB.out, kc K3.out BB.out, kc K4.out BB.out⟩
  clear hK K
  (try simp only [Act.put, List.setIfInBounds_toArray, List.set_cons_zero, List.set_cons_succ])
  refine wpAnyH_ready (rs := [6]) (by kernel_rfl) (by simp) ?_
  refine AllReadyH.cons (o := { dst := some 19, op := Op.call { callee := Callee.builtin Builtin.append, args := #[Operand.tmp 13, Operand.tmp 18], argTypes := #[57, 57] }, type := 57, pos := "l08_thing.go:11", after := #[{ on := 0, ground := Ground.data }, { on := 5, ground := Ground.data }, { on := 5, ground := Ground.chain }], guard := none }) rfl (fun K hK => ?_) AllReadyH.nil
  have O3C := Lib.hid (O3.out.on BB.out)
  refine Sl.step_app2 (k := .i64) (B := B) (v := y3) (l := l3) (m := Seal.b2i (appName [] lc)) rfl _ _ (by rfl) Try.underlying57 Sl.elemINT rfl (by rfl) (by rfl) ?_ ?_ ?_ (by decide) ?_ ?_
  · with_reducible exact O3C.out
  · with_reducible exact O_v18.out
  · exact (by have h1 := pname_len [] lc; have h2 := HLC.out; have h3 := HL3.out; simp only [List.length_nil] at h1; rw [Seal.b2i_length]; omega)
  · exact Nat.le_trans HBW.out BX.out.size
  intro v19 wn23 ho hg
  replace HF := Lib.hid (HF.out.grown hg (fun g e1 e2 => by have h5 : g = bf := (Option.some.inj e1).symm; have h6 := (O3.out.lt g e2.symm).2; have h7 := HFS.out; omega))
  replace BX := Lib.hid (BX.out.grown hg (Nat.le_trans HBW.out BX.out.size) (fun g e => (O3C.out.lt g e).1))
  have O_v19 := Lib.hid ho; clear ho
  clear hg
  clear hHeld
  refine hK.out _ _ ?_ (fun hHeld => ?_)
  · (try dsimp only); exact ⟨(BX.out.cell PB.out).trans K0.out, (BX.out.cell PB.out).trans K1.out, (BX.out.cell PB.out).trans K2.out, (BX.out.cell PB.out).trans K3.out, (BX.out.cell PB.out).trans K4.out⟩
  clear hK K
  (try simp only [Act.put, List.setIfInBounds_toArray, List.set_cons_zero, List.set_cons_succ])
  refine wpAnyH_ready (rs := [10]) (by kernel_rfl) (by simp) ?_
  refine AllReadyH.cons (o := { dst := some 23, op := Op.call { callee := Callee.builtin Builtin.append, args := #[Operand.tmp 19, Operand.tmp 22], argTypes := #[57, 57] }, type := 57, pos := "l08_thing.go:11", after := #[{ on := 6, ground := Ground.data }, { on := 9, ground := Ground.data }, { on := 6, ground := Ground.chain }], guard := none }) rfl (fun K hK => ?_) AllReadyH.nil
  refine Sl.step_app2 (k := .i64) (B := B) (v := v19) (l := (l3 ++ Seal.b2i (appName [] lc))) (m := [f]) rfl _ _ (by rfl) Try.underlying57 Sl.elemINT rfl (by rfl) (by rfl) ?_ ?_ ?_ (by decide) ?_ ?_
  · with_reducible exact O_v19.out
  · with_reducible exact HF.out
  · exact (by have h1 := pname_len [] lc; have h2 := HLC.out; have h3 := HL3.out; simp only [List.length_nil] at h1; rw [List.length_append, Seal.b2i_length, List.length_singleton]; omega)
  · exact Nat.le_trans HBW.out BX.out.size
  intro v23 wn24 ho hg
  replace BX := Lib.hid (BX.out.grown hg (Nat.le_trans HBW.out BX.out.size) (fun g e => (O_v19.out.lt g e).1))
  have O_v23 := Lib.hid ho; clear ho
  clear hg
  clear hHeld
  refine hK.out _ _ ?_ (fun hHeld => ?_)
  · (try dsimp only); exact ⟨(BX.out.cell PB.out).trans K0.out, (BX.out.cell PB.out).trans K1.out, (BX.out.cell PB.out).trans K2.out, (BX.out.cell PB.out).trans K3.out, (BX.out.cell PB.out).trans K4.out⟩
  clear hK K
  (try simp only [Act.put, List.setIfInBounds_toArray, List.set_cons_zero, List.set_cons_succ])
  refine wpAnyH_take (i := 11) (oi := { dst := some 2, op := Op.assign (Operand.tmp 23), type := 57, pos := "l08_thing.go:11", after := #[{ on := 10, ground := Ground.data }, { on := 10, ground := Ground.chain }, { on := 0, ground := Ground.phase }, { on := 1, ground := Ground.phase }, { on := 2, ground := Ground.phase }, { on := 3, ground := Ground.phase }, { on := 4, ground := Ground.phase }, { on := 5, ground := Ground.phase }, { on := 6, ground := Ground.phase }, { on := 7, ground := Ground.phase }, { on := 8, ground := Ground.phase }, { on := 9, ground := Ground.phase }, { on := 10, ground := Ground.phase }], guard := none }) (v := ?_) rfl (by kernel_rfl) (by kernel_rfl) (by kernel_rfl) (fun _ _ _ h => h) (Or.inl ⟨by rfl, ?_⟩) (by assumption) ?_
  rotate_left
  · intro w' hSw; (try dsimp only at hSw); first | (go_simp; done) | (go_simp; with_reducible rfl)
  (try simp only [Act.put, List.setIfInBounds_toArray, List.set_cons_zero, List.set_cons_succ])
  refine wpAnyH_done (by kernel_rfl) ?_ _
  exact NoPanic.normal (HQ.out _ _ _ _ _ _ _ _ _ _ _ _ _ O_v23.out BX.out)

end Go.Proofs.Ytnblopilgfdjkaa.Row
/- The region of the program's portion. No conditions but that lengths fit. -/
namespace Go.Proofs.Ytnblopilgfdjkaa.Row
open Go.ChangeShapes Go.WideShapes Go.ChangeAt Go.RowKit Go.Instr
set_option linter.unusedVariables false
set_option maxRecDepth 100000

set_option maxRecDepth 100000 in
set_option maxHeartbeats 4000000 in
theorem portI {Q : Exit → Act → World → Prop} {v1 v2 v3 v4 v5 v6 v7 v8 v9 v10 v11 v12 v13 v14 v15 v16 v17 v18 v19 v20 v21 v22 v23 v24 v25 v26 : Value} {w : World} {p na ca nb cb nc cc : Nat} {xa xb xc : Option Addr} {f s : Int} {la lc : List ByteArray} {lb : List Int} (H_a : Hid (Holds Value.string w (.slice xa na ca) la)) (H_b : Hid (Sl.Holds .u8 w (.slice xb nb cb) lb)) (HBY : Hid (Sl.Byt lb)) (HLA : Hid (bulk la ≤ 1200000)) (HLB : Hid (lb.length ≤ 1200000)) (H_c : Hid (Holds Value.string w (.slice xc nc cc) lc)) (HLC : Hid (bulk lc ≤ 1200000)) (HLT : Hid ((Seal.b2i (appName [] la) ++ Seal.b2i lb ++ Seal.b2i (appName [] lc) ++ [f]).length ≤ 10000000)) (K0 : Hid (w.cell? ⟨p, 0, none⟩ = some (.slice xa na ca))) (K1 : Hid (w.cell? ⟨p, 1, none⟩ = some (.slice xb nb cb))) (K2 : Hid (w.cell? ⟨p, 2, none⟩ = some (.slice xc nc cc))) (K3 : Hid (w.cell? ⟨p, 3, none⟩ = some (.int .i64 f))) (K4 : Hid (w.cell? ⟨p, 4, none⟩ = some (.int .i64 s)))
    (hQ : ∀ (u3 u4 u5 u6 u7 u8 u9 u10 u11 u12 u13 u14 u15 u16 u17 u18 u19 u20 u21 u22 u23 u24 u25 u26 : Value) (v26 : Value) (wx : World), Sl.Own 3 .i64 w.heap.size wx v26 (Seal.b2i (appName [] la) ++ Seal.b2i lb ++ Seal.b2i (appName [] lc) ++ [f]) → Below w.heap.size w wx → Q .normal ⟨#[.pointer (some ⟨p, 0, none⟩), v1, v26, u3, u4, u5, u6, u7, u8, u9, u10, u11, u12, u13, u14, u15, u16, u17, u18, u19, u20, u21, u22, u23, u24, u25, u26], []⟩ wx) :
    (Code.region 1 #[{ dst := some 3, op := Op.move (Operand.tmp 0), type := 116, pos := "l08_thing.go:28", after := #[], guard := none },
      { dst := some 4, op := Op.nilCheck (Operand.tmp 3), type := 0, pos := "l08_thing.go:28", after := #[{ on := 0, ground := Ground.data }], guard := none },
      { dst := some 5, op := Op.fieldAddr 40 (Operand.tmp 4) 0, type := 0, pos := "l08_thing.go:28", after := #[{ on := 1, ground := Ground.data }], guard := none },
      { dst := some 6, op := Op.load 34 (Operand.tmp 5), type := 34, pos := "l08_thing.go:28", after := #[{ on := 2, ground := Ground.data }], guard := none },
      { dst := some 7, op := Op.call { callee := Callee.value (Operand.func 113), args := #[Operand.const (Value.slice none 0 0), Operand.tmp 6], argTypes := #[38, 34] }, type := 38, pos := "l08_thing.go:29", after := #[{ on := 3, ground := Ground.data }], guard := none },
      { dst := some 8, op := Op.call { callee := Callee.value (Operand.func 112), args := #[Operand.tmp 7], argTypes := #[38] }, type := 57, pos := "l08_thing.go:29", after := #[{ on := 4, ground := Ground.data }, { on := 4, ground := Ground.chain }], guard := none },
      { dst := some 9, op := Op.move (Operand.tmp 0), type := 116, pos := "l08_thing.go:28", after := #[], guard := none },
      { dst := some 10, op := Op.nilCheck (Operand.tmp 9), type := 0, pos := "l08_thing.go:28", after := #[{ on := 6, ground := Ground.data }], guard := none },
      { dst := some 11, op := Op.fieldAddr 40 (Operand.tmp 10) 1, type := 0, pos := "l08_thing.go:28", after := #[{ on := 7, ground := Ground.data }], guard := none },
      { dst := some 12, op := Op.load 38 (Operand.tmp 11), type := 38, pos := "l08_thing.go:28", after := #[{ on := 8, ground := Ground.data }], guard := none },
      { dst := some 13, op := Op.call { callee := Callee.value (Operand.func 112), args := #[Operand.tmp 12], argTypes := #[38] }, type := 57, pos := "l08_thing.go:30", after := #[{ on := 9, ground := Ground.data }, { on := 5, ground := Ground.chain }], guard := none },
      { dst := some 14, op := Op.move (Operand.tmp 0), type := 116, pos := "l08_thing.go:28", after := #[], guard := none },
      { dst := some 15, op := Op.nilCheck (Operand.tmp 14), type := 0, pos := "l08_thing.go:28", after := #[{ on := 11, ground := Ground.data }], guard := none },
      { dst := some 16, op := Op.fieldAddr 40 (Operand.tmp 15) 2, type := 0, pos := "l08_thing.go:28", after := #[{ on := 12, ground := Ground.data }], guard := none },
      { dst := some 17, op := Op.load 34 (Operand.tmp 16), type := 34, pos := "l08_thing.go:28", after := #[{ on := 13, ground := Ground.data }], guard := none },
      { dst := some 18, op := Op.call { callee := Callee.value (Operand.func 113), args := #[Operand.const (Value.slice none 0 0), Operand.tmp 17], argTypes := #[38, 34] }, type := 38, pos := "l08_thing.go:31", after := #[{ on := 14, ground := Ground.data }, { on := 10, ground := Ground.chain }], guard := none },
      { dst := some 19, op := Op.call { callee := Callee.value (Operand.func 112), args := #[Operand.tmp 18], argTypes := #[38] }, type := 57, pos := "l08_thing.go:31", after := #[{ on := 15, ground := Ground.data }, { on := 15, ground := Ground.chain }], guard := none },
      { dst := some 20, op := Op.move (Operand.tmp 0), type := 116, pos := "l08_thing.go:28", after := #[], guard := none },
      { dst := some 21, op := Op.nilCheck (Operand.tmp 20), type := 0, pos := "l08_thing.go:28", after := #[{ on := 17, ground := Ground.data }], guard := none },
      { dst := some 22, op := Op.fieldAddr 40 (Operand.tmp 21) 3, type := 0, pos := "l08_thing.go:28", after := #[{ on := 18, ground := Ground.data }], guard := none },
      { dst := some 23, op := Op.load 3 (Operand.tmp 22), type := 3, pos := "l08_thing.go:28", after := #[{ on := 19, ground := Ground.data }], guard := none },
      { dst := some 24, op := Op.buildSlice 57 1 #[(0, Operand.tmp 23)], type := 57, pos := "l08_thing.go:28", after := #[{ on := 20, ground := Ground.data }], guard := none },
      { dst := some 25, op := Op.buildSlice 128 4 #[(0, Operand.tmp 8), (1, Operand.tmp 13), (2, Operand.tmp 19), (3, Operand.tmp 24)], type := 128, pos := "l08_thing.go:28", after := #[{ on := 5, ground := Ground.data }, { on := 10, ground := Ground.data }, { on := 16, ground := Ground.data }, { on := 21, ground := Ground.data }], guard := none },
      { dst := some 26, op := Op.call { callee := Callee.value (Operand.func 111), args := #[Operand.tmp 25], argTypes := #[128] }, type := 57, pos := "l08_thing.go:28", after := #[{ on := 22, ground := Ground.data }, { on := 16, ground := Ground.chain }], guard := none },
      { dst := some 2, op := Op.assign (Operand.tmp 26), type := 57, pos := "l08_thing.go:28", after := #[{ on := 23, ground := Ground.data }, { on := 23, ground := Ground.chain }, { on := 0, ground := Ground.phase }, { on := 1, ground := Ground.phase }, { on := 2, ground := Ground.phase }, { on := 3, ground := Ground.phase }, { on := 4, ground := Ground.phase }, { on := 5, ground := Ground.phase }, { on := 6, ground := Ground.phase }, { on := 7, ground := Ground.phase }, { on := 8, ground := Ground.phase }, { on := 9, ground := Ground.phase }, { on := 10, ground := Ground.phase }, { on := 11, ground := Ground.phase }, { on := 12, ground := Ground.phase }, { on := 13, ground := Ground.phase }, { on := 14, ground := Ground.phase }, { on := 15, ground := Ground.phase }, { on := 16, ground := Ground.phase }, { on := 17, ground := Ground.phase }, { on := 18, ground := Ground.phase }, { on := 19, ground := Ground.phase }, { on := 20, ground := Ground.phase }, { on := 21, ground := Ground.phase }, { on := 22, ground := Ground.phase }, { on := 23, ground := Ground.phase }], guard := none }] true).wp Try.prog Q ⟨#[.pointer (some ⟨p, 0, none⟩), v1, v2, v3, v4, v5, v6, v7, v8, v9, v10, v11, v12, v13, v14, v15, v16, v17, v18, v19, v20, v21, v22, v23, v24, v25, v26], []⟩ w := by
  have HQ := Lib.hid hQ; clear hQ
  have hdr : Below w.heap.size w w.drew := (Below.refl _ _).drew
  have BB := Lib.hid hdr
  refine wp_region_noPanic ?_
  refine wp_region_held_drew (S := (fun w' => w'.cell? ⟨p, 0, none⟩ = some (.slice xa na ca) ∧ w'.cell? ⟨p, 1, none⟩ = some (.slice xb nb cb) ∧ w'.cell? ⟨p, 2, none⟩ = some (.slice xc nc cc) ∧ w'.cell? ⟨p, 3, none⟩ = some (.int .i64 f) ∧ w'.cell? ⟨p, 4, none⟩ = some (.int .i64 s))) (by kernel_rfl) ?_ (fun hHeld => ?_)
  · exact ⟨kc K0.out BB.out, kc K1.out BB.out, kc K2.out BB.out, kc K3.out BB.out, kc K4.out BB.out⟩
  clear hdr
  generalize w.drew = wd at *
  refine wpAnyH_take (i := 0) (oi := { dst := some 3, op := Op.move (Operand.tmp 0), type := 116, pos := "l08_thing.go:28", after := #[], guard := none }) (v := ?_) rfl (by kernel_rfl) (by kernel_rfl) (by kernel_rfl) (fun _ _ _ h => h) (Or.inl ⟨by rfl, ?_⟩) (by assumption) ?_
  rotate_left
  · intro w' hSw; (try dsimp only at hSw); first | (go_simp; done) | (go_simp; with_reducible rfl)
  (try simp only [Act.put, List.setIfInBounds_toArray, List.set_cons_zero, List.set_cons_succ])
  refine wpAnyH_take (i := 1) (oi := { dst := some 4, op := Op.nilCheck (Operand.tmp 3), type := 0, pos := "l08_thing.go:28", after := #[{ on := 0, ground := Ground.data }], guard := none }) (v := ?_) rfl (by kernel_rfl) (by kernel_rfl) (by kernel_rfl) (fun _ _ _ h => h) (Or.inl ⟨by rfl, ?_⟩) (by assumption) ?_
  rotate_left
  · intro w' hSw; (try dsimp only at hSw); first | (go_simp; done) | (go_simp; with_reducible rfl)
  (try simp only [Act.put, List.setIfInBounds_toArray, List.set_cons_zero, List.set_cons_succ])
  refine wpAnyH_take (i := 2) (oi := { dst := some 5, op := Op.fieldAddr 40 (Operand.tmp 4) 0, type := 0, pos := "l08_thing.go:28", after := #[{ on := 1, ground := Ground.data }], guard := none }) (v := ?_) rfl (by kernel_rfl) (by kernel_rfl) (by kernel_rfl) (fun _ _ _ h => h) (Or.inl ⟨by rfl, ?_⟩) (by assumption) ?_
  rotate_left
  · intro w' hSw; (try dsimp only at hSw); first | (go_simp; done) | (go_simp; with_reducible rfl)
  (try simp only [Act.put, List.setIfInBounds_toArray, List.set_cons_zero, List.set_cons_succ])
  refine wpAnyH_take (i := 3) (oi := { dst := some 6, op := Op.load 34 (Operand.tmp 5), type := 34, pos := "l08_thing.go:28", after := #[{ on := 2, ground := Ground.data }], guard := none }) (v := ?_) rfl (by kernel_rfl) (by kernel_rfl) (by kernel_rfl) (fun _ _ _ h => h) (Or.inl ⟨by rfl, ?_⟩) (by assumption) ?_
  rotate_left
  · intro w' hSw; (try dsimp only at hSw); first | (go_simp; done) | (go_simp; with_reducible rfl)
  (try simp only [Act.put, List.setIfInBounds_toArray, List.set_cons_zero, List.set_cons_succ])
  refine wpAnyH_take (i := 6) (oi := { dst := some 9, op := Op.move (Operand.tmp 0), type := 116, pos := "l08_thing.go:28", after := #[], guard := none }) (v := ?_) rfl (by kernel_rfl) (by kernel_rfl) (by kernel_rfl) (fun _ _ _ h => h) (Or.inl ⟨by rfl, ?_⟩) (by assumption) ?_
  rotate_left
  · intro w' hSw; (try dsimp only at hSw); first | (go_simp; done) | (go_simp; with_reducible rfl)
  (try simp only [Act.put, List.setIfInBounds_toArray, List.set_cons_zero, List.set_cons_succ])
  refine wpAnyH_take (i := 7) (oi := { dst := some 10, op := Op.nilCheck (Operand.tmp 9), type := 0, pos := "l08_thing.go:28", after := #[{ on := 6, ground := Ground.data }], guard := none }) (v := ?_) rfl (by kernel_rfl) (by kernel_rfl) (by kernel_rfl) (fun _ _ _ h => h) (Or.inl ⟨by rfl, ?_⟩) (by assumption) ?_
  rotate_left
  · intro w' hSw; (try dsimp only at hSw); first | (go_simp; done) | (go_simp; with_reducible rfl)
  (try simp only [Act.put, List.setIfInBounds_toArray, List.set_cons_zero, List.set_cons_succ])
  refine wpAnyH_take (i := 8) (oi := { dst := some 11, op := Op.fieldAddr 40 (Operand.tmp 10) 1, type := 0, pos := "l08_thing.go:28", after := #[{ on := 7, ground := Ground.data }], guard := none }) (v := ?_) rfl (by kernel_rfl) (by kernel_rfl) (by kernel_rfl) (fun _ _ _ h => h) (Or.inl ⟨by rfl, ?_⟩) (by assumption) ?_
  rotate_left
  · intro w' hSw; (try dsimp only at hSw); first | (go_simp; done) | (go_simp; with_reducible rfl)
  (try simp only [Act.put, List.setIfInBounds_toArray, List.set_cons_zero, List.set_cons_succ])
  refine wpAnyH_take (i := 9) (oi := { dst := some 12, op := Op.load 38 (Operand.tmp 11), type := 38, pos := "l08_thing.go:28", after := #[{ on := 8, ground := Ground.data }], guard := none }) (v := ?_) rfl (by kernel_rfl) (by kernel_rfl) (by kernel_rfl) (fun _ _ _ h => h) (Or.inl ⟨by rfl, ?_⟩) (by assumption) ?_
  rotate_left
  · intro w' hSw; (try dsimp only at hSw); first | (go_simp; done) | (go_simp; with_reducible rfl)
  (try simp only [Act.put, List.setIfInBounds_toArray, List.set_cons_zero, List.set_cons_succ])
  refine wpAnyH_take (i := 11) (oi := { dst := some 14, op := Op.move (Operand.tmp 0), type := 116, pos := "l08_thing.go:28", after := #[], guard := none }) (v := ?_) rfl (by kernel_rfl) (by kernel_rfl) (by kernel_rfl) (fun _ _ _ h => h) (Or.inl ⟨by rfl, ?_⟩) (by assumption) ?_
  rotate_left
  · intro w' hSw; (try dsimp only at hSw); first | (go_simp; done) | (go_simp; with_reducible rfl)
  (try simp only [Act.put, List.setIfInBounds_toArray, List.set_cons_zero, List.set_cons_succ])
  refine wpAnyH_take (i := 12) (oi := { dst := some 15, op := Op.nilCheck (Operand.tmp 14), type := 0, pos := "l08_thing.go:28", after := #[{ on := 11, ground := Ground.data }], guard := none }) (v := ?_) rfl (by kernel_rfl) (by kernel_rfl) (by kernel_rfl) (fun _ _ _ h => h) (Or.inl ⟨by rfl, ?_⟩) (by assumption) ?_
  rotate_left
  · intro w' hSw; (try dsimp only at hSw); first | (go_simp; done) | (go_simp; with_reducible rfl)
  (try simp only [Act.put, List.setIfInBounds_toArray, List.set_cons_zero, List.set_cons_succ])
  refine wpAnyH_take (i := 13) (oi := { dst := some 16, op := Op.fieldAddr 40 (Operand.tmp 15) 2, type := 0, pos := "l08_thing.go:28", after := #[{ on := 12, ground := Ground.data }], guard := none }) (v := ?_) rfl (by kernel_rfl) (by kernel_rfl) (by kernel_rfl) (fun _ _ _ h => h) (Or.inl ⟨by rfl, ?_⟩) (by assumption) ?_
  rotate_left
  · intro w' hSw; (try dsimp only at hSw); first | (go_simp; done) | (go_simp; with_reducible rfl)
  (try simp only [Act.put, List.setIfInBounds_toArray, List.set_cons_zero, List.set_cons_succ])
  refine wpAnyH_take (i := 14) (oi := { dst := some 17, op := Op.load 34 (Operand.tmp 16), type := 34, pos := "l08_thing.go:28", after := #[{ on := 13, ground := Ground.data }], guard := none }) (v := ?_) rfl (by kernel_rfl) (by kernel_rfl) (by kernel_rfl) (fun _ _ _ h => h) (Or.inl ⟨by rfl, ?_⟩) (by assumption) ?_
  rotate_left
  · intro w' hSw; (try dsimp only at hSw); first | (go_simp; done) | (go_simp; with_reducible rfl)
  (try simp only [Act.put, List.setIfInBounds_toArray, List.set_cons_zero, List.set_cons_succ])
  refine wpAnyH_take (i := 17) (oi := { dst := some 20, op := Op.move (Operand.tmp 0), type := 116, pos := "l08_thing.go:28", after := #[], guard := none }) (v := ?_) rfl (by kernel_rfl) (by kernel_rfl) (by kernel_rfl) (fun _ _ _ h => h) (Or.inl ⟨by rfl, ?_⟩) (by assumption) ?_
  rotate_left
  · intro w' hSw; (try dsimp only at hSw); first | (go_simp; done) | (go_simp; with_reducible rfl)
  (try simp only [Act.put, List.setIfInBounds_toArray, List.set_cons_zero, List.set_cons_succ])
  refine wpAnyH_take (i := 18) (oi := { dst := some 21, op := Op.nilCheck (Operand.tmp 20), type := 0, pos := "l08_thing.go:28", after := #[{ on := 17, ground := Ground.data }], guard := none }) (v := ?_) rfl (by kernel_rfl) (by kernel_rfl) (by kernel_rfl) (fun _ _ _ h => h) (Or.inl ⟨by rfl, ?_⟩) (by assumption) ?_
  rotate_left
  · intro w' hSw; (try dsimp only at hSw); first | (go_simp; done) | (go_simp; with_reducible rfl)
  (try simp only [Act.put, List.setIfInBounds_toArray, List.set_cons_zero, List.set_cons_succ])
  refine wpAnyH_take (i := 19) (oi := { dst := some 22, op := Op.fieldAddr 40 (Operand.tmp 21) 3, type := 0, pos := "l08_thing.go:28", after := #[{ on := 18, ground := Ground.data }], guard := none }) (v := ?_) rfl (by kernel_rfl) (by kernel_rfl) (by kernel_rfl) (fun _ _ _ h => h) (Or.inl ⟨by rfl, ?_⟩) (by assumption) ?_
  rotate_left
  · intro w' hSw; (try dsimp only at hSw); first | (go_simp; done) | (go_simp; with_reducible rfl)
  (try simp only [Act.put, List.setIfInBounds_toArray, List.set_cons_zero, List.set_cons_succ])
  refine wpAnyH_take (i := 20) (oi := { dst := some 23, op := Op.load 3 (Operand.tmp 22), type := 3, pos := "l08_thing.go:28", after := #[{ on := 19, ground := Ground.data }], guard := none }) (v := ?_) rfl (by kernel_rfl) (by kernel_rfl) (by kernel_rfl) (fun _ _ _ h => h) (Or.inl ⟨by rfl, ?_⟩) (by assumption) ?_
  rotate_left
  · intro w' hSw; (try dsimp only at hSw); first | (go_simp; done) | (go_simp; with_reducible rfl)
  (try simp only [Act.put, List.setIfInBounds_toArray, List.set_cons_zero, List.set_cons_succ])
  refine wpAnyH_ready (rs := [4, 21]) (by kernel_rfl) (by simp) ?_
  refine AllReadyH.cons (o := { dst := some 7, op := Op.call { callee := Callee.value (Operand.func 113), args := #[Operand.const (Value.slice none 0 0), Operand.tmp 6], argTypes := #[38, 34] }, type := 38, pos := "l08_thing.go:29", after := #[{ on := 3, ground := Ground.data }], guard := none }) rfl (fun K hK => ?_) ?_
  ·
    go_simp
    refine (implAppendName (.slice none 0 0) _ [] la _ (Sl.Holds.nil _ _) (H_a.out.on BB.out) (by simp) HLA.out).mono ?_
    rintro e wn1 ⟨v7, rfl, ho, hb⟩
    have H_v7 := Lib.hid ho.holds; clear ho
    replace BB := Lib.hid (BB.out.trans (hb.mono BB.out.size))
    clear hb
    (try go_wp2_with fail)
    clear hHeld
    refine hK.out _ _ ?_ (fun hHeld => ?_)
    · (try dsimp only); exact ⟨kc K0.out BB.out, kc K1.out BB.out, kc K2.out BB.out, kc K3.out BB.out, kc K4.out BB.out⟩
    clear hK K
    (try simp only [Act.put, List.setIfInBounds_toArray, List.set_cons_zero, List.set_cons_succ])
    refine wpAnyH_ready (rs := [5, 21]) (by kernel_rfl) (by simp) ?_
    refine AllReadyH.cons (o := { dst := some 8, op := Op.call { callee := Callee.value (Operand.func 112), args := #[Operand.tmp 7], argTypes := #[38] }, type := 57, pos := "l08_thing.go:29", after := #[{ on := 4, ground := Ground.data }, { on := 4, ground := Ground.chain }], guard := none }) rfl (fun K hK => ?_) ?_
    ·
      go_simp
      refine (Sl.implBytesToInts _ (appName [] la) _ (H_v7.out) (pbyt_app la pbyt_nil) (by have h1 := pname_len [] la; have h2 := HLA.out; simp only [List.length_nil] at h1; omega)).mono ?_
      rintro e wn2 ⟨v8, rfl, ho, hb⟩
      obtain ⟨g_v8, n_v8, c_v8, rfl, ho⟩ := own_some ho (b2i_pos _)
      have O_v8 := Lib.hid (ho.holds)
      clear ho
      replace H_v7 := Lib.hid (H_v7.out.on hb)
      replace BB := Lib.hid (BB.out.trans (hb.mono BB.out.size))
      clear hb
      (try go_wp2_with fail)
      clear hHeld
      refine hK.out _ _ ?_ (fun hHeld => ?_)
      · (try dsimp only); exact ⟨kc K0.out BB.out, kc K1.out BB.out, kc K2.out BB.out, kc K3.out BB.out, kc K4.out BB.out⟩
      clear hK K
      (try simp only [Act.put, List.setIfInBounds_toArray, List.set_cons_zero, List.set_cons_succ])
      refine wpAnyH_ready (rs := [10, 21]) (by kernel_rfl) (by simp) ?_
      refine AllReadyH.cons (o := { dst := some 13, op := Op.call { callee := Callee.value (Operand.func 112), args := #[Operand.tmp 12], argTypes := #[38] }, type := 57, pos := "l08_thing.go:30", after := #[{ on := 9, ground := Ground.data }, { on := 5, ground := Ground.chain }], guard := none }) rfl (fun K hK => ?_) ?_
      ·
        go_simp
        refine (Sl.implBytesToInts _ (lb) _ (H_b.out.on BB.out) HBY.out (by have h2 := HLB.out; omega)).mono ?_
        rintro e wn3 ⟨v13, rfl, ho, hb⟩
        obtain ⟨g_v13, n_v13, c_v13, rfl, ho⟩ := own_some ho (b2i_pos _)
        have O_v13 := Lib.hid (ho.holds)
        clear ho
        replace H_v7 := Lib.hid (H_v7.out.on hb)
        replace O_v8 := Lib.hid (O_v8.out.on hb)
        replace BB := Lib.hid (BB.out.trans (hb.mono BB.out.size))
        clear hb
        (try go_wp2_with fail)
        clear hHeld
        refine hK.out _ _ ?_ (fun hHeld => ?_)
        · (try dsimp only); exact ⟨kc K0.out BB.out, kc K1.out BB.out, kc K2.out BB.out, kc K3.out BB.out, kc K4.out BB.out⟩
        clear hK K
        (try simp only [Act.put, List.setIfInBounds_toArray, List.set_cons_zero, List.set_cons_succ])
        refine wpAnyH_ready (rs := [15, 21]) (by kernel_rfl) (by simp) ?_
        refine AllReadyH.cons (o := { dst := some 18, op := Op.call { callee := Callee.value (Operand.func 113), args := #[Operand.const (Value.slice none 0 0), Operand.tmp 17], argTypes := #[38, 34] }, type := 38, pos := "l08_thing.go:31", after := #[{ on := 14, ground := Ground.data }, { on := 10, ground := Ground.chain }], guard := none }) rfl (fun K hK => ?_) ?_
        ·
          go_simp
          refine (implAppendName (.slice none 0 0) _ [] lc _ (Sl.Holds.nil _ _) (H_c.out.on BB.out) (by simp) HLC.out).mono ?_
          rintro e wn4 ⟨v18, rfl, ho, hb⟩
          have H_v18 := Lib.hid ho.holds; clear ho
          replace H_v7 := Lib.hid (H_v7.out.on hb)
          replace O_v8 := Lib.hid (O_v8.out.on hb)
          replace O_v13 := Lib.hid (O_v13.out.on hb)
          replace BB := Lib.hid (BB.out.trans (hb.mono BB.out.size))
          clear hb
          (try go_wp2_with fail)
          clear hHeld
          refine hK.out _ _ ?_ (fun hHeld => ?_)
          · (try dsimp only); exact ⟨kc K0.out BB.out, kc K1.out BB.out, kc K2.out BB.out, kc K3.out BB.out, kc K4.out BB.out⟩
          clear hK K
          (try simp only [Act.put, List.setIfInBounds_toArray, List.set_cons_zero, List.set_cons_succ])
          refine wpAnyH_ready (rs := [16, 21]) (by kernel_rfl) (by simp) ?_
          refine AllReadyH.cons (o := { dst := some 19, op := Op.call { callee := Callee.value (Operand.func 112), args := #[Operand.tmp 18], argTypes := #[38] }, type := 57, pos := "l08_thing.go:31", after := #[{ on := 15, ground := Ground.data }, { on := 15, ground := Ground.chain }], guard := none }) rfl (fun K hK => ?_) ?_
          ·
            go_simp
            refine (Sl.implBytesToInts _ (appName [] lc) _ (H_v18.out) (pbyt_app lc pbyt_nil) (by have h1 := pname_len [] lc; have h2 := HLC.out; simp only [List.length_nil] at h1; omega)).mono ?_
            rintro e wn5 ⟨v19, rfl, ho, hb⟩
            obtain ⟨g_v19, n_v19, c_v19, rfl, ho⟩ := own_some ho (b2i_pos _)
            have O_v19 := Lib.hid (ho.holds)
            clear ho
            replace H_v7 := Lib.hid (H_v7.out.on hb)
            replace O_v8 := Lib.hid (O_v8.out.on hb)
            replace O_v13 := Lib.hid (O_v13.out.on hb)
            replace H_v18 := Lib.hid (H_v18.out.on hb)
            replace BB := Lib.hid (BB.out.trans (hb.mono BB.out.size))
            clear hb
            (try go_wp2_with fail)
            clear hHeld
            refine hK.out _ _ ?_ (fun hHeld => ?_)
            · (try dsimp only); exact ⟨kc K0.out BB.out, kc K1.out BB.out, kc K2.out BB.out, kc K3.out BB.out, kc K4.out BB.out⟩
            clear hK K
            (try simp only [Act.put, List.setIfInBounds_toArray, List.set_cons_zero, List.set_cons_succ])
            refine wpAnyH_ready (rs := [21]) (by kernel_rfl) (by simp) ?_
            refine AllReadyH.cons (o := { dst := some 24, op := Op.buildSlice 57 1 #[(0, Operand.tmp 23)], type := 57, pos := "l08_thing.go:28", after := #[{ on := 20, ground := Ground.data }], guard := none }) rfl (fun K hK => ?_) AllReadyH.nil
            go_simp
            have hb : Below wn5.heap.size wn5 (wn5.alloc (.cells #[.int .i64 f] 3)) := (Below.refl _ _).alloc (Nat.le_refl _) _
            obtain ⟨bf, hbf⟩ : ∃ b, b = wn5.heap.size := ⟨_, rfl⟩
            have HF := Lib.hid (hold_one wn5 f bf hbf)
            rw [← hbf]
            clear hbf
            replace H_v7 := Lib.hid (H_v7.out.on hb)
            replace O_v8 := Lib.hid (O_v8.out.on hb)
            replace O_v13 := Lib.hid (O_v13.out.on hb)
            replace H_v18 := Lib.hid (H_v18.out.on hb)
            replace O_v19 := Lib.hid (O_v19.out.on hb)
            replace BB := Lib.hid (BB.out.trans (hb.mono BB.out.size))
            clear hb
            generalize wn5.alloc (.cells #[.int .i64 f] 3) = wn6 at *
            clear hHeld
            refine hK.out _ _ ?_ (fun hHeld => ?_)
            · (try dsimp only); exact ⟨kc K0.out BB.out, kc K1.out BB.out, kc K2.out BB.out, kc K3.out BB.out, kc K4.out BB.out⟩
            clear hK K
            (try simp only [Act.put, List.setIfInBounds_toArray, List.set_cons_zero, List.set_cons_succ])
            refine wpAnyH_ready (rs := [22]) (by kernel_rfl) (by simp) ?_
            refine AllReadyH.cons (o := { dst := some 25, op := Op.buildSlice 128 4 #[(0, Operand.tmp 8), (1, Operand.tmp 13), (2, Operand.tmp 19), (3, Operand.tmp 24)], type := 128, pos := "l08_thing.go:28", after := #[{ on := 5, ground := Ground.data }, { on := 10, ground := Ground.data }, { on := 16, ground := Ground.data }, { on := 21, ground := Ground.data }], guard := none }) rfl (fun K hK => ?_) AllReadyH.nil
            go_simp
            have hb : Below wn6.heap.size wn6 (wn6.alloc (.cells #[.slice (some ⟨g_v8, 0, none⟩) n_v8 c_v8, .slice (some ⟨g_v13, 0, none⟩) n_v13 c_v13, .slice (some ⟨g_v19, 0, none⟩) n_v19 c_v19, .slice (some ⟨bf, 0, none⟩) 1 1] 57)) := (Below.refl _ _).alloc (Nat.le_refl _) _
            have HK4 := Lib.hid (Ret.Blk.new wn6 #[.slice (some ⟨g_v8, 0, none⟩) n_v8 c_v8, .slice (some ⟨g_v13, 0, none⟩) n_v13 c_v13, .slice (some ⟨g_v19, 0, none⟩) n_v19 c_v19, .slice (some ⟨bf, 0, none⟩) 1 1] 57)
            replace H_v7 := Lib.hid (H_v7.out.on hb)
            replace O_v8 := Lib.hid (O_v8.out.on hb)
            replace O_v13 := Lib.hid (O_v13.out.on hb)
            replace H_v18 := Lib.hid (H_v18.out.on hb)
            replace O_v19 := Lib.hid (O_v19.out.on hb)
            replace HF := Lib.hid (HF.out.on hb)
            replace BB := Lib.hid (BB.out.trans (hb.mono BB.out.size))
            clear hb
            generalize wn6.alloc (.cells #[.slice (some ⟨g_v8, 0, none⟩) n_v8 c_v8, .slice (some ⟨g_v13, 0, none⟩) n_v13 c_v13, .slice (some ⟨g_v19, 0, none⟩) n_v19 c_v19, .slice (some ⟨bf, 0, none⟩) 1 1] 57) = wn7 at *
            clear hHeld
            refine hK.out _ _ ?_ (fun hHeld => ?_)
            · (try dsimp only); exact ⟨kc K0.out BB.out, kc K1.out BB.out, kc K2.out BB.out, kc K3.out BB.out, kc K4.out BB.out⟩
            clear hK K
            (try simp only [Act.put, List.setIfInBounds_toArray, List.set_cons_zero, List.set_cons_succ])
            refine wpAnyH_ready (rs := [23]) (by kernel_rfl) (by simp) ?_
            refine AllReadyH.cons (o := { dst := some 26, op := Op.call { callee := Callee.value (Operand.func 111), args := #[Operand.tmp 25], argTypes := #[128] }, type := 57, pos := "l08_thing.go:28", after := #[{ on := 22, ground := Ground.data }, { on := 16, ground := Ground.chain }], guard := none }) rfl (fun K hK => ?_) AllReadyH.nil
            go_simp
            refine (concat4 HK4.out O_v8.out O_v13.out O_v19.out HF.out HLT.out).mono ?_
            rintro e wn8 ⟨v26, rfl, ho, hb⟩
            have O_v26 := Lib.hid (Sl.Own.mono ho BB.out.size); clear ho
            replace H_v7 := Lib.hid (H_v7.out.on hb)
            replace O_v8 := Lib.hid (O_v8.out.on hb)
            replace O_v13 := Lib.hid (O_v13.out.on hb)
            replace H_v18 := Lib.hid (H_v18.out.on hb)
            replace O_v19 := Lib.hid (O_v19.out.on hb)
            replace HF := Lib.hid (HF.out.on hb)
            replace BB := Lib.hid (BB.out.trans (hb.mono BB.out.size))
            clear hb
            (try go_wp2_with fail)
            clear hHeld
            refine hK.out _ _ ?_ (fun hHeld => ?_)
            · (try dsimp only); exact ⟨kc K0.out BB.out, kc K1.out BB.out, kc K2.out BB.out, kc K3.out BB.out, kc K4.out BB.out⟩
            clear hK K
            (try simp only [Act.put, List.setIfInBounds_toArray, List.set_cons_zero, List.set_cons_succ])
            refine wpAnyH_take (i := 24) (oi := { dst := some 2, op := Op.assign (Operand.tmp 26), type := 57, pos := "l08_thing.go:28", after := #[{ on := 23, ground := Ground.data }, { on := 23, ground := Ground.chain }, { on := 0, ground := Ground.phase }, { on := 1, ground := Ground.phase }, { on := 2, ground := Ground.phase }, { on := 3, ground := Ground.phase }, { on := 4, ground := Ground.phase }, { on := 5, ground := Ground.phase }, { on := 6, ground := Ground.phase }, { on := 7, ground := Ground.phase }, { on := 8, ground := Ground.phase }, { on := 9, ground := Ground.phase }, { on := 10, ground := Ground.phase }, { on := 11, ground := Ground.phase }, { on := 12, ground := Ground.phase }, { on := 13, ground := Ground.phase }, { on := 14, ground := Ground.phase }, { on := 15, ground := Ground.phase }, { on := 16, ground := Ground.phase }, { on := 17, ground := Ground.phase }, { on := 18, ground := Ground.phase }, { on := 19, ground := Ground.phase }, { on := 20, ground := Ground.phase }, { on := 21, ground := Ground.phase }, { on := 22, ground := Ground.phase }, { on := 23, ground := Ground.phase }], guard := none }) (v := ?_) rfl (by kernel_rfl) (by kernel_rfl) (by kernel_rfl) (fun _ _ _ h => h) (Or.inl ⟨by rfl, ?_⟩) (by assumption) ?_
            rotate_left
            · intro w' hSw; (try dsimp only at hSw); first | (go_simp; done) | (go_simp; with_reducible rfl)
            (try simp only [Act.put, List.setIfInBounds_toArray, List.set_cons_zero, List.set_cons_succ])
            refine wpAnyH_done (by kernel_rfl) ?_ _
            exact NoPanic.normal (HQ.out _ _ _ _ _ _ _ _ _ _ _ _ _ _ _ _ _ _ _ _ _ _ _ _ _ _ O_v26.out BB.out)
          refine AllReadyH.cons (o := { dst := some 24, op := Op.buildSlice 57 1 #[(0, Operand.tmp 23)], type := 57, pos := "l08_thing.go:28", after := #[{ on := 20, ground := Ground.data }], guard := none }) rfl (fun K hK => ?_) AllReadyH.nil
          go_simp
          have hb : Below wn4.heap.size wn4 (wn4.alloc (.cells #[.int .i64 f] 3)) := (Below.refl _ _).alloc (Nat.le_refl _) _
          obtain ⟨bf, hbf⟩ : ∃ b, b = wn4.heap.size := ⟨_, rfl⟩
          have HF := Lib.hid (hold_one wn4 f bf hbf)
          rw [← hbf]
          clear hbf
          replace H_v7 := Lib.hid (H_v7.out.on hb)
          replace O_v8 := Lib.hid (O_v8.out.on hb)
          replace O_v13 := Lib.hid (O_v13.out.on hb)
          replace H_v18 := Lib.hid (H_v18.out.on hb)
          replace BB := Lib.hid (BB.out.trans (hb.mono BB.out.size))
          clear hb
          generalize wn4.alloc (.cells #[.int .i64 f] 3) = wn9 at *
          clear hHeld
          refine hK.out _ _ ?_ (fun hHeld => ?_)
          · (try dsimp only); exact ⟨kc K0.out BB.out, kc K1.out BB.out, kc K2.out BB.out, kc K3.out BB.out, kc K4.out BB.out⟩
          clear hK K
          (try simp only [Act.put, List.setIfInBounds_toArray, List.set_cons_zero, List.set_cons_succ])
          refine wpAnyH_ready (rs := [16]) (by kernel_rfl) (by simp) ?_
          refine AllReadyH.cons (o := { dst := some 19, op := Op.call { callee := Callee.value (Operand.func 112), args := #[Operand.tmp 18], argTypes := #[38] }, type := 57, pos := "l08_thing.go:31", after := #[{ on := 15, ground := Ground.data }, { on := 15, ground := Ground.chain }], guard := none }) rfl (fun K hK => ?_) AllReadyH.nil
          go_simp
          refine (Sl.implBytesToInts _ (appName [] lc) _ (H_v18.out) (pbyt_app lc pbyt_nil) (by have h1 := pname_len [] lc; have h2 := HLC.out; simp only [List.length_nil] at h1; omega)).mono ?_
          rintro e wn10 ⟨v19, rfl, ho, hb⟩
          obtain ⟨g_v19, n_v19, c_v19, rfl, ho⟩ := own_some ho (b2i_pos _)
          have O_v19 := Lib.hid (ho.holds)
          clear ho
          replace H_v7 := Lib.hid (H_v7.out.on hb)
          replace O_v8 := Lib.hid (O_v8.out.on hb)
          replace O_v13 := Lib.hid (O_v13.out.on hb)
          replace H_v18 := Lib.hid (H_v18.out.on hb)
          replace HF := Lib.hid (HF.out.on hb)
          replace BB := Lib.hid (BB.out.trans (hb.mono BB.out.size))
          clear hb
          (try go_wp2_with fail)
          clear hHeld
          refine hK.out _ _ ?_ (fun hHeld => ?_)
          · (try dsimp only); exact ⟨kc K0.out BB.out, kc K1.out BB.out, kc K2.out BB.out, kc K3.out BB.out, kc K4.out BB.out⟩
          clear hK K
          (try simp only [Act.put, List.setIfInBounds_toArray, List.set_cons_zero, List.set_cons_succ])
          refine wpAnyH_ready (rs := [22]) (by kernel_rfl) (by simp) ?_
          refine AllReadyH.cons (o := { dst := some 25, op := Op.buildSlice 128 4 #[(0, Operand.tmp 8), (1, Operand.tmp 13), (2, Operand.tmp 19), (3, Operand.tmp 24)], type := 128, pos := "l08_thing.go:28", after := #[{ on := 5, ground := Ground.data }, { on := 10, ground := Ground.data }, { on := 16, ground := Ground.data }, { on := 21, ground := Ground.data }], guard := none }) rfl (fun K hK => ?_) AllReadyH.nil
          go_simp
          have hb : Below wn10.heap.size wn10 (wn10.alloc (.cells #[.slice (some ⟨g_v8, 0, none⟩) n_v8 c_v8, .slice (some ⟨g_v13, 0, none⟩) n_v13 c_v13, .slice (some ⟨g_v19, 0, none⟩) n_v19 c_v19, .slice (some ⟨bf, 0, none⟩) 1 1] 57)) := (Below.refl _ _).alloc (Nat.le_refl _) _
          have HK4 := Lib.hid (Ret.Blk.new wn10 #[.slice (some ⟨g_v8, 0, none⟩) n_v8 c_v8, .slice (some ⟨g_v13, 0, none⟩) n_v13 c_v13, .slice (some ⟨g_v19, 0, none⟩) n_v19 c_v19, .slice (some ⟨bf, 0, none⟩) 1 1] 57)
          replace H_v7 := Lib.hid (H_v7.out.on hb)
          replace O_v8 := Lib.hid (O_v8.out.on hb)
          replace O_v13 := Lib.hid (O_v13.out.on hb)
          replace H_v18 := Lib.hid (H_v18.out.on hb)
          replace HF := Lib.hid (HF.out.on hb)
          replace O_v19 := Lib.hid (O_v19.out.on hb)
          replace BB := Lib.hid (BB.out.trans (hb.mono BB.out.size))
          clear hb
          generalize wn10.alloc (.cells #[.slice (some ⟨g_v8, 0, none⟩) n_v8 c_v8, .slice (some ⟨g_v13, 0, none⟩) n_v13 c_v13, .slice (some ⟨g_v19, 0, none⟩) n_v19 c_v19, .slice (some ⟨bf, 0, none⟩) 1 1] 57) = wn11 at *
          clear hHeld
          refine hK.out _ _ ?_ (fun hHeld => ?_)
          · (try dsimp only); exact ⟨kc K0.out BB.out, kc K1.out BB.out, kc K2.out BB.out, kc K3.out BB.out, kc K4.out BB.out⟩
          clear hK K
          (try simp only [Act.put, List.setIfInBounds_toArray, List.set_cons_zero, List.set_cons_succ])
          refine wpAnyH_ready (rs := [23]) (by kernel_rfl) (by simp) ?_
          refine AllReadyH.cons (o := { dst := some 26, op := Op.call { callee := Callee.value (Operand.func 111), args := #[Operand.tmp 25], argTypes := #[128] }, type := 57, pos := "l08_thing.go:28", after := #[{ on := 22, ground := Ground.data }, { on := 16, ground := Ground.chain }], guard := none }) rfl (fun K hK => ?_) AllReadyH.nil
          go_simp
          refine (concat4 HK4.out O_v8.out O_v13.out O_v19.out HF.out HLT.out).mono ?_
          rintro e wn12 ⟨v26, rfl, ho, hb⟩
          have O_v26 := Lib.hid (Sl.Own.mono ho BB.out.size); clear ho
          replace H_v7 := Lib.hid (H_v7.out.on hb)
          replace O_v8 := Lib.hid (O_v8.out.on hb)
          replace O_v13 := Lib.hid (O_v13.out.on hb)
          replace H_v18 := Lib.hid (H_v18.out.on hb)
          replace HF := Lib.hid (HF.out.on hb)
          replace O_v19 := Lib.hid (O_v19.out.on hb)
          replace BB := Lib.hid (BB.out.trans (hb.mono BB.out.size))
          clear hb
          (try go_wp2_with fail)
          clear hHeld
          refine hK.out _ _ ?_ (fun hHeld => ?_)
          · (try dsimp only); exact ⟨kc K0.out BB.out, kc K1.out BB.out, kc K2.out BB.out, kc K3.out BB.out, kc K4.out BB.out⟩
          clear hK K
          (try simp only [Act.put, List.setIfInBounds_toArray, List.set_cons_zero, List.set_cons_succ])
          refine wpAnyH_take (i := 24) (oi := { dst := some 2, op := Op.assign (Operand.tmp 26), type := 57, pos := "l08_thing.go:28", after := #[{ on := 23, ground := Ground.data }, { on := 23, ground := Ground.chain }, { on := 0, ground := Ground.phase }, { on := 1, ground := Ground.phase }, { on := 2, ground := Ground.phase }, { on := 3, ground := Ground.phase }, { on := 4, ground := Ground.phase }, { on := 5, ground := Ground.phase }, { on := 6, ground := Ground.phase }, { on := 7, ground := Ground.phase }, { on := 8, ground := Ground.phase }, { on := 9, ground := Ground.phase }, { on := 10, ground := Ground.phase }, { on := 11, ground := Ground.phase }, { on := 12, ground := Ground.phase }, { on := 13, ground := Ground.phase }, { on := 14, ground := Ground.phase }, { on := 15, ground := Ground.phase }, { on := 16, ground := Ground.phase }, { on := 17, ground := Ground.phase }, { on := 18, ground := Ground.phase }, { on := 19, ground := Ground.phase }, { on := 20, ground := Ground.phase }, { on := 21, ground := Ground.phase }, { on := 22, ground := Ground.phase }, { on := 23, ground := Ground.phase }], guard := none }) (v := ?_) rfl (by kernel_rfl) (by kernel_rfl) (by kernel_rfl) (fun _ _ _ h => h) (Or.inl ⟨by rfl, ?_⟩) (by assumption) ?_
          rotate_left
          · intro w' hSw; (try dsimp only at hSw); first | (go_simp; done) | (go_simp; with_reducible rfl)
          (try simp only [Act.put, List.setIfInBounds_toArray, List.set_cons_zero, List.set_cons_succ])
          refine wpAnyH_done (by kernel_rfl) ?_ _
          exact NoPanic.normal (HQ.out _ _ _ _ _ _ _ _ _ _ _ _ _ _ _ _ _ _ _ _ _ _ _ _ _ _ O_v26.out BB.out)
        refine AllReadyH.cons (o := { dst := some 24, op := Op.buildSlice 57 1 #[(0, Operand.tmp 23)], type := 57, pos := "l08_thing.go:28", after := #[{ on := 20, ground := Ground.data }], guard := none }) rfl (fun K hK => ?_) AllReadyH.nil
        go_simp
        have hb : Below wn3.heap.size wn3 (wn3.alloc (.cells #[.int .i64 f] 3)) := (Below.refl _ _).alloc (Nat.le_refl _) _
        obtain ⟨bf, hbf⟩ : ∃ b, b = wn3.heap.size := ⟨_, rfl⟩
        have HF := Lib.hid (hold_one wn3 f bf hbf)
        rw [← hbf]
        clear hbf
        replace H_v7 := Lib.hid (H_v7.out.on hb)
        replace O_v8 := Lib.hid (O_v8.out.on hb)
        replace O_v13 := Lib.hid (O_v13.out.on hb)
        replace BB := Lib.hid (BB.out.trans (hb.mono BB.out.size))
        clear hb
        generalize wn3.alloc (.cells #[.int .i64 f] 3) = wn13 at *
        clear hHeld
        refine hK.out _ _ ?_ (fun hHeld => ?_)
        · (try dsimp only); exact ⟨kc K0.out BB.out, kc K1.out BB.out, kc K2.out BB.out, kc K3.out BB.out, kc K4.out BB.out⟩
        clear hK K
        (try simp only [Act.put, List.setIfInBounds_toArray, List.set_cons_zero, List.set_cons_succ])
        refine wpAnyH_ready (rs := [15]) (by kernel_rfl) (by simp) ?_
        refine AllReadyH.cons (o := { dst := some 18, op := Op.call { callee := Callee.value (Operand.func 113), args := #[Operand.const (Value.slice none 0 0), Operand.tmp 17], argTypes := #[38, 34] }, type := 38, pos := "l08_thing.go:31", after := #[{ on := 14, ground := Ground.data }, { on := 10, ground := Ground.chain }], guard := none }) rfl (fun K hK => ?_) AllReadyH.nil
        go_simp
        refine (implAppendName (.slice none 0 0) _ [] lc _ (Sl.Holds.nil _ _) (H_c.out.on BB.out) (by simp) HLC.out).mono ?_
        rintro e wn14 ⟨v18, rfl, ho, hb⟩
        have H_v18 := Lib.hid ho.holds; clear ho
        replace H_v7 := Lib.hid (H_v7.out.on hb)
        replace O_v8 := Lib.hid (O_v8.out.on hb)
        replace O_v13 := Lib.hid (O_v13.out.on hb)
        replace HF := Lib.hid (HF.out.on hb)
        replace BB := Lib.hid (BB.out.trans (hb.mono BB.out.size))
        clear hb
        (try go_wp2_with fail)
        clear hHeld
        refine hK.out _ _ ?_ (fun hHeld => ?_)
        · (try dsimp only); exact ⟨kc K0.out BB.out, kc K1.out BB.out, kc K2.out BB.out, kc K3.out BB.out, kc K4.out BB.out⟩
        clear hK K
        (try simp only [Act.put, List.setIfInBounds_toArray, List.set_cons_zero, List.set_cons_succ])
        refine wpAnyH_ready (rs := [16]) (by kernel_rfl) (by simp) ?_
        refine AllReadyH.cons (o := { dst := some 19, op := Op.call { callee := Callee.value (Operand.func 112), args := #[Operand.tmp 18], argTypes := #[38] }, type := 57, pos := "l08_thing.go:31", after := #[{ on := 15, ground := Ground.data }, { on := 15, ground := Ground.chain }], guard := none }) rfl (fun K hK => ?_) AllReadyH.nil
        go_simp
        refine (Sl.implBytesToInts _ (appName [] lc) _ (H_v18.out) (pbyt_app lc pbyt_nil) (by have h1 := pname_len [] lc; have h2 := HLC.out; simp only [List.length_nil] at h1; omega)).mono ?_
        rintro e wn15 ⟨v19, rfl, ho, hb⟩
        obtain ⟨g_v19, n_v19, c_v19, rfl, ho⟩ := own_some ho (b2i_pos _)
        have O_v19 := Lib.hid (ho.holds)
        clear ho
        replace H_v7 := Lib.hid (H_v7.out.on hb)
        replace O_v8 := Lib.hid (O_v8.out.on hb)
        replace O_v13 := Lib.hid (O_v13.out.on hb)
        replace HF := Lib.hid (HF.out.on hb)
        replace H_v18 := Lib.hid (H_v18.out.on hb)
        replace BB := Lib.hid (BB.out.trans (hb.mono BB.out.size))
        clear hb
        (try go_wp2_with fail)
        clear hHeld
        refine hK.out _ _ ?_ (fun hHeld => ?_)
        · (try dsimp only); exact ⟨kc K0.out BB.out, kc K1.out BB.out, kc K2.out BB.out, kc K3.out BB.out, kc K4.out BB.out⟩
        clear hK K
        (try simp only [Act.put, List.setIfInBounds_toArray, List.set_cons_zero, List.set_cons_succ])
        refine wpAnyH_ready (rs := [22]) (by kernel_rfl) (by simp) ?_
        refine AllReadyH.cons (o := { dst := some 25, op := Op.buildSlice 128 4 #[(0, Operand.tmp 8), (1, Operand.tmp 13), (2, Operand.tmp 19), (3, Operand.tmp 24)], type := 128, pos := "l08_thing.go:28", after := #[{ on := 5, ground := Ground.data }, { on := 10, ground := Ground.data }, { on := 16, ground := Ground.data }, { on := 21, ground := Ground.data }], guard := none }) rfl (fun K hK => ?_) AllReadyH.nil
        go_simp
        have hb : Below wn15.heap.size wn15 (wn15.alloc (.cells #[.slice (some ⟨g_v8, 0, none⟩) n_v8 c_v8, .slice (some ⟨g_v13, 0, none⟩) n_v13 c_v13, .slice (some ⟨g_v19, 0, none⟩) n_v19 c_v19, .slice (some ⟨bf, 0, none⟩) 1 1] 57)) := (Below.refl _ _).alloc (Nat.le_refl _) _
        have HK4 := Lib.hid (Ret.Blk.new wn15 #[.slice (some ⟨g_v8, 0, none⟩) n_v8 c_v8, .slice (some ⟨g_v13, 0, none⟩) n_v13 c_v13, .slice (some ⟨g_v19, 0, none⟩) n_v19 c_v19, .slice (some ⟨bf, 0, none⟩) 1 1] 57)
        replace H_v7 := Lib.hid (H_v7.out.on hb)
        replace O_v8 := Lib.hid (O_v8.out.on hb)
        replace O_v13 := Lib.hid (O_v13.out.on hb)
        replace HF := Lib.hid (HF.out.on hb)
        replace H_v18 := Lib.hid (H_v18.out.on hb)
        replace O_v19 := Lib.hid (O_v19.out.on hb)
        replace BB := Lib.hid (BB.out.trans (hb.mono BB.out.size))
        clear hb
        generalize wn15.alloc (.cells #[.slice (some ⟨g_v8, 0, none⟩) n_v8 c_v8, .slice (some ⟨g_v13, 0, none⟩) n_v13 c_v13, .slice (some ⟨g_v19, 0, none⟩) n_v19 c_v19, .slice (some ⟨bf, 0, none⟩) 1 1] 57) = wn16 at *
        clear hHeld
        refine hK.out _ _ ?_ (fun hHeld => ?_)
        · (try dsimp only); exact ⟨kc K0.out BB.out, kc K1.out BB.out, kc K2.out BB.out, kc K3.out BB.out, kc K4.out BB.out⟩
        clear hK K
        (try simp only [Act.put, List.setIfInBounds_toArray, List.set_cons_zero, List.set_cons_succ])
        refine wpAnyH_ready (rs := [23]) (by kernel_rfl) (by simp) ?_
        refine AllReadyH.cons (o := { dst := some 26, op := Op.call { callee := Callee.value (Operand.func 111), args := #[Operand.tmp 25], argTypes := #[128] }, type := 57, pos := "l08_thing.go:28", after := #[{ on := 22, ground := Ground.data }, { on := 16, ground := Ground.chain }], guard := none }) rfl (fun K hK => ?_) AllReadyH.nil
        go_simp
        refine (concat4 HK4.out O_v8.out O_v13.out O_v19.out HF.out HLT.out).mono ?_
        rintro e wn17 ⟨v26, rfl, ho, hb⟩
        have O_v26 := Lib.hid (Sl.Own.mono ho BB.out.size); clear ho
        replace H_v7 := Lib.hid (H_v7.out.on hb)
        replace O_v8 := Lib.hid (O_v8.out.on hb)
        replace O_v13 := Lib.hid (O_v13.out.on hb)
        replace HF := Lib.hid (HF.out.on hb)
        replace H_v18 := Lib.hid (H_v18.out.on hb)
        replace O_v19 := Lib.hid (O_v19.out.on hb)
        replace BB := Lib.hid (BB.out.trans (hb.mono BB.out.size))
        clear hb
        (try go_wp2_with fail)
        clear hHeld
        refine hK.out _ _ ?_ (fun hHeld => ?_)
        · (try dsimp only); exact ⟨kc K0.out BB.out, kc K1.out BB.out, kc K2.out BB.out, kc K3.out BB.out, kc K4.out BB.out⟩
        clear hK K
        (try simp only [Act.put, List.setIfInBounds_toArray, List.set_cons_zero, List.set_cons_succ])
        refine wpAnyH_take (i := 24) (oi := { dst := some 2, op := Op.assign (Operand.tmp 26), type := 57, pos := "l08_thing.go:28", after := #[{ on := 23, ground := Ground.data }, { on := 23, ground := Ground.chain }, { on := 0, ground := Ground.phase }, { on := 1, ground := Ground.phase }, { on := 2, ground := Ground.phase }, { on := 3, ground := Ground.phase }, { on := 4, ground := Ground.phase }, { on := 5, ground := Ground.phase }, { on := 6, ground := Ground.phase }, { on := 7, ground := Ground.phase }, { on := 8, ground := Ground.phase }, { on := 9, ground := Ground.phase }, { on := 10, ground := Ground.phase }, { on := 11, ground := Ground.phase }, { on := 12, ground := Ground.phase }, { on := 13, ground := Ground.phase }, { on := 14, ground := Ground.phase }, { on := 15, ground := Ground.phase }, { on := 16, ground := Ground.phase }, { on := 17, ground := Ground.phase }, { on := 18, ground := Ground.phase }, { on := 19, ground := Ground.phase }, { on := 20, ground := Ground.phase }, { on := 21, ground := Ground.phase }, { on := 22, ground := Ground.phase }, { on := 23, ground := Ground.phase }], guard := none }) (v := ?_) rfl (by kernel_rfl) (by kernel_rfl) (by kernel_rfl) (fun _ _ _ h => h) (Or.inl ⟨by rfl, ?_⟩) (by assumption) ?_
        rotate_left
        · intro w' hSw; (try dsimp only at hSw); first | (go_simp; done) | (go_simp; with_reducible rfl)
        (try simp only [Act.put, List.setIfInBounds_toArray, List.set_cons_zero, List.set_cons_succ])
        refine wpAnyH_done (by kernel_rfl) ?_ _
        exact NoPanic.normal (HQ.out _ _ _ _ _ _ _ _ _ _ _ _ _ _ _ _ _ _ _ _ _ _ _ _ _ _ O_v26.out BB.out)
      refine AllReadyH.cons (o := { dst := some 24, op := Op.buildSlice 57 1 #[(0, Operand.tmp 23)], type := 57, pos := "l08_thing.go:28", after := #[{ on := 20, ground := Ground.data }], guard := none }) rfl (fun K hK => ?_) AllReadyH.nil
      go_simp
      have hb : Below wn2.heap.size wn2 (wn2.alloc (.cells #[.int .i64 f] 3)) := (Below.refl _ _).alloc (Nat.le_refl _) _
      obtain ⟨bf, hbf⟩ : ∃ b, b = wn2.heap.size := ⟨_, rfl⟩
      have HF := Lib.hid (hold_one wn2 f bf hbf)
      rw [← hbf]
      clear hbf
      replace H_v7 := Lib.hid (H_v7.out.on hb)
      replace O_v8 := Lib.hid (O_v8.out.on hb)
      replace BB := Lib.hid (BB.out.trans (hb.mono BB.out.size))
      clear hb
      generalize wn2.alloc (.cells #[.int .i64 f] 3) = wn18 at *
      clear hHeld
      refine hK.out _ _ ?_ (fun hHeld => ?_)
      · (try dsimp only); exact ⟨kc K0.out BB.out, kc K1.out BB.out, kc K2.out BB.out, kc K3.out BB.out, kc K4.out BB.out⟩
      clear hK K
      (try simp only [Act.put, List.setIfInBounds_toArray, List.set_cons_zero, List.set_cons_succ])
      refine wpAnyH_ready (rs := [10]) (by kernel_rfl) (by simp) ?_
      refine AllReadyH.cons (o := { dst := some 13, op := Op.call { callee := Callee.value (Operand.func 112), args := #[Operand.tmp 12], argTypes := #[38] }, type := 57, pos := "l08_thing.go:30", after := #[{ on := 9, ground := Ground.data }, { on := 5, ground := Ground.chain }], guard := none }) rfl (fun K hK => ?_) AllReadyH.nil
      go_simp
      refine (Sl.implBytesToInts _ (lb) _ (H_b.out.on BB.out) HBY.out (by have h2 := HLB.out; omega)).mono ?_
      rintro e wn19 ⟨v13, rfl, ho, hb⟩
      obtain ⟨g_v13, n_v13, c_v13, rfl, ho⟩ := own_some ho (b2i_pos _)
      have O_v13 := Lib.hid (ho.holds)
      clear ho
      replace H_v7 := Lib.hid (H_v7.out.on hb)
      replace O_v8 := Lib.hid (O_v8.out.on hb)
      replace HF := Lib.hid (HF.out.on hb)
      replace BB := Lib.hid (BB.out.trans (hb.mono BB.out.size))
      clear hb
      (try go_wp2_with fail)
      clear hHeld
      refine hK.out _ _ ?_ (fun hHeld => ?_)
      · (try dsimp only); exact ⟨kc K0.out BB.out, kc K1.out BB.out, kc K2.out BB.out, kc K3.out BB.out, kc K4.out BB.out⟩
      clear hK K
      (try simp only [Act.put, List.setIfInBounds_toArray, List.set_cons_zero, List.set_cons_succ])
      refine wpAnyH_ready (rs := [15]) (by kernel_rfl) (by simp) ?_
      refine AllReadyH.cons (o := { dst := some 18, op := Op.call { callee := Callee.value (Operand.func 113), args := #[Operand.const (Value.slice none 0 0), Operand.tmp 17], argTypes := #[38, 34] }, type := 38, pos := "l08_thing.go:31", after := #[{ on := 14, ground := Ground.data }, { on := 10, ground := Ground.chain }], guard := none }) rfl (fun K hK => ?_) AllReadyH.nil
      go_simp
      refine (implAppendName (.slice none 0 0) _ [] lc _ (Sl.Holds.nil _ _) (H_c.out.on BB.out) (by simp) HLC.out).mono ?_
      rintro e wn20 ⟨v18, rfl, ho, hb⟩
      have H_v18 := Lib.hid ho.holds; clear ho
      replace H_v7 := Lib.hid (H_v7.out.on hb)
      replace O_v8 := Lib.hid (O_v8.out.on hb)
      replace HF := Lib.hid (HF.out.on hb)
      replace O_v13 := Lib.hid (O_v13.out.on hb)
      replace BB := Lib.hid (BB.out.trans (hb.mono BB.out.size))
      clear hb
      (try go_wp2_with fail)
      clear hHeld
      refine hK.out _ _ ?_ (fun hHeld => ?_)
      · (try dsimp only); exact ⟨kc K0.out BB.out, kc K1.out BB.out, kc K2.out BB.out, kc K3.out BB.out, kc K4.out BB.out⟩
      clear hK K
      (try simp only [Act.put, List.setIfInBounds_toArray, List.set_cons_zero, List.set_cons_succ])
      refine wpAnyH_ready (rs := [16]) (by kernel_rfl) (by simp) ?_
      refine AllReadyH.cons (o := { dst := some 19, op := Op.call { callee := Callee.value (Operand.func 112), args := #[Operand.tmp 18], argTypes := #[38] }, type := 57, pos := "l08_thing.go:31", after := #[{ on := 15, ground := Ground.data }, { on := 15, ground := Ground.chain }], guard := none }) rfl (fun K hK => ?_) AllReadyH.nil
      go_simp
      refine (Sl.implBytesToInts _ (appName [] lc) _ (H_v18.out) (pbyt_app lc pbyt_nil) (by have h1 := pname_len [] lc; have h2 := HLC.out; simp only [List.length_nil] at h1; omega)).mono ?_
      rintro e wn21 ⟨v19, rfl, ho, hb⟩
      obtain ⟨g_v19, n_v19, c_v19, rfl, ho⟩ := own_some ho (b2i_pos _)
      have O_v19 := Lib.hid (ho.holds)
      clear ho
      replace H_v7 := Lib.hid (H_v7.out.on hb)
      replace O_v8 := Lib.hid (O_v8.out.on hb)
      replace HF := Lib.hid (HF.out.on hb)
      replace O_v13 := Lib.hid (O_v13.out.on hb)
      replace H_v18 := Lib.hid (H_v18.out.on hb)
      replace BB := Lib.hid (BB.out.trans (hb.mono BB.out.size))
      clear hb
      (try go_wp2_with fail)
      clear hHeld
      refine hK.out _ _ ?_ (fun hHeld => ?_)
      · (try dsimp only); exact ⟨kc K0.out BB.out, kc K1.out BB.out, kc K2.out BB.out, kc K3.out BB.out, kc K4.out BB.out⟩
      clear hK K
      (try simp only [Act.put, List.setIfInBounds_toArray, List.set_cons_zero, List.set_cons_succ])
      refine wpAnyH_ready (rs := [22]) (by kernel_rfl) (by simp) ?_
      refine AllReadyH.cons (o := { dst := some 25, op := Op.buildSlice 128 4 #[(0, Operand.tmp 8), (1, Operand.tmp 13), (2, Operand.tmp 19), (3, Operand.tmp 24)], type := 128, pos := "l08_thing.go:28", after := #[{ on := 5, ground := Ground.data }, { on := 10, ground := Ground.data }, { on := 16, ground := Ground.data }, { on := 21, ground := Ground.data }], guard := none }) rfl (fun K hK => ?_) AllReadyH.nil
      go_simp
      have hb : Below wn21.heap.size wn21 (wn21.alloc (.cells #[.slice (some ⟨g_v8, 0, none⟩) n_v8 c_v8, .slice (some ⟨g_v13, 0, none⟩) n_v13 c_v13, .slice (some ⟨g_v19, 0, none⟩) n_v19 c_v19, .slice (some ⟨bf, 0, none⟩) 1 1] 57)) := (Below.refl _ _).alloc (Nat.le_refl _) _
      have HK4 := Lib.hid (Ret.Blk.new wn21 #[.slice (some ⟨g_v8, 0, none⟩) n_v8 c_v8, .slice (some ⟨g_v13, 0, none⟩) n_v13 c_v13, .slice (some ⟨g_v19, 0, none⟩) n_v19 c_v19, .slice (some ⟨bf, 0, none⟩) 1 1] 57)
      replace H_v7 := Lib.hid (H_v7.out.on hb)
      replace O_v8 := Lib.hid (O_v8.out.on hb)
      replace HF := Lib.hid (HF.out.on hb)
      replace O_v13 := Lib.hid (O_v13.out.on hb)
      replace H_v18 := Lib.hid (H_v18.out.on hb)
      replace O_v19 := Lib.hid (O_v19.out.on hb)
      replace BB := Lib.hid (BB.out.trans (hb.mono BB.out.size))
      clear hb
      generalize wn21.alloc (.cells #[.slice (some ⟨g_v8, 0, none⟩) n_v8 c_v8, .slice (some ⟨g_v13, 0, none⟩) n_v13 c_v13, .slice (some ⟨g_v19, 0, none⟩) n_v19 c_v19, .slice (some ⟨bf, 0, none⟩) 1 1] 57) = wn22 at *
      clear hHeld
      refine hK.out _ _ ?_ (fun hHeld => ?_)
      · (try dsimp only); exact ⟨kc K0.out BB.out, kc K1.out BB.out, kc K2.out BB.out, kc K3.out BB.out, kc K4.out BB.out⟩
      clear hK K
      (try simp only [Act.put, List.setIfInBounds_toArray, List.set_cons_zero, List.set_cons_succ])
      refine wpAnyH_ready (rs := [23]) (by kernel_rfl) (by simp) ?_
      refine AllReadyH.cons (o := { dst := some 26, op := Op.call { callee := Callee.value (Operand.func 111), args := #[Operand.tmp 25], argTypes := #[128] }, type := 57, pos := "l08_thing.go:28", after := #[{ on := 22, ground := Ground.data }, { on := 16, ground := Ground.chain }], guard := none }) rfl (fun K hK => ?_) AllReadyH.nil
      go_simp
      refine (concat4 HK4.out O_v8.out O_v13.out O_v19.out HF.out HLT.out).mono ?_
      rintro e wn23 ⟨v26, rfl, ho, hb⟩
      have O_v26 := Lib.hid (Sl.Own.mono ho BB.out.size); clear ho
      replace H_v7 := Lib.hid (H_v7.out.on hb)
      replace O_v8 := Lib.hid (O_v8.out.on hb)
      replace HF := Lib.hid (HF.out.on hb)
      replace O_v13 := Lib.hid (O_v13.out.on hb)
      replace H_v18 := Lib.hid (H_v18.out.on hb)
      replace O_v19 := Lib.hid (O_v19.out.on hb)
      replace BB := Lib.hid (BB.out.trans (hb.mono BB.out.size))
      clear hb
      (try go_wp2_with fail)
      clear hHeld
      refine hK.out _ _ ?_ (fun hHeld => ?_)
      · (try dsimp only); exact ⟨kc K0.out BB.out, kc K1.out BB.out, kc K2.out BB.out, kc K3.out BB.out, kc K4.out BB.out⟩
      clear hK K
      (try simp only [Act.put, List.setIfInBounds_toArray, List.set_cons_zero, List.set_cons_succ])
      refine wpAnyH_take (i := 24) (oi := { dst := some 2, op := Op.assign (Operand.tmp 26), type := 57, pos := "l08_thing.go:28", after := #[{ on := 23, ground := Ground.data }, { on := 23, ground := Ground.chain }, { on := 0, ground := Ground.phase }, { on := 1, ground := Ground.phase }, { on := 2, ground := Ground.phase }, { on := 3, ground := Ground.phase }, { on := 4, ground := Ground.phase }, { on := 5, ground := Ground.phase }, { on := 6, ground := Ground.phase }, { on := 7, ground := Ground.phase }, { on := 8, ground := Ground.phase }, { on := 9, ground := Ground.phase }, { on := 10, ground := Ground.phase }, { on := 11, ground := Ground.phase }, { on := 12, ground := Ground.phase }, { on := 13, ground := Ground.phase }, { on := 14, ground := Ground.phase }, { on := 15, ground := Ground.phase }, { on := 16, ground := Ground.phase }, { on := 17, ground := Ground.phase }, { on := 18, ground := Ground.phase }, { on := 19, ground := Ground.phase }, { on := 20, ground := Ground.phase }, { on := 21, ground := Ground.phase }, { on := 22, ground := Ground.phase }, { on := 23, ground := Ground.phase }], guard := none }) (v := ?_) rfl (by kernel_rfl) (by kernel_rfl) (by kernel_rfl) (fun _ _ _ h => h) (Or.inl ⟨by rfl, ?_⟩) (by assumption) ?_
      rotate_left
      · intro w' hSw; (try dsimp only at hSw); first | (go_simp; done) | (go_simp; with_reducible rfl)
      (try simp only [Act.put, List.setIfInBounds_toArray, List.set_cons_zero, List.set_cons_succ])
      refine wpAnyH_done (by kernel_rfl) ?_ _
      exact NoPanic.normal (HQ.out _ _ _ _ _ _ _ _ _ _ _ _ _ _ _ _ _ _ _ _ _ _ _ _ _ _ O_v26.out BB.out)
    refine AllReadyH.cons (o := { dst := some 24, op := Op.buildSlice 57 1 #[(0, Operand.tmp 23)], type := 57, pos := "l08_thing.go:28", after := #[{ on := 20, ground := Ground.data }], guard := none }) rfl (fun K hK => ?_) AllReadyH.nil
    go_simp
    have hb : Below wn1.heap.size wn1 (wn1.alloc (.cells #[.int .i64 f] 3)) := (Below.refl _ _).alloc (Nat.le_refl _) _
    obtain ⟨bf, hbf⟩ : ∃ b, b = wn1.heap.size := ⟨_, rfl⟩
    have HF := Lib.hid (hold_one wn1 f bf hbf)
    rw [← hbf]
    clear hbf
    replace H_v7 := Lib.hid (H_v7.out.on hb)
    replace BB := Lib.hid (BB.out.trans (hb.mono BB.out.size))
    clear hb
    generalize wn1.alloc (.cells #[.int .i64 f] 3) = wn24 at *
    clear hHeld
    refine hK.out _ _ ?_ (fun hHeld => ?_)
    · (try dsimp only); exact ⟨kc K0.out BB.out, kc K1.out BB.out, kc K2.out BB.out, kc K3.out BB.out, kc K4.out BB.out⟩
    clear hK K
    (try simp only [Act.put, List.setIfInBounds_toArray, List.set_cons_zero, List.set_cons_succ])
    refine wpAnyH_ready (rs := [5]) (by kernel_rfl) (by simp) ?_
    refine AllReadyH.cons (o := { dst := some 8, op := Op.call { callee := Callee.value (Operand.func 112), args := #[Operand.tmp 7], argTypes := #[38] }, type := 57, pos := "l08_thing.go:29", after := #[{ on := 4, ground := Ground.data }, { on := 4, ground := Ground.chain }], guard := none }) rfl (fun K hK => ?_) AllReadyH.nil
    go_simp
    refine (Sl.implBytesToInts _ (appName [] la) _ (H_v7.out) (pbyt_app la pbyt_nil) (by have h1 := pname_len [] la; have h2 := HLA.out; simp only [List.length_nil] at h1; omega)).mono ?_
    rintro e wn25 ⟨v8, rfl, ho, hb⟩
    obtain ⟨g_v8, n_v8, c_v8, rfl, ho⟩ := own_some ho (b2i_pos _)
    have O_v8 := Lib.hid (ho.holds)
    clear ho
    replace H_v7 := Lib.hid (H_v7.out.on hb)
    replace HF := Lib.hid (HF.out.on hb)
    replace BB := Lib.hid (BB.out.trans (hb.mono BB.out.size))
    clear hb
    (try go_wp2_with fail)
    clear hHeld
    refine hK.out _ _ ?_ (fun hHeld => ?_)
    · (try dsimp only); exact ⟨kc K0.out BB.out, kc K1.out BB.out, kc K2.out BB.out, kc K3.out BB.out, kc K4.out BB.out⟩
    clear hK K
    (try simp only [Act.put, List.setIfInBounds_toArray, List.set_cons_zero, List.set_cons_succ])
    refine wpAnyH_ready (rs := [10]) (by kernel_rfl) (by simp) ?_
    refine AllReadyH.cons (o := { dst := some 13, op := Op.call { callee := Callee.value (Operand.func 112), args := #[Operand.tmp 12], argTypes := #[38] }, type := 57, pos := "l08_thing.go:30", after := #[{ on := 9, ground := Ground.data }, { on := 5, ground := Ground.chain }], guard := none }) rfl (fun K hK => ?_) AllReadyH.nil
    go_simp
    refine (Sl.implBytesToInts _ (lb) _ (H_b.out.on BB.out) HBY.out (by have h2 := HLB.out; omega)).mono ?_
    rintro e wn26 ⟨v13, rfl, ho, hb⟩
    obtain ⟨g_v13, n_v13, c_v13, rfl, ho⟩ := own_some ho (b2i_pos _)
    have O_v13 := Lib.hid (ho.holds)
    clear ho
    replace H_v7 := Lib.hid (H_v7.out.on hb)
    replace HF := Lib.hid (HF.out.on hb)
    replace O_v8 := Lib.hid (O_v8.out.on hb)
    replace BB := Lib.hid (BB.out.trans (hb.mono BB.out.size))
    clear hb
    (try go_wp2_with fail)
    clear hHeld
    refine hK.out _ _ ?_ (fun hHeld => ?_)
    · (try dsimp only); exact ⟨kc K0.out BB.out, kc K1.out BB.out, kc K2.out BB.out, kc K3.out BB.out, kc K4.out BB.out⟩
    clear hK K
    (try simp only [Act.put, List.setIfInBounds_toArray, List.set_cons_zero, List.set_cons_succ])
    refine wpAnyH_ready (rs := [15]) (by kernel_rfl) (by simp) ?_
    refine AllReadyH.cons (o := { dst := some 18, op := Op.call { callee := Callee.value (Operand.func 113), args := #[Operand.const (Value.slice none 0 0), Operand.tmp 17], argTypes := #[38, 34] }, type := 38, pos := "l08_thing.go:31", after := #[{ on := 14, ground := Ground.data }, { on := 10, ground := Ground.chain }], guard := none }) rfl (fun K hK => ?_) AllReadyH.nil
    go_simp
    refine (implAppendName (.slice none 0 0) _ [] lc _ (Sl.Holds.nil _ _) (H_c.out.on BB.out) (by simp) HLC.out).mono ?_
    rintro e wn27 ⟨v18, rfl, ho, hb⟩
    have H_v18 := Lib.hid ho.holds; clear ho
    replace H_v7 := Lib.hid (H_v7.out.on hb)
    replace HF := Lib.hid (HF.out.on hb)
    replace O_v8 := Lib.hid (O_v8.out.on hb)
    replace O_v13 := Lib.hid (O_v13.out.on hb)
    replace BB := Lib.hid (BB.out.trans (hb.mono BB.out.size))
    clear hb
    (try go_wp2_with fail)
    clear hHeld
    refine hK.out _ _ ?_ (fun hHeld => ?_)
    · (try dsimp only); exact ⟨kc K0.out BB.out, kc K1.out BB.out, kc K2.out BB.out, kc K3.out BB.out, kc K4.out BB.out⟩
    clear hK K
    (try simp only [Act.put, List.setIfInBounds_toArray, List.set_cons_zero, List.set_cons_succ])
    refine wpAnyH_ready (rs := [16]) (by kernel_rfl) (by simp) ?_
    refine AllReadyH.cons (o := { dst := some 19, op := Op.call { callee := Callee.value (Operand.func 112), args := #[Operand.tmp 18], argTypes := #[38] }, type := 57, pos := "l08_thing.go:31", after := #[{ on := 15, ground := Ground.data }, { on := 15, ground := Ground.chain }], guard := none }) rfl (fun K hK => ?_) AllReadyH.nil
    go_simp
    refine (Sl.implBytesToInts _ (appName [] lc) _ (H_v18.out) (pbyt_app lc pbyt_nil) (by have h1 := pname_len [] lc; have h2 := HLC.out; simp only [List.length_nil] at h1; omega)).mono ?_
    rintro e wn28 ⟨v19, rfl, ho, hb⟩
    obtain ⟨g_v19, n_v19, c_v19, rfl, ho⟩ := own_some ho (b2i_pos _)
    have O_v19 := Lib.hid (ho.holds)
    clear ho
    replace H_v7 := Lib.hid (H_v7.out.on hb)
    replace HF := Lib.hid (HF.out.on hb)
    replace O_v8 := Lib.hid (O_v8.out.on hb)
    replace O_v13 := Lib.hid (O_v13.out.on hb)
    replace H_v18 := Lib.hid (H_v18.out.on hb)
    replace BB := Lib.hid (BB.out.trans (hb.mono BB.out.size))
    clear hb
    (try go_wp2_with fail)
    clear hHeld
    refine hK.out _ _ ?_ (fun hHeld => ?_)
    · (try dsimp only); exact ⟨kc K0.out BB.out, kc K1.out BB.out, kc K2.out BB.out, kc K3.out BB.out, kc K4.out BB.out⟩
    clear hK K
    (try simp only [Act.put, List.setIfInBounds_toArray, List.set_cons_zero, List.set_cons_succ])
    refine wpAnyH_ready (rs := [22]) (by kernel_rfl) (by simp) ?_
    refine AllReadyH.cons (o := { dst := some 25, op := Op.buildSlice 128 4 #[(0, Operand.tmp 8), (1, Operand.tmp 13), (2, Operand.tmp 19), (3, Operand.tmp 24)], type := 128, pos := "l08_thing.go:28", after := #[{ on := 5, ground := Ground.data }, { on := 10, ground := Ground.data }, { on := 16, ground := Ground.data }, { on := 21, ground := Ground.data }], guard := none }) rfl (fun K hK => ?_) AllReadyH.nil
    go_simp
    have hb : Below wn28.heap.size wn28 (wn28.alloc (.cells #[.slice (some ⟨g_v8, 0, none⟩) n_v8 c_v8, .slice (some ⟨g_v13, 0, none⟩) n_v13 c_v13, .slice (some ⟨g_v19, 0, none⟩) n_v19 c_v19, .slice (some ⟨bf, 0, none⟩) 1 1] 57)) := (Below.refl _ _).alloc (Nat.le_refl _) _
    have HK4 := Lib.hid (Ret.Blk.new wn28 #[.slice (some ⟨g_v8, 0, none⟩) n_v8 c_v8, .slice (some ⟨g_v13, 0, none⟩) n_v13 c_v13, .slice (some ⟨g_v19, 0, none⟩) n_v19 c_v19, .slice (some ⟨bf, 0, none⟩) 1 1] 57)
    replace H_v7 := Lib.hid (H_v7.out.on hb)
    replace HF := Lib.hid (HF.out.on hb)
    replace O_v8 := Lib.hid (O_v8.out.on hb)
    replace O_v13 := Lib.hid (O_v13.out.on hb)
    replace H_v18 := Lib.hid (H_v18.out.on hb)
    replace O_v19 := Lib.hid (O_v19.out.on hb)
    replace BB := Lib.hid (BB.out.trans (hb.mono BB.out.size))
    clear hb
    generalize wn28.alloc (.cells #[.slice (some ⟨g_v8, 0, none⟩) n_v8 c_v8, .slice (some ⟨g_v13, 0, none⟩) n_v13 c_v13, .slice (some ⟨g_v19, 0, none⟩) n_v19 c_v19, .slice (some ⟨bf, 0, none⟩) 1 1] 57) = wn29 at *
    clear hHeld
    refine hK.out _ _ ?_ (fun hHeld => ?_)
    · (try dsimp only); exact ⟨kc K0.out BB.out, kc K1.out BB.out, kc K2.out BB.out, kc K3.out BB.out, kc K4.out BB.out⟩
    clear hK K
    (try simp only [Act.put, List.setIfInBounds_toArray, List.set_cons_zero, List.set_cons_succ])
    refine wpAnyH_ready (rs := [23]) (by kernel_rfl) (by simp) ?_
    refine AllReadyH.cons (o := { dst := some 26, op := Op.call { callee := Callee.value (Operand.func 111), args := #[Operand.tmp 25], argTypes := #[128] }, type := 57, pos := "l08_thing.go:28", after := #[{ on := 22, ground := Ground.data }, { on := 16, ground := Ground.chain }], guard := none }) rfl (fun K hK => ?_) AllReadyH.nil
    go_simp
    refine (concat4 HK4.out O_v8.out O_v13.out O_v19.out HF.out HLT.out).mono ?_
    rintro e wn30 ⟨v26, rfl, ho, hb⟩
    have O_v26 := Lib.hid (Sl.Own.mono ho BB.out.size); clear ho
    replace H_v7 := Lib.hid (H_v7.out.on hb)
    replace HF := Lib.hid (HF.out.on hb)
    replace O_v8 := Lib.hid (O_v8.out.on hb)
    replace O_v13 := Lib.hid (O_v13.out.on hb)
    replace H_v18 := Lib.hid (H_v18.out.on hb)
    replace O_v19 := Lib.hid (O_v19.out.on hb)
    replace BB := Lib.hid (BB.out.trans (hb.mono BB.out.size))
    clear hb
    (try go_wp2_with fail)
    clear hHeld
    refine hK.out _ _ ?_ (fun hHeld => ?_)
    · (try dsimp only); exact ⟨kc K0.out BB.out, kc K1.out BB.out, kc K2.out BB.out, kc K3.out BB.out, kc K4.out BB.out⟩
    clear hK K
    (try simp only [Act.put, List.setIfInBounds_toArray, List.set_cons_zero, List.set_cons_succ])
    refine wpAnyH_take (i := 24) (oi := { dst := some 2, op := Op.assign (Operand.tmp 26), type := 57, pos := "l08_thing.go:28", after := #[{ on := 23, ground := Ground.data }, { on := 23, ground := Ground.chain }, { on := 0, ground := Ground.phase }, { on := 1, ground := Ground.phase }, { on := 2, ground := Ground.phase }, { on := 3, ground := Ground.phase }, { on := 4, ground := Ground.phase }, { on := 5, ground := Ground.phase }, { on := 6, ground := Ground.phase }, { on := 7, ground := Ground.phase }, { on := 8, ground := Ground.phase }, { on := 9, ground := Ground.phase }, { on := 10, ground := Ground.phase }, { on := 11, ground := Ground.phase }, { on := 12, ground := Ground.phase }, { on := 13, ground := Ground.phase }, { on := 14, ground := Ground.phase }, { on := 15, ground := Ground.phase }, { on := 16, ground := Ground.phase }, { on := 17, ground := Ground.phase }, { on := 18, ground := Ground.phase }, { on := 19, ground := Ground.phase }, { on := 20, ground := Ground.phase }, { on := 21, ground := Ground.phase }, { on := 22, ground := Ground.phase }, { on := 23, ground := Ground.phase }], guard := none }) (v := ?_) rfl (by kernel_rfl) (by kernel_rfl) (by kernel_rfl) (fun _ _ _ h => h) (Or.inl ⟨by rfl, ?_⟩) (by assumption) ?_
    rotate_left
    · intro w' hSw; (try dsimp only at hSw); first | (go_simp; done) | (go_simp; with_reducible rfl)
    (try simp only [Act.put, List.setIfInBounds_toArray, List.set_cons_zero, List.set_cons_succ])
    refine wpAnyH_done (by kernel_rfl) ?_ _
    exact NoPanic.normal (HQ.out _ _ _ _ _ _ _ _ _ _ _ _ _ _ _ _ _ _ _ _ _ _ _ _ _ _ O_v26.out BB.out)
  refine AllReadyH.cons (o := { dst := some 24, op := Op.buildSlice 57 1 #[(0, Operand.tmp 23)], type := 57, pos := "l08_thing.go:28", after := #[{ on := 20, ground := Ground.data }], guard := none }) rfl (fun K hK => ?_) AllReadyH.nil
  go_simp
  have hb : Below wd.heap.size wd (wd.alloc (.cells #[.int .i64 f] 3)) := (Below.refl _ _).alloc (Nat.le_refl _) _
  obtain ⟨bf, hbf⟩ : ∃ b, b = wd.heap.size := ⟨_, rfl⟩
  have HF := Lib.hid (hold_one wd f bf hbf)
  rw [← hbf]
  clear hbf
  replace BB := Lib.hid (BB.out.trans (hb.mono BB.out.size))
  clear hb
  generalize wd.alloc (.cells #[.int .i64 f] 3) = wn31 at *
  clear hHeld
  refine hK.out _ _ ?_ (fun hHeld => ?_)
  · (try dsimp only); exact ⟨kc K0.out BB.out, kc K1.out BB.out, kc K2.out BB.out, kc K3.out BB.out, kc K4.out BB.out⟩
  clear hK K
  (try simp only [Act.put, List.setIfInBounds_toArray, List.set_cons_zero, List.set_cons_succ])
  refine wpAnyH_ready (rs := [4]) (by kernel_rfl) (by simp) ?_
  refine AllReadyH.cons (o := { dst := some 7, op := Op.call { callee := Callee.value (Operand.func 113), args := #[Operand.const (Value.slice none 0 0), Operand.tmp 6], argTypes := #[38, 34] }, type := 38, pos := "l08_thing.go:29", after := #[{ on := 3, ground := Ground.data }], guard := none }) rfl (fun K hK => ?_) AllReadyH.nil
  go_simp
  refine (implAppendName (.slice none 0 0) _ [] la _ (Sl.Holds.nil _ _) (H_a.out.on BB.out) (by simp) HLA.out).mono ?_
  rintro e wn32 ⟨v7, rfl, ho, hb⟩
  have H_v7 := Lib.hid ho.holds; clear ho
  replace HF := Lib.hid (HF.out.on hb)
  replace BB := Lib.hid (BB.out.trans (hb.mono BB.out.size))
  clear hb
  (try go_wp2_with fail)
  clear hHeld
  refine hK.out _ _ ?_ (fun hHeld => ?_)
  · (try dsimp only); exact ⟨kc K0.out BB.out, kc K1.out BB.out, kc K2.out BB.out, kc K3.out BB.out, kc K4.out BB.out⟩
  clear hK K
  (try simp only [Act.put, List.setIfInBounds_toArray, List.set_cons_zero, List.set_cons_succ])
  refine wpAnyH_ready (rs := [5]) (by kernel_rfl) (by simp) ?_
  refine AllReadyH.cons (o := { dst := some 8, op := Op.call { callee := Callee.value (Operand.func 112), args := #[Operand.tmp 7], argTypes := #[38] }, type := 57, pos := "l08_thing.go:29", after := #[{ on := 4, ground := Ground.data }, { on := 4, ground := Ground.chain }], guard := none }) rfl (fun K hK => ?_) AllReadyH.nil
  go_simp
  refine (Sl.implBytesToInts _ (appName [] la) _ (H_v7.out) (pbyt_app la pbyt_nil) (by have h1 := pname_len [] la; have h2 := HLA.out; simp only [List.length_nil] at h1; omega)).mono ?_
  rintro e wn33 ⟨v8, rfl, ho, hb⟩
  obtain ⟨g_v8, n_v8, c_v8, rfl, ho⟩ := own_some ho (b2i_pos _)
  have O_v8 := Lib.hid (ho.holds)
  clear ho
  replace HF := Lib.hid (HF.out.on hb)
  replace H_v7 := Lib.hid (H_v7.out.on hb)
  replace BB := Lib.hid (BB.out.trans (hb.mono BB.out.size))
  clear hb
  (try go_wp2_with fail)
  clear hHeld
  refine hK.out _ _ ?_ (fun hHeld => ?_)
  · (try dsimp only); exact ⟨kc K0.out BB.out, kc K1.out BB.out, kc K2.out BB.out, kc K3.out BB.out, kc K4.out BB.out⟩
  clear hK K
  (try simp only [Act.put, List.setIfInBounds_toArray, List.set_cons_zero, List.set_cons_succ])
  refine wpAnyH_ready (rs := [10]) (by kernel_rfl) (by simp) ?_
  refine AllReadyH.cons (o := { dst := some 13, op := Op.call { callee := Callee.value (Operand.func 112), args := #[Operand.tmp 12], argTypes := #[38] }, type := 57, pos := "l08_thing.go:30", after := #[{ on := 9, ground := Ground.data }, { on := 5, ground := Ground.chain }], guard := none }) rfl (fun K hK => ?_) AllReadyH.nil
  go_simp
  refine (Sl.implBytesToInts _ (lb) _ (H_b.out.on BB.out) HBY.out (by have h2 := HLB.out; omega)).mono ?_
  rintro e wn34 ⟨v13, rfl, ho, hb⟩
  obtain ⟨g_v13, n_v13, c_v13, rfl, ho⟩ := own_some ho (b2i_pos _)
  have O_v13 := Lib.hid (ho.holds)
  clear ho
  replace HF := Lib.hid (HF.out.on hb)
  replace H_v7 := Lib.hid (H_v7.out.on hb)
  replace O_v8 := Lib.hid (O_v8.out.on hb)
  replace BB := Lib.hid (BB.out.trans (hb.mono BB.out.size))
  clear hb
  (try go_wp2_with fail)
  clear hHeld
  refine hK.out _ _ ?_ (fun hHeld => ?_)
  · (try dsimp only); exact ⟨kc K0.out BB.out, kc K1.out BB.out, kc K2.out BB.out, kc K3.out BB.out, kc K4.out BB.out⟩
  clear hK K
  (try simp only [Act.put, List.setIfInBounds_toArray, List.set_cons_zero, List.set_cons_succ])
  refine wpAnyH_ready (rs := [15]) (by kernel_rfl) (by simp) ?_
  refine AllReadyH.cons (o := { dst := some 18, op := Op.call { callee := Callee.value (Operand.func 113), args := #[Operand.const (Value.slice none 0 0), Operand.tmp 17], argTypes := #[38, 34] }, type := 38, pos := "l08_thing.go:31", after := #[{ on := 14, ground := Ground.data }, { on := 10, ground := Ground.chain }], guard := none }) rfl (fun K hK => ?_) AllReadyH.nil
  go_simp
  refine (implAppendName (.slice none 0 0) _ [] lc _ (Sl.Holds.nil _ _) (H_c.out.on BB.out) (by simp) HLC.out).mono ?_
  rintro e wn35 ⟨v18, rfl, ho, hb⟩
  have H_v18 := Lib.hid ho.holds; clear ho
  replace HF := Lib.hid (HF.out.on hb)
  replace H_v7 := Lib.hid (H_v7.out.on hb)
  replace O_v8 := Lib.hid (O_v8.out.on hb)
  replace O_v13 := Lib.hid (O_v13.out.on hb)
  replace BB := Lib.hid (BB.out.trans (hb.mono BB.out.size))
  clear hb
  (try go_wp2_with fail)
  clear hHeld
  refine hK.out _ _ ?_ (fun hHeld => ?_)
  · (try dsimp only); exact ⟨kc K0.out BB.out, kc K1.out BB.out, kc K2.out BB.out, kc K3.out BB.out, kc K4.out BB.out⟩
  clear hK K
  (try simp only [Act.put, List.setIfInBounds_toArray, List.set_cons_zero, List.set_cons_succ])
  refine wpAnyH_ready (rs := [16]) (by kernel_rfl) (by simp) ?_
  refine AllReadyH.cons (o := { dst := some 19, op := Op.call { callee := Callee.value (Operand.func 112), args := #[Operand.tmp 18], argTypes := #[38] }, type := 57, pos := "l08_thing.go:31", after := #[{ on := 15, ground := Ground.data }, { on := 15, ground := Ground.chain }], guard := none }) rfl (fun K hK => ?_) AllReadyH.nil
  go_simp
  refine (Sl.implBytesToInts _ (appName [] lc) _ (H_v18.out) (pbyt_app lc pbyt_nil) (by have h1 := pname_len [] lc; have h2 := HLC.out; simp only [List.length_nil] at h1; omega)).mono ?_
  rintro e wn36 ⟨v19, rfl, ho, hb⟩
  obtain ⟨g_v19, n_v19, c_v19, rfl, ho⟩ := own_some ho (b2i_pos _)
  have O_v19 := Lib.hid (ho.holds)
  clear ho
  replace HF := Lib.hid (HF.out.on hb)
  replace H_v7 := Lib.hid (H_v7.out.on hb)
  replace O_v8 := Lib.hid (O_v8.out.on hb)
  replace O_v13 := Lib.hid (O_v13.out.on hb)
  replace H_v18 := Lib.hid (H_v18.out.on hb)
  replace BB := Lib.hid (BB.out.trans (hb.mono BB.out.size))
  clear hb
  (try go_wp2_with fail)
  clear hHeld
  refine hK.out _ _ ?_ (fun hHeld => ?_)
  · (try dsimp only); exact ⟨kc K0.out BB.out, kc K1.out BB.out, kc K2.out BB.out, kc K3.out BB.out, kc K4.out BB.out⟩
  clear hK K
  (try simp only [Act.put, List.setIfInBounds_toArray, List.set_cons_zero, List.set_cons_succ])
  refine wpAnyH_ready (rs := [22]) (by kernel_rfl) (by simp) ?_
  refine AllReadyH.cons (o := { dst := some 25, op := Op.buildSlice 128 4 #[(0, Operand.tmp 8), (1, Operand.tmp 13), (2, Operand.tmp 19), (3, Operand.tmp 24)], type := 128, pos := "l08_thing.go:28", after := #[{ on := 5, ground := Ground.data }, { on := 10, ground := Ground.data }, { on := 16, ground := Ground.data }, { on := 21, ground := Ground.data }], guard := none }) rfl (fun K hK => ?_) AllReadyH.nil
  go_simp
  have hb : Below wn36.heap.size wn36 (wn36.alloc (.cells #[.slice (some ⟨g_v8, 0, none⟩) n_v8 c_v8, .slice (some ⟨g_v13, 0, none⟩) n_v13 c_v13, .slice (some ⟨g_v19, 0, none⟩) n_v19 c_v19, .slice (some ⟨bf, 0, none⟩) 1 1] 57)) := (Below.refl _ _).alloc (Nat.le_refl _) _
  have HK4 := Lib.hid (Ret.Blk.new wn36 #[.slice (some ⟨g_v8, 0, none⟩) n_v8 c_v8, .slice (some ⟨g_v13, 0, none⟩) n_v13 c_v13, .slice (some ⟨g_v19, 0, none⟩) n_v19 c_v19, .slice (some ⟨bf, 0, none⟩) 1 1] 57)
  replace HF := Lib.hid (HF.out.on hb)
  replace H_v7 := Lib.hid (H_v7.out.on hb)
  replace O_v8 := Lib.hid (O_v8.out.on hb)
  replace O_v13 := Lib.hid (O_v13.out.on hb)
  replace H_v18 := Lib.hid (H_v18.out.on hb)
  replace O_v19 := Lib.hid (O_v19.out.on hb)
  replace BB := Lib.hid (BB.out.trans (hb.mono BB.out.size))
  clear hb
  generalize wn36.alloc (.cells #[.slice (some ⟨g_v8, 0, none⟩) n_v8 c_v8, .slice (some ⟨g_v13, 0, none⟩) n_v13 c_v13, .slice (some ⟨g_v19, 0, none⟩) n_v19 c_v19, .slice (some ⟨bf, 0, none⟩) 1 1] 57) = wn37 at *
  clear hHeld
  refine hK.out _ _ ?_ (fun hHeld => ?_)
  · (try dsimp only); exact ⟨kc K0.out BB.out, kc K1.out BB.out, kc K2.out BB.out, kc K3.out BB.out, kc K4.out BB.out⟩
  clear hK K
  (try simp only [Act.put, List.setIfInBounds_toArray, List.set_cons_zero, List.set_cons_succ])
  refine wpAnyH_ready (rs := [23]) (by kernel_rfl) (by simp) ?_
  refine AllReadyH.cons (o := { dst := some 26, op := Op.call { callee := Callee.value (Operand.func 111), args := #[Operand.tmp 25], argTypes := #[128] }, type := 57, pos := "l08_thing.go:28", after := #[{ on := 22, ground := Ground.data }, { on := 16, ground := Ground.chain }], guard := none }) rfl (fun K hK => ?_) AllReadyH.nil
  go_simp
  refine (concat4 HK4.out O_v8.out O_v13.out O_v19.out HF.out HLT.out).mono ?_
  rintro e wn38 ⟨v26, rfl, ho, hb⟩
  have O_v26 := Lib.hid (Sl.Own.mono ho BB.out.size); clear ho
  replace HF := Lib.hid (HF.out.on hb)
  replace H_v7 := Lib.hid (H_v7.out.on hb)
  replace O_v8 := Lib.hid (O_v8.out.on hb)
  replace O_v13 := Lib.hid (O_v13.out.on hb)
  replace H_v18 := Lib.hid (H_v18.out.on hb)
  replace O_v19 := Lib.hid (O_v19.out.on hb)
  replace BB := Lib.hid (BB.out.trans (hb.mono BB.out.size))
  clear hb
  (try go_wp2_with fail)
  clear hHeld
  refine hK.out _ _ ?_ (fun hHeld => ?_)
  · (try dsimp only); exact ⟨kc K0.out BB.out, kc K1.out BB.out, kc K2.out BB.out, kc K3.out BB.out, kc K4.out BB.out⟩
  clear hK K
  (try simp only [Act.put, List.setIfInBounds_toArray, List.set_cons_zero, List.set_cons_succ])
  refine wpAnyH_take (i := 24) (oi := { dst := some 2, op := Op.assign (Operand.tmp 26), type := 57, pos := "l08_thing.go:28", after := #[{ on := 23, ground := Ground.data }, { on := 23, ground := Ground.chain }, { on := 0, ground := Ground.phase }, { on := 1, ground := Ground.phase }, { on := 2, ground := Ground.phase }, { on := 3, ground := Ground.phase }, { on := 4, ground := Ground.phase }, { on := 5, ground := Ground.phase }, { on := 6, ground := Ground.phase }, { on := 7, ground := Ground.phase }, { on := 8, ground := Ground.phase }, { on := 9, ground := Ground.phase }, { on := 10, ground := Ground.phase }, { on := 11, ground := Ground.phase }, { on := 12, ground := Ground.phase }, { on := 13, ground := Ground.phase }, { on := 14, ground := Ground.phase }, { on := 15, ground := Ground.phase }, { on := 16, ground := Ground.phase }, { on := 17, ground := Ground.phase }, { on := 18, ground := Ground.phase }, { on := 19, ground := Ground.phase }, { on := 20, ground := Ground.phase }, { on := 21, ground := Ground.phase }, { on := 22, ground := Ground.phase }, { on := 23, ground := Ground.phase }], guard := none }) (v := ?_) rfl (by kernel_rfl) (by kernel_rfl) (by kernel_rfl) (fun _ _ _ h => h) (Or.inl ⟨by rfl, ?_⟩) (by assumption) ?_
  rotate_left
  · intro w' hSw; (try dsimp only at hSw); first | (go_simp; done) | (go_simp; with_reducible rfl)
  (try simp only [Act.put, List.setIfInBounds_toArray, List.set_cons_zero, List.set_cons_succ])
  refine wpAnyH_done (by kernel_rfl) ?_ _
  exact NoPanic.normal (HQ.out _ _ _ _ _ _ _ _ _ _ _ _ _ _ _ _ _ _ _ _ _ _ _ _ _ _ O_v26.out BB.out)

end Go.Proofs.Ytnblopilgfdjkaa.Row
/- Contracts of chapter 3's Encrypt, Decrypt and DeriveSecret, the reference model's, and the program's DeriveSecret. No conditions but that lengths fit and that the elements are bytes. -/
namespace Go.Proofs.Ytnblopilgfdjkaa.Sl
open Go.ChangeShapes Go.WideShapes Go.ChangeAt Go.RowKit Go.Instr
open Seal (digest mac b2i derive dstep chg encF decF enc dec)
set_option linter.unusedVariables false
set_option maxRecDepth 100000

theorem keepS {w w' : World} {a : Addr} {v : Value} (hc : w.cell? a = some v) (hb : Below w.heap.size w w') : w'.cell? a = some v ∧ Below w.heap.size w w' := ⟨by rw [hb.cell (cell_lt hc)]; exact hc, hb⟩
end Go.Proofs.Ytnblopilgfdjkaa.Sl
/- SignedPortion of the model and of the program; the program's mac, clone and sign. No conditions but that lengths fit. -/
namespace Go.Proofs.Ytnblopilgfdjkaa.Row
open Go.ChangeShapes Go.WideShapes Go.ChangeAt Go.RowKit Go.Instr
set_option linter.unusedVariables false
set_option maxRecDepth 100000

set_option maxHeartbeats 4000000 in
theorem specSignedPortion (a b c : Value) (x : Dt) (w : World) (h : DHold w a b c x) (hB : Sl.Byt x.2.1) (hl : smD x) :
    Calls Try.prog 83 #[.agg (dc a b c x.2.2.2.1 x.2.2.2.2)] w (Sl.GivesI w (portD x)) := by
  obtain ⟨l, m, k, f, s⟩ := x
  simp only at hB ⊢
  have hl1 : bulk l ≤ 1200000 := hl.1
  have hl2 : m.length ≤ 1200000 := hl.2.1
  have hl3 : bulk k ≤ 1200000 := hl.2.2
  obtain ⟨xa, na, ca, xb, nb, cb, xc, nc, cc, rfl, rfl, rfl⟩ := h.shape
  have HY := Lib.hid hB; have HL1 := Lib.hid hl1; have HL2 := Lib.hid hl2; have HL3 := Lib.hid hl3
  have HB := Lib.hid ((Below.refl w.heap.size w).alloc (Nat.le_refl _) (.cells (dc (.slice xa na ca) (.slice xb nb cb) (.slice xc nc cc) f s) 40))
  have H0 := Lib.hid (h.on HB.out)
  have HX := Lib.hid (Ret.Blk.new w (dc (.slice xa na ca) (.slice xb nb cb) (.slice xc nc cc) f s) 40)
  have HLT := Lib.hid (show (Seal.b2i (appName [] l) ++ Seal.b2i m).length ≤ 12000000 by
    have h1 := pname_len [] l
    simp only [List.length_nil] at h1
    simp only [List.length_append, Seal.b2i_length]; omega)
  clear h hB hl hl1 hl2 hl3
  go_enter Try.func83, Try.ntmps83
  go_wp2_with fail
  refine portS1 (Lib.hid H0.out.1) (Lib.hid H0.out.2.1) HY HL1 HL2 (Lib.hid (HX.out.cell 0)) (Lib.hid (HX.out.cell 1)) (Lib.hid (HX.out.cell 2)) (Lib.hid (HX.out.cell 3)) (Lib.hid (HX.out.cell 4)) ?_
  intro u4 u5 u6 u7 u8 u9 u10 u11 u12 v12 wx ho hb
  have HO := Lib.hid ho
  have HB2 := Lib.hid (HB.out.trans (hb.mono HB.out.size))
  have HX2 := Lib.hid (HX.out.on hb)
  have H2 := Lib.hid (H0.out.on hb)
  have HW := Lib.hid hb.size
  have HP := Lib.hid (show w.heap.size < (w.alloc (.cells (dc (.slice xa na ca) (.slice xb nb cb) (.slice xc nc cc) f s) 40)).heap.size by simp)
  clear ho hb
  go_wp2_with fail
  refine portS2 (Lib.hid H2.out.2.2) HL3 HLT HO HW HP (Lib.hid (HX2.out.cell 0)) (Lib.hid (HX2.out.cell 1)) (Lib.hid (HX2.out.cell 2)) (Lib.hid (HX2.out.cell 3)) (Lib.hid (HX2.out.cell 4)) ?_
  intro u13 u14 u15 u16 u17 u18 u19 u20 u21 u22 u23 v23 w2 ho hb
  have HO2 := Lib.hid ho
  have HB3 := Lib.hid ((HB.out.trans ((Below.refl _ _).mono (Nat.le_refl _))))
  have HBX := Lib.hid hb
  clear ho hb
  go_wp2_with fail
  go_ret
  exact ⟨_, rfl, HO2.out.mono HB.out.size, HB2.out.trans (HBX.out.mono HB.out.size)⟩

set_option maxHeartbeats 4000000 in
theorem implPortion (g : Nat) (a b c : Value) (x : Dt) (w : World) (hx : Ret.Blk w g (dc a b c x.2.2.2.1 x.2.2.2.2) 40) (h : DHold w a b c x) (hB : Sl.Byt x.2.1) (hl : smD x) :
    Calls Try.prog 101 #[.pointer (some ⟨g, 0, none⟩)] w (Sl.GivesI w (portD x)) := by
  obtain ⟨l, m, k, f, s⟩ := x
  simp only at hB hx ⊢
  have hl1 : bulk l ≤ 1200000 := hl.1
  have hl2 : m.length ≤ 1200000 := hl.2.1
  have hl3 : bulk k ≤ 1200000 := hl.2.2
  obtain ⟨xa, na, ca, xb, nb, cb, xc, nc, cc, rfl, rfl, rfl⟩ := h.shape
  have HY := Lib.hid hB; have HL1 := Lib.hid hl1; have HL2 := Lib.hid hl2; have HL3 := Lib.hid hl3
  have H0 := Lib.hid h
  have HX := Lib.hid hx
  have HLT := Lib.hid (show (Seal.b2i (appName [] l) ++ Seal.b2i m ++ Seal.b2i (appName [] k) ++ [f]).length ≤ 10000000 from Nat.le_trans (portD_small (l, m, k, f, s)) (by show 1000 + m.length ≤ _; omega))
  clear h hx hB hl hl1 hl2 hl3
  go_enter Try.func101, Try.ntmps101
  go_wp2_with fail
  refine portI (Lib.hid H0.out.1) (Lib.hid H0.out.2.1) HY HL1 HL2 (Lib.hid H0.out.2.2) HL3 HLT (Lib.hid (HX.out.cell 0)) (Lib.hid (HX.out.cell 1)) (Lib.hid (HX.out.cell 2)) (Lib.hid (HX.out.cell 3)) (Lib.hid (HX.out.cell 4)) ?_
  intro u3 u4 u5 u6 u7 u8 u9 u10 u11 u12 u13 u14 u15 u16 u17 u18 u19 u20 u21 u22 u23 u24 u25 u26 v26 w2 ho hb
  have HO2 := Lib.hid ho
  have HB2 := Lib.hid hb
  clear ho hb
  go_wp2_with fail
  go_ret
  exact ⟨_, rfl, HO2.out, HB2.out⟩

set_option maxHeartbeats 4000000 in
theorem implMac (g : Nat) (a b c : Value) (x : Dt) (w : World) (hx : Ret.Blk w g (dc a b c x.2.2.2.1 x.2.2.2.2) 40) (h : DHold w a b c x) (hB : Sl.Byt x.2.1) (hl : smD x) (t : Int) :
    Calls Try.prog 88 #[.pointer (some ⟨g, 0, none⟩), .int .i64 t] w (Sl.GivesN w (Seal.mac t (portD x))) := by
  have HC := Lib.hid (implPortion g a b c x w hx h hB hl)
  have HLN := Lib.hid (show (portD x).length ≤ 9000000 from Nat.le_trans (portD_small x) (by have := hl.2.1; omega))
  clear h hB hx hl
  go_enter Try.func88, Try.ntmps88
  go_wp2_with fail
  refine HC.out.mono ?_
  rintro e w1 ⟨v1, rfl, ho, hb⟩
  have HO := Lib.hid ho.holds; have HB2 := Lib.hid hb
  clear ho hb
  go_wp2_with fail
  refine (Sl.implComputeMAC t _ (portD x) _ HO.out HLN.out).mono ?_
  rintro e w2 ⟨rfl, hb⟩
  have HB3 := Lib.hid (HB2.out.trans (hb.mono HB2.out.size)); clear hb
  go_wp2_with fail
  go_ret
  exact ⟨rfl, HB3.out⟩

set_option maxHeartbeats 1000000 in
theorem cloneBs (v : Value) (l : List Int) (w : World) (h : Sl.Holds .u8 w v l) (hl : l.length ≤ 9000000) :
    Calls Try.prog 99 #[v] w (Sl.GivesB w l) := by
  obtain ⟨x, cx, rfl, hcx, hh⟩ := h.shape
  cases x with
  | none =>
    have hl0 : l = [] := by
      obtain ⟨x', cap', hv, hc', hh'⟩ := hh
      cases hv
      rcases hh' with h1 | ⟨b, off, h1, _⟩
      · exact h1
      · cases h1
    subst hl0
    have hq : ∀ w : World, (binOp .eql 38 (.slice none 0 cx) (.slice none 0 0)).run Try.prog w = .ok (.bool true) w := fun w => by
      exact Lib.run_eql_slice_nil w _ _ _ _ _ _ _ Try.underlying38
    clear hh h
    simp only [List.length_nil]
    go_enter Try.func99, Try.ntmps99
    go_wp2
    go_ret
    exact ⟨_, rfl, Sl.Own.nil _ _ _ _, Below.refl _ _⟩
  | some ad =>
    have HB := Lib.hid ((Below.refl w.heap.size w).alloc (Nat.le_refl _) (.cells #[] 5))
    have HH := Lib.hid (hh.on HB.out)
    have HO := Lib.hid (Sl.own_empty .u8 5 w)
    have hq : ∀ w : World, (binOp .eql 38 (.slice (some ad) l.length cx) (.slice none 0 0)).run Try.prog w = .ok (.bool false) w := fun w => by
      exact Lib.run_eql_slice_nil w _ _ _ _ _ _ _ Try.underlying38
    clear hh h
    go_enter Try.func99, Try.ntmps99
    go_wp2_with (at_builtin; refine Sl.wpList_app (k := .u8) (B := w.heap.size) (l := []) (m := l) rfl _ _ rfl Try.underlying38 Sl.elemBYTE rfl rfl rfl HO.out HH.out (by simp; omega) (by decide) (by simp) ?_)
    intro v2 w2 ho hg
    have HO2 := Lib.hid ho; have HB2 := Lib.hid (HB.out.grown hg (by simp) (fun g hh => (HO.out.lt g hh).1))
    clear ho hg
    go_wp2_with fail
    go_ret
    exact ⟨_, rfl, HO2.out, HB2.out⟩

set_option maxHeartbeats 4000000 in
theorem cloneD (g : Nat) (a b c : Value) (x : Dt) (w : World) (hx : Ret.Blk w g (dc a b c x.2.2.2.1 x.2.2.2.2) 40) (h : DHold w a b c x) (h1 : x.1.length ≤ 9000000) (h2 : x.2.1.length ≤ 9000000) (h3 : x.2.2.1.length ≤ 9000000) :
    Calls Try.prog 84 #[.pointer (some ⟨g, 0, none⟩)] w (GivesD w x) := by
  obtain ⟨l, m, k, f, s⟩ := x
  unfold GivesD
  simp only at h1 h2 h3 hx ⊢
  obtain ⟨xa, na, ca, xb, nb, cb, xc, nc, cc, rfl, rfl, rfl⟩ := h.shape
  have hg0 := hx.lt
  have hb1 := (Below.refl w.heap.size w).alloc (Nat.le_refl _) (.cells (dc nil nil nil 0 0) 40)
  have hb2 := hb1.alloc (by simp) (.cells (dc (.slice xa na ca) (.slice xb nb cb) (.slice xc nc cc) f s) 40)
  have HB := Lib.hid hb2
  have H0 := Lib.hid h
  have HX := Lib.hid (hx.on hb2)
  have HR := Lib.hid ((Ret.Blk.new w (dc nil nil nil 0 0) 40).on ((Below.refl _ _).alloc (Nat.le_refl _) (.cells (dc (.slice xa na ca) (.slice xb nb cb) (.slice xc nc cc) f s) 40)))
  have HL := Lib.hid (Ret.Blk.new' (w := w.alloc (.cells (dc nil nil nil 0 0) 40)) (n := w.heap.size + 1) (dc (.slice xa na ca) (.slice xb nb cb) (.slice xc nc cc) f s) 40 (by simp))
  have hz0 : ((w.alloc (.cells (dc nil nil nil 0 0) 40)).alloc (.cells (dc (.slice xa na ca) (.slice xb nb cb) (.slice xc nc cc) f s) 40)).heap.size = w.heap.size + 2 := by simp
  have q0 : w.cell? ⟨g, 0, none⟩ = some (.slice xa na ca) := hx.cell 0
  have q1 : w.cell? ⟨g, 1, none⟩ = some (.slice xb nb cb) := hx.cell 1
  have q2 : w.cell? ⟨g, 2, none⟩ = some (.slice xc nc cc) := hx.cell 2
  have q3 : w.cell? ⟨g, 3, none⟩ = some (.int .i64 f) := hx.cell 3
  have q4 : w.cell? ⟨g, 4, none⟩ = some (.int .i64 s) := hx.cell 4
  clear h hx hb1 hb2
  go_enter Try.func84, Try.ntmps84
  go_wp2_with fail
  clear q0 q1 q2 q3 q4
  refine (cloneName _ l _ (H0.out.on HB.out).1 (by omega)).mono ?_
  rintro e w1 ⟨a1, rfl, ho1, hb1⟩
  obtain ⟨ya, ma, da, rfl, -, -, ho1⟩ := ho1.shapeN
  have hs1 := hb1.size
  rw [hz0] at ho1 hs1
  replace HX := Lib.hid (HX.out.on hb1); replace HR := Lib.hid (HR.out.on hb1); replace HL := Lib.hid (HL.out.on hb1)
  replace HB := Lib.hid (HB.out.trans (hb1.mono HB.out.size))
  have HO1 := Lib.hid ho1
  have HLA := Lib.hid (fun g hg => (ho1.lt g hg).2)
  clear ho1 hb1 hz0
  have q0 : w1.cell? ⟨g, 0, none⟩ = some (.slice xa na ca) := HX.out.cell 0
  have q1 : w1.cell? ⟨g, 1, none⟩ = some (.slice xb nb cb) := HX.out.cell 1
  have q2 : w1.cell? ⟨g, 2, none⟩ = some (.slice xc nc cc) := HX.out.cell 2
  have q3 : w1.cell? ⟨g, 3, none⟩ = some (.int .i64 f) := HX.out.cell 3
  have q4 : w1.cell? ⟨g, 4, none⟩ = some (.int .i64 s) := HX.out.cell 4
  have p0 : w1.cell? ⟨w.heap.size + 1, 0, none⟩ = some (.slice xa na ca) := HL.out.cell 0
  have p1 : w1.cell? ⟨w.heap.size + 1, 1, none⟩ = some (.slice xb nb cb) := HL.out.cell 1
  have p2 : w1.cell? ⟨w.heap.size + 1, 2, none⟩ = some (.slice xc nc cc) := HL.out.cell 2
  have p3 : w1.cell? ⟨w.heap.size + 1, 3, none⟩ = some (.int .i64 f) := HL.out.cell 3
  have p4 : w1.cell? ⟨w.heap.size + 1, 4, none⟩ = some (.int .i64 s) := HL.out.cell 4
  have t0 := HL.out.frozen 0; have t1 := HL.out.frozen 1; have t2 := HL.out.frozen 2; have t3 := HL.out.frozen 3; have t4 := HL.out.frozen 4
  go_wp2_with fail
  clear q0 q1 q2 q3 q4 p0 p1 p2 p3 p4 t0 t1 t2 t3 t4
  replace HX := Lib.hid (HX.out.other (a := ⟨w.heap.size + 1, 0, none⟩) (by show w.heap.size + 1 ≠ g; omega) (.slice ya ma da))
  replace HR := Lib.hid (HR.out.other (a := ⟨w.heap.size + 1, 0, none⟩) (by show w.heap.size + 1 ≠ w.heap.size; omega) (.slice ya ma da))
  replace HL := Lib.hid (HL.out.set 0 (.slice ya ma da))
  replace HB := Lib.hid (HB.out.setCell (p := ⟨w.heap.size + 1, 0, none⟩) (by show w.heap.size ≤ w.heap.size + 1; omega) (.slice ya ma da))
  replace HO1 := Lib.hid (own_set (g := w.heap.size + 1) (i := 0) (u := .slice ya ma da) HO1.out (by omega))
  refine (cloneBs _ m _ (H0.out.on HB.out).2.1 (by omega)).mono ?_
  rintro e w2 ⟨b1, rfl, ho2, hb2⟩
  obtain ⟨yb, mb, db, rfl, -, -, ho2⟩ := Own.shapeN (enc := Value.int .u8) ho2
  replace ho2 : Sl.Own 5 .u8 _ w2 (.slice yb mb db) m := ho2
  have hs2 := hb2.size
  simp only [World.size_setCell] at hs2 ho2
  replace HX := Lib.hid (HX.out.on hb2); replace HR := Lib.hid (HR.out.on hb2); replace HL := Lib.hid (HL.out.on hb2)
  replace HO1 := Lib.hid (HO1.out.on hb2)
  replace HB := Lib.hid (HB.out.trans (hb2.mono HB.out.size))
  have HO2 := Lib.hid ho2
  have HLB := Lib.hid (fun g hg => (ho2.lt g hg).2)
  clear ho2 hb2
  have q0 : w2.cell? ⟨g, 0, none⟩ = some (.slice xa na ca) := HX.out.cell 0
  have q1 : w2.cell? ⟨g, 1, none⟩ = some (.slice xb nb cb) := HX.out.cell 1
  have q2 : w2.cell? ⟨g, 2, none⟩ = some (.slice xc nc cc) := HX.out.cell 2
  have q3 : w2.cell? ⟨g, 3, none⟩ = some (.int .i64 f) := HX.out.cell 3
  have q4 : w2.cell? ⟨g, 4, none⟩ = some (.int .i64 s) := HX.out.cell 4
  have p0 : w2.cell? ⟨w.heap.size + 1, 0, none⟩ = some (.slice ya ma da) := HL.out.cell 0
  have p1 : w2.cell? ⟨w.heap.size + 1, 1, none⟩ = some (.slice xb nb cb) := HL.out.cell 1
  have p2 : w2.cell? ⟨w.heap.size + 1, 2, none⟩ = some (.slice xc nc cc) := HL.out.cell 2
  have p3 : w2.cell? ⟨w.heap.size + 1, 3, none⟩ = some (.int .i64 f) := HL.out.cell 3
  have p4 : w2.cell? ⟨w.heap.size + 1, 4, none⟩ = some (.int .i64 s) := HL.out.cell 4
  have t0 := HL.out.frozen 0; have t1 := HL.out.frozen 1; have t2 := HL.out.frozen 2; have t3 := HL.out.frozen 3; have t4 := HL.out.frozen 4
  go_wp2_with fail
  clear q0 q1 q2 q3 q4 p0 p1 p2 p3 p4 t0 t1 t2 t3 t4
  replace HX := Lib.hid (HX.out.other (a := ⟨w.heap.size + 1, 1, none⟩) (by show w.heap.size + 1 ≠ g; omega) (.slice yb mb db))
  replace HR := Lib.hid (HR.out.other (a := ⟨w.heap.size + 1, 1, none⟩) (by show w.heap.size + 1 ≠ w.heap.size; omega) (.slice yb mb db))
  replace HL := Lib.hid (HL.out.set 1 (.slice yb mb db))
  replace HB := Lib.hid (HB.out.setCell (p := ⟨w.heap.size + 1, 1, none⟩) (by show w.heap.size ≤ w.heap.size + 1; omega) (.slice yb mb db))
  replace HO1 := Lib.hid (own_set (g := w.heap.size + 1) (i := 1) (u := .slice yb mb db) HO1.out (by omega))
  replace HO2 := Lib.hid (sl_own_set (g := w.heap.size + 1) (i := 1) (u := .slice yb mb db) HO2.out (by omega))
  refine (cloneName _ k _ (H0.out.on HB.out).2.2 (by omega)).mono ?_
  rintro e w3 ⟨c1, rfl, ho3, hb3⟩
  obtain ⟨yc, mc, dc_, rfl, -, -, ho3⟩ := ho3.shapeN
  have hs3 := hb3.size
  simp only [World.size_setCell] at hs3 ho3
  replace HX := Lib.hid (HX.out.on hb3); replace HR := Lib.hid (HR.out.on hb3); replace HL := Lib.hid (HL.out.on hb3)
  replace HO1 := Lib.hid (HO1.out.on hb3); replace HO2 := Lib.hid (HO2.out.on hb3)
  replace HB := Lib.hid (HB.out.trans (hb3.mono HB.out.size))
  have HO3 := Lib.hid ho3
  clear ho3 hb3
  have q0 : w3.cell? ⟨g, 0, none⟩ = some (.slice xa na ca) := HX.out.cell 0
  have q1 : w3.cell? ⟨g, 1, none⟩ = some (.slice xb nb cb) := HX.out.cell 1
  have q2 : w3.cell? ⟨g, 2, none⟩ = some (.slice xc nc cc) := HX.out.cell 2
  have q3 : w3.cell? ⟨g, 3, none⟩ = some (.int .i64 f) := HX.out.cell 3
  have q4 : w3.cell? ⟨g, 4, none⟩ = some (.int .i64 s) := HX.out.cell 4
  have p0 : w3.cell? ⟨w.heap.size + 1, 0, none⟩ = some (.slice ya ma da) := HL.out.cell 0
  have p1 : w3.cell? ⟨w.heap.size + 1, 1, none⟩ = some (.slice yb mb db) := HL.out.cell 1
  have p2 : w3.cell? ⟨w.heap.size + 1, 2, none⟩ = some (.slice xc nc cc) := HL.out.cell 2
  have p3 : w3.cell? ⟨w.heap.size + 1, 3, none⟩ = some (.int .i64 f) := HL.out.cell 3
  have p4 : w3.cell? ⟨w.heap.size + 1, 4, none⟩ = some (.int .i64 s) := HL.out.cell 4
  have t0 := HL.out.frozen 0; have t1 := HL.out.frozen 1; have t2 := HL.out.frozen 2; have t3 := HL.out.frozen 3; have t4 := HL.out.frozen 4
  have r0 : w3.cell? ⟨w.heap.size, 0, none⟩ = some (.slice none 0 0) := HR.out.cell 0
  have r1 : w3.cell? ⟨w.heap.size, 1, none⟩ = some (.slice none 0 0) := HR.out.cell 1
  have r2 : w3.cell? ⟨w.heap.size, 2, none⟩ = some (.slice none 0 0) := HR.out.cell 2
  have r3 : w3.cell? ⟨w.heap.size, 3, none⟩ = some (.int .i64 0) := HR.out.cell 3
  have r4 : w3.cell? ⟨w.heap.size, 4, none⟩ = some (.int .i64 0) := HR.out.cell 4
  have z0 := HR.out.frozen 0; have z1 := HR.out.frozen 1; have z2 := HR.out.frozen 2; have z3 := HR.out.frozen 3; have z4 := HR.out.frozen 4
  have Z1 := Lib.hid ((((((HR.out.other (a := ⟨w.heap.size + 1, 2, none⟩) (by show w.heap.size + 1 ≠ w.heap.size; omega) (.slice yc mc dc_)).set 0 (.slice ya ma da)).set 1 (.slice yb mb db)).set 2 (.slice yc mc dc_)).set 3 (.int .i64 f)).set 4 (.int .i64 s))
  have Z2 := Lib.hid (own_set (g := w.heap.size) (i := 4) (u := .int .i64 s) (own_set (g := w.heap.size) (i := 3) (u := .int .i64 f) (own_set (g := w.heap.size) (i := 2) (u := .slice yc mc dc_) (own_set (g := w.heap.size) (i := 1) (u := .slice yb mb db) (own_set (g := w.heap.size) (i := 0) (u := .slice ya ma da) (own_set (g := w.heap.size + 1) (i := 2) (u := .slice yc mc dc_) HO1.out (by omega)) (by omega)) (by omega)) (by omega)) (by omega)) (by omega))
  have Z3 := Lib.hid (sl_own_set (g := w.heap.size) (i := 4) (u := .int .i64 s) (sl_own_set (g := w.heap.size) (i := 3) (u := .int .i64 f) (sl_own_set (g := w.heap.size) (i := 2) (u := .slice yc mc dc_) (sl_own_set (g := w.heap.size) (i := 1) (u := .slice yb mb db) (sl_own_set (g := w.heap.size) (i := 0) (u := .slice ya ma da) (sl_own_set (g := w.heap.size + 1) (i := 2) (u := .slice yc mc dc_) HO2.out (by omega)) (by omega)) (by omega)) (by omega)) (by omega)) (by omega))
  have Z4 := Lib.hid (own_set (g := w.heap.size) (i := 4) (u := .int .i64 s) (own_set (g := w.heap.size) (i := 3) (u := .int .i64 f) (own_set (g := w.heap.size) (i := 2) (u := .slice yc mc dc_) (own_set (g := w.heap.size) (i := 1) (u := .slice yb mb db) (own_set (g := w.heap.size) (i := 0) (u := .slice ya ma da) (own_set (g := w.heap.size + 1) (i := 2) (u := .slice yc mc dc_) HO3.out (by omega)) (by omega)) (by omega)) (by omega)) (by omega)) (by omega))
  have Z5 := Lib.hid ((((((HB.out.setCell (p := ⟨w.heap.size + 1, 2, none⟩) (by show w.heap.size ≤ w.heap.size + 1; omega) (.slice yc mc dc_)).setCell (p := ⟨w.heap.size, 0, none⟩) (by show w.heap.size ≤ w.heap.size; omega) (.slice ya ma da)).setCell (p := ⟨w.heap.size, 1, none⟩) (by show w.heap.size ≤ w.heap.size; omega) (.slice yb mb db)).setCell (p := ⟨w.heap.size, 2, none⟩) (by show w.heap.size ≤ w.heap.size; omega) (.slice yc mc dc_)).setCell (p := ⟨w.heap.size, 3, none⟩) (by show w.heap.size ≤ w.heap.size; omega) (.int .i64 f)).setCell (p := ⟨w.heap.size, 4, none⟩) (by show w.heap.size ≤ w.heap.size; omega) (.int .i64 s))
  go_wp2_with fail
  refine bodyPost_ret (Ret.results_c rfl _ _ w.heap.size (dc (.slice ya ma da) (.slice yb mb db) (.slice yc mc dc_) f s).toList rfl aggD Z1.out.cells) rfl ?_
  have hlb := fun g hg => (Sl.Own.lt Z3.out g hg).1
  have hlc := fun g hg => (Own.lt Z4.out g hg).1
  exact ⟨_, _, _, rfl, ⟨Z2.out.mono (by omega), Sl.Own.mono Z3.out (by omega), Z4.out.mono (by omega), fun g e1 e2 => by have h5 := HLA.out g e1; have h6 := hlb g e2; omega, fun g e1 e2 => by have h5 := HLA.out g e1; have h6 := hlc g e2; omega, fun g e1 e2 => by have h5 := HLB.out g e1; have h6 := hlc g e2; omega⟩, Z5.out⟩

end Go.Proofs.Ytnblopilgfdjkaa.Row
/- SignData and VerifyData, model and program. No conditions but that lengths fit. -/
namespace Go.Proofs.Ytnblopilgfdjkaa.Row
open Go.ChangeShapes Go.WideShapes Go.ChangeAt Go.RowKit Go.Instr
set_option linter.unusedVariables false
set_option maxRecDepth 100000

/-- x, signed with t. -/
def sgD (t : Int) (x : Dt) : Dt := (x.1, x.2.1, x.2.2.1, x.2.2.2.1, Seal.mac t (portD x))
def verD (t : Int) (x : Dt) : Bool := Num.inB t 1 2147483646 && (x.2.2.2.2 == Seal.mac t (portD x))
theorem sSecV {t : Int} (z : Bool) (hz : Num.inB t 1 2147483646 = z) {w : World} : Calls Try.prog 49 #[.int .i64 t] w fun e w' => e = .returned (.bool z) ∧ Below w.heap.size w w' := (Sl.specValidSecret t w).mono fun e w' ⟨p, q⟩ => ⟨by rw [p, hz], by subst q; exact Below.refl _ _⟩
theorem iSecV {t : Int} (z : Bool) (hz : Num.inB t 1 2147483646 = z) {w : World} : Calls Try.prog 79 #[.int .i64 t] w fun e w' => e = .returned (.bool z) ∧ Below w.heap.size w w' := (Sl.implValidSecret t w).mono fun e w' ⟨p, q⟩ => ⟨by rw [p, hz], by subst q; exact Below.refl _ _⟩
theorem sMacV {t : Int} (M : Int) {l : List Int} (hM : Seal.mac t l = M) {v : Value} {w : World} (h : Sl.Holds .i64 w v l) (hl : l.length ≤ 9000000) : Calls Try.prog 82 #[.int .i64 t, v] w fun e w' => e = .returned (.int .i64 M) ∧ Below w.heap.size w w' := (Sl.specComputeMAC t v l w h (by omega)).mono fun e w' ⟨p, q⟩ => ⟨by rw [p, hM], q⟩
theorem iMacV {t : Int} (M : Int) {x : Dt} (hM : Seal.mac t (portD x) = M) {g : Nat} {a b c : Value} {w : World} (hx : Ret.Blk w g (dc a b c x.2.2.2.1 x.2.2.2.2) 40) (h : DHold w a b c x) (hB : Sl.Byt x.2.1) (hl : smD x) : Calls Try.prog 88 #[.pointer (some ⟨g, 0, none⟩), .int .i64 t] w fun e w' => e = .returned (.int .i64 M) ∧ Below w.heap.size w w' := (implMac g a b c x w hx h hB hl t).mono fun e w' ⟨p, q⟩ => ⟨by rw [p, hM], q⟩
theorem own_row {α : Type} [Inhabited α] {enc : α → Value} {e : TypeId} {B g : Nat} {w w' : World} {v : Value} {l : List α} (h : Own e enc B w v l) (hg : w.grownBy w' (some g)) (hn : w.heap.size ≤ g ∨ ∀ q, v.ownBlock = some q → q ≠ g) : Own e enc B w' v l := by
  refine h.grown hg ?_
  cases hv : v.ownBlock with
  | none => exact Or.inl rfl
  | some q =>
    refine Or.inr fun e => ?_
    have h1 := (h.lt q hv).2
    have h2 : q = g := Option.some.inj e
    rcases hn with hn | hn
    · omega
    · exact hn q hv h2

set_option maxHeartbeats 4000000 in
/-- The packet at block g is signed in place. -/
theorem signD (g : Nat) (a b c : Value) (x : Dt) (w : World) (hx : Ret.Blk w g (dc a b c x.2.2.2.1 x.2.2.2.2) 40) (h : DHold w a b c x) (hB : Sl.Byt x.2.1) (hl : smD x) (t M : Int) (hM : Seal.mac t (portD x) = M) :
    Calls Try.prog 85 #[.pointer (some ⟨g, 0, none⟩), .int .i64 t] w fun e w' => e = .returned (.tuple #[]) ∧ Ret.Blk w' g (dc a b c x.2.2.2.1 M) 40 ∧ w.grownBy w' (some g) := by
  have HC := Lib.hid (iMacV M hM hx h hB hl)
  have HX := Lib.hid hx
  clear h hB hx hl hM
  go_enter Try.func85, Try.ntmps85
  go_wp2_with fail
  refine HC.out.mono ?_
  rintro e w1 ⟨rfl, hb⟩
  have HX1 := Lib.hid (HX.out.on hb)
  have HG1 := Lib.hid (Sl.grown_of_below hb (some g)); clear hb
  have q4 : w1.cell? ⟨g, 4, none⟩ = some (.int .i64 x.2.2.2.2) := HX1.out.cell 4
  have t4 := HX1.out.frozen 4
  go_wp2_with fail
  go_end0
  have h2 := HX1.out.set 4 (.int .i64 M)
  exact ⟨rfl, h2, HG1.out.trans (Ret.grownBy_set w1 ⟨g, 4, none⟩ _)⟩

theorem sl_own_row {k : IntKind} {e : TypeId} {B g : Nat} {w w' : World} {v : Value} {l : List Int} (h : Sl.Own e k B w v l) (hg : w.grownBy w' (some g)) (hn : w.heap.size ≤ g ∨ ∀ q, v.ownBlock = some q → q ≠ g) : Sl.Own e k B w' v l := own_row (enc := Value.int k) h hg hn

set_option maxHeartbeats 4000000 in
theorem implSignData (a b c : Value) (x : Dt) (t : Int) (w : World) (h : DHold w a b c x) (hB : Sl.Byt x.2.1) (hl : smD x) :
    Calls Try.prog 59 #[.int .i64 t, .agg (dc a b c x.2.2.2.1 x.2.2.2.2)] w (GivesD w (sgD t x)) := by
  obtain ⟨l, m, k, f, s⟩ := x
  unfold GivesD
  simp only [sgD] at hB ⊢
  have hl1 : bulk l ≤ 1200000 := hl.1
  have hl2 : m.length ≤ 1200000 := hl.2.1
  have hl3 : bulk k ≤ 1200000 := hl.2.2
  have hq1 : l.length ≤ 9000000 := by have := bulk_len l; omega
  have hq3 : k.length ≤ 9000000 := by have := bulk_len k; omega
  obtain ⟨xa, na, ca, xb, nb, cb, xc, nc, cc, rfl, rfl, rfl⟩ := h.shape
  obtain ⟨M, hM⟩ : ∃ M, Seal.mac t (portD (l, m, k, f, s)) = M := ⟨_, rfl⟩
  rw [hM]
  have HM := Lib.hid hM; have HY := Lib.hid hB; have HLB := Lib.hid hl
  have hb0 := (Below.refl w.heap.size w).alloc (Nat.le_refl _) (.cells (dc (.slice xa na ca) (.slice xb nb cb) (.slice xc nc cc) f s) 40)
  have HB := Lib.hid (hb0.alloc (by simp) (.cells (dc nil nil nil 0 0) 40))
  have H0 := Lib.hid (h.on HB.out)
  have HX := Lib.hid ((Ret.Blk.new w (dc (.slice xa na ca) (.slice xb nb cb) (.slice xc nc cc) f s) 40).on ((Below.refl _ _).alloc (Nat.le_refl _) (.cells (dc nil nil nil 0 0) 40)))
  have HR := Lib.hid (Ret.Blk.new' (w := w.alloc (.cells (dc (.slice xa na ca) (.slice xb nb cb) (.slice xc nc cc) f s) 40)) (n := w.heap.size + 1) (dc nil nil nil 0 0) 40 (by simp))
  have hz0 : ((w.alloc (.cells (dc (.slice xa na ca) (.slice xb nb cb) (.slice xc nc cc) f s) 40)).alloc (.cells (dc nil nil nil 0 0) 40)).heap.size = w.heap.size + 2 := by simp
  clear h hB hl hl1 hl3 hM hb0
  go_enter Try.func59, Try.ntmps59
  go_wp2_with fail
  refine (cloneD w.heap.size _ _ _ (l, m, k, f, s) _ HX.out H0.out (by simp only; omega) (by simp only; omega) (by simp only; omega)).mono ?_
  rintro e w1 ⟨a1, b1, c1, rfl, hd1, hb1⟩
  obtain ⟨oa, ob, oc, pab, pac, pbc⟩ := hd1
  obtain ⟨ya, ma, da, rfl, -, -, oa⟩ := oa.shapeN
  obtain ⟨yb, mb, db, rfl, -, -, ob⟩ := Own.shapeN (enc := Value.int .u8) ob
  replace ob : Sl.Own 5 .u8 _ w1 (.slice yb mb db) m := ob
  obtain ⟨yc, mc, dc_, rfl, -, -, oc⟩ := oc.shapeN
  have hs1 := hb1.size
  rw [hz0] at hs1 oa ob oc
  have hal := (Below.refl w1.heap.size w1).alloc (Nat.le_refl _) (.cells (dc (.slice ya ma da) (.slice yb mb db) (.slice yc mc dc_) f s) 40)
  replace HB := Lib.hid ((HB.out.trans (hb1.mono HB.out.size)).trans (hal.mono (by omega)))
  replace HX := Lib.hid ((HX.out.on hb1).on hal); replace HR := Lib.hid ((HR.out.on hb1).on hal)
  have HL := Lib.hid (Ret.Blk.new w1 (dc (.slice ya ma da) (.slice yb mb db) (.slice yc mc dc_) f s) 40)
  have OA := Lib.hid (oa.on hal); have OB := Lib.hid (ob.on hal); have OC := Lib.hid (oc.on hal)
  have AP := Lib.hid (show Apart (.slice ya ma da) (.slice yb mb db) ∧ Apart (.slice ya ma da) (.slice yc mc dc_) ∧ Apart (.slice yb mb db) (.slice yc mc dc_) from ⟨pab, pac, pbc⟩)
  have hla : ∀ q, (.slice ya ma da : Value).ownBlock = some q → q < w1.heap.size := fun q e => (oa.lt q e).2
  have hlb : ∀ q, (.slice yb mb db : Value).ownBlock = some q → q < w1.heap.size := fun q e => (Sl.Own.lt ob q e).2
  have hlc : ∀ q, (.slice yc mc dc_ : Value).ownBlock = some q → q < w1.heap.size := fun q e => (oc.lt q e).2
  have HLA := Lib.hid hla; have HLBB := Lib.hid hlb; have HLC := Lib.hid hlc
  have hsz : (w1.alloc (.cells (dc (.slice ya ma da) (.slice yb mb db) (.slice yc mc dc_) f s) 40)).heap.size = w1.heap.size + 1 := by simp
  clear oa ob oc pab pac pbc hb1 hal hz0 hla hlb hlc
  go_wp2_with fail
  refine (signD w1.heap.size _ _ _ (l, m, k, f, s) _ HL.out ⟨OA.out.holds, OB.out.holds, OC.out.holds⟩ HY.out HLB.out t M HM.out).mono ?_
  rintro e w2 ⟨rfl, hl2, hg2⟩
  have hs2 := hg2.size
  rw [hsz] at hs2
  replace HL := Lib.hid hl2
  replace HX := Lib.hid (HX.out.grown hg2 (by intro e; have h5 := Option.some.inj e; omega)); replace HR := Lib.hid (HR.out.grown hg2 (by intro e; have h5 := Option.some.inj e; omega))
  replace OA := Lib.hid (own_row OA.out hg2 (Or.inr fun q e => by have h5 := HLA.out q e; omega)); replace OB := Lib.hid (sl_own_row OB.out hg2 (Or.inr fun q e => by have h5 := HLBB.out q e; omega)); replace OC := Lib.hid (own_row OC.out hg2 (Or.inr fun q e => by have h5 := HLC.out q e; omega))
  replace HB := Lib.hid (HB.out.grown hg2 HB.out.size (fun g e => by have h5 := Option.some.inj e; omega))
  clear hl2 hg2
  have p0 : w2.cell? ⟨w1.heap.size, 0, none⟩ = some (.slice ya ma da) := HL.out.cell 0
  have p1 : w2.cell? ⟨w1.heap.size, 1, none⟩ = some (.slice yb mb db) := HL.out.cell 1
  have p2 : w2.cell? ⟨w1.heap.size, 2, none⟩ = some (.slice yc mc dc_) := HL.out.cell 2
  have p3 : w2.cell? ⟨w1.heap.size, 3, none⟩ = some (.int .i64 f) := HL.out.cell 3
  have p4 : w2.cell? ⟨w1.heap.size, 4, none⟩ = some (.int .i64 M) := HL.out.cell 4
  have r0 : w2.cell? ⟨w.heap.size + 1, 0, none⟩ = some (.slice none 0 0) := HR.out.cell 0
  have r1 : w2.cell? ⟨w.heap.size + 1, 1, none⟩ = some (.slice none 0 0) := HR.out.cell 1
  have r2 : w2.cell? ⟨w.heap.size + 1, 2, none⟩ = some (.slice none 0 0) := HR.out.cell 2
  have r3 : w2.cell? ⟨w.heap.size + 1, 3, none⟩ = some (.int .i64 0) := HR.out.cell 3
  have r4 : w2.cell? ⟨w.heap.size + 1, 4, none⟩ = some (.int .i64 0) := HR.out.cell 4
  have z0 := HR.out.frozen 0; have z1 := HR.out.frozen 1; have z2 := HR.out.frozen 2; have z3 := HR.out.frozen 3; have z4 := HR.out.frozen 4
  have Z1 := Lib.hid (((((HR.out.set 0 (.slice ya ma da)).set 1 (.slice yb mb db)).set 2 (.slice yc mc dc_)).set 3 (.int .i64 f)).set 4 (.int .i64 M))
  have Z2 := Lib.hid (own_set (g := w.heap.size + 1) (i := 4) (u := .int .i64 M) (own_set (g := w.heap.size + 1) (i := 3) (u := .int .i64 f) (own_set (g := w.heap.size + 1) (i := 2) (u := .slice yc mc dc_) (own_set (g := w.heap.size + 1) (i := 1) (u := .slice yb mb db) (own_set (g := w.heap.size + 1) (i := 0) (u := .slice ya ma da) OA.out (by omega)) (by omega)) (by omega)) (by omega)) (by omega))
  have Z3 := Lib.hid (sl_own_set (g := w.heap.size + 1) (i := 4) (u := .int .i64 M) (sl_own_set (g := w.heap.size + 1) (i := 3) (u := .int .i64 f) (sl_own_set (g := w.heap.size + 1) (i := 2) (u := .slice yc mc dc_) (sl_own_set (g := w.heap.size + 1) (i := 1) (u := .slice yb mb db) (sl_own_set (g := w.heap.size + 1) (i := 0) (u := .slice ya ma da) OB.out (by omega)) (by omega)) (by omega)) (by omega)) (by omega))
  have Z4 := Lib.hid (own_set (g := w.heap.size + 1) (i := 4) (u := .int .i64 M) (own_set (g := w.heap.size + 1) (i := 3) (u := .int .i64 f) (own_set (g := w.heap.size + 1) (i := 2) (u := .slice yc mc dc_) (own_set (g := w.heap.size + 1) (i := 1) (u := .slice yb mb db) (own_set (g := w.heap.size + 1) (i := 0) (u := .slice ya ma da) OC.out (by omega)) (by omega)) (by omega)) (by omega)) (by omega))
  have Z5 := Lib.hid (((((HB.out.setCell (p := ⟨w.heap.size + 1, 0, none⟩) (by show w.heap.size ≤ w.heap.size + 1; omega) (.slice ya ma da)).setCell (p := ⟨w.heap.size + 1, 1, none⟩) (by show w.heap.size ≤ w.heap.size + 1; omega) (.slice yb mb db)).setCell (p := ⟨w.heap.size + 1, 2, none⟩) (by show w.heap.size ≤ w.heap.size + 1; omega) (.slice yc mc dc_)).setCell (p := ⟨w.heap.size + 1, 3, none⟩) (by show w.heap.size ≤ w.heap.size + 1; omega) (.int .i64 f)).setCell (p := ⟨w.heap.size + 1, 4, none⟩) (by show w.heap.size ≤ w.heap.size + 1; omega) (.int .i64 M))
  go_wp2_with fail
  refine bodyPost_ret (Ret.results_c rfl _ _ (w.heap.size + 1) (dc (.slice ya ma da) (.slice yb mb db) (.slice yc mc dc_) f M).toList rfl aggD Z1.out.cells) rfl ?_
  exact ⟨_, _, _, rfl, ⟨Z2.out.mono (by omega), Sl.Own.mono Z3.out (by omega), Z4.out.mono (by omega), AP.out⟩, Z5.out⟩

set_option maxHeartbeats 4000000 in
theorem specSignData (a b c : Value) (x : Dt) (t : Int) (w : World) (h : DHold w a b c x) (hB : Sl.Byt x.2.1) (hl : smD x) :
    Calls Try.prog 57 #[.int .i64 t, .agg (dc a b c x.2.2.2.1 x.2.2.2.2)] w (GivesD w (sgD t x)) := by
  obtain ⟨l, m, k, f, s⟩ := x
  unfold GivesD
  simp only [sgD] at hB ⊢
  have hl1 : bulk l ≤ 1200000 := hl.1
  have hl2 : m.length ≤ 1200000 := hl.2.1
  have hl3 : bulk k ≤ 1200000 := hl.2.2
  have hq1 : l.length ≤ 9000000 := by have := bulk_len l; omega
  have hq3 : k.length ≤ 9000000 := by have := bulk_len k; omega
  obtain ⟨xa, na, ca, xb, nb, cb, xc, nc, cc, rfl, rfl, rfl⟩ := h.shape
  obtain ⟨M, hM⟩ : ∃ M, Seal.mac t (portD (l, m, k, f, s)) = M := ⟨_, rfl⟩
  rw [hM]
  have HM := Lib.hid hM; have HY := Lib.hid hB; have HLB := Lib.hid hl
  have hb0 := (Below.refl w.heap.size w).alloc (Nat.le_refl _) (.cells (dc (.slice xa na ca) (.slice xb nb cb) (.slice xc nc cc) f s) 40)
  have HB := Lib.hid (hb0.alloc (by simp) (.cells (dc nil nil nil 0 0) 40))
  have H0 := Lib.hid (h.on HB.out)
  have HX := Lib.hid ((Ret.Blk.new w (dc (.slice xa na ca) (.slice xb nb cb) (.slice xc nc cc) f s) 40).on ((Below.refl _ _).alloc (Nat.le_refl _) (.cells (dc nil nil nil 0 0) 40)))
  have HR := Lib.hid (Ret.Blk.new' (w := w.alloc (.cells (dc (.slice xa na ca) (.slice xb nb cb) (.slice xc nc cc) f s) 40)) (n := w.heap.size + 1) (dc nil nil nil 0 0) 40 (by simp))
  have hz0 : ((w.alloc (.cells (dc (.slice xa na ca) (.slice xb nb cb) (.slice xc nc cc) f s) 40)).alloc (.cells (dc nil nil nil 0 0) 40)).heap.size = w.heap.size + 2 := by simp
  clear h hB hl hl1 hl3 hM hb0
  go_enter Try.func57, Try.ntmps57
  go_wp2_with fail
  refine (l8Copy _ _ _ (l, m, k, f, s) _ H0.out (by simp only; omega) (by simp only; omega) (by simp only; omega)).mono ?_
  rintro e w1 ⟨a1, b1, c1, rfl, hd1, hb1⟩
  obtain ⟨oa, ob, oc, pab, pac, pbc⟩ := hd1
  obtain ⟨ya, ma, da, rfl, -, -, oa⟩ := oa.shapeN
  obtain ⟨yb, mb, db, rfl, -, -, ob⟩ := Own.shapeN (enc := Value.int .u8) ob
  replace ob : Sl.Own 5 .u8 _ w1 (.slice yb mb db) m := ob
  obtain ⟨yc, mc, dc_, rfl, -, -, oc⟩ := oc.shapeN
  have hs1 := hb1.size
  rw [hz0] at hs1 oa ob oc
  have hal := (Below.refl w1.heap.size w1).alloc (Nat.le_refl _) (.cells (dc (.slice ya ma da) (.slice yb mb db) (.slice yc mc dc_) f s) 40)
  replace HB := Lib.hid ((HB.out.trans (hb1.mono HB.out.size)).trans (hal.mono (by omega)))
  have HB1 := Lib.hid (hb1.trans (hal.mono (by simp; omega)))
  replace HX := Lib.hid ((HX.out.on hb1).on hal); replace HR := Lib.hid ((HR.out.on hb1).on hal)
  have HL := Lib.hid (Ret.Blk.new w1 (dc (.slice ya ma da) (.slice yb mb db) (.slice yc mc dc_) f s) 40)
  have OA := Lib.hid (oa.on hal); have OB := Lib.hid (ob.on hal); have OC := Lib.hid (oc.on hal)
  have AP := Lib.hid (show Apart (.slice ya ma da) (.slice yb mb db) ∧ Apart (.slice ya ma da) (.slice yc mc dc_) ∧ Apart (.slice yb mb db) (.slice yc mc dc_) from ⟨pab, pac, pbc⟩)
  have hla : ∀ q, (.slice ya ma da : Value).ownBlock = some q → q < w1.heap.size := fun q e => (oa.lt q e).2
  have hlb : ∀ q, (.slice yb mb db : Value).ownBlock = some q → q < w1.heap.size := fun q e => (Sl.Own.lt ob q e).2
  have hlc : ∀ q, (.slice yc mc dc_ : Value).ownBlock = some q → q < w1.heap.size := fun q e => (oc.lt q e).2
  have HLA := Lib.hid hla; have HLBB := Lib.hid hlb; have HLC := Lib.hid hlc
  have hsz : (w1.alloc (.cells (dc (.slice ya ma da) (.slice yb mb db) (.slice yc mc dc_) f s) 40)).heap.size = w1.heap.size + 1 := by simp
  clear oa ob oc pab pac pbc hb1 hal hz0 hla hlb hlc
  have H1 := Lib.hid (H0.out.on HB1.out)
  have q0 : (w1.alloc (.cells (dc (.slice ya ma da) (.slice yb mb db) (.slice yc mc dc_) f s) 40)).cell? ⟨w.heap.size, 0, none⟩ = some (.slice xa na ca) := HX.out.cell 0
  have q1 : (w1.alloc (.cells (dc (.slice ya ma da) (.slice yb mb db) (.slice yc mc dc_) f s) 40)).cell? ⟨w.heap.size, 1, none⟩ = some (.slice xb nb cb) := HX.out.cell 1
  have q2 : (w1.alloc (.cells (dc (.slice ya ma da) (.slice yb mb db) (.slice yc mc dc_) f s) 40)).cell? ⟨w.heap.size, 2, none⟩ = some (.slice xc nc cc) := HX.out.cell 2
  have q3 : (w1.alloc (.cells (dc (.slice ya ma da) (.slice yb mb db) (.slice yc mc dc_) f s) 40)).cell? ⟨w.heap.size, 3, none⟩ = some (.int .i64 f) := HX.out.cell 3
  have q4 : (w1.alloc (.cells (dc (.slice ya ma da) (.slice yb mb db) (.slice yc mc dc_) f s) 40)).cell? ⟨w.heap.size, 4, none⟩ = some (.int .i64 s) := HX.out.cell 4
  go_wp2_with fail
  clear q0 q1 q2 q3 q4
  refine (specSignedPortion _ _ _ (l, m, k, f, s) _ H1.out HY.out HLB.out).mono ?_
  rintro e w2 ⟨v2, rfl, ho, hb⟩
  have HO := Lib.hid ho.holds
  have hs2 := hb.size
  rw [hsz] at hs2
  replace HX := Lib.hid (HX.out.on hb); replace HR := Lib.hid (HR.out.on hb); replace HL := Lib.hid (HL.out.on hb)
  replace OA := Lib.hid (OA.out.on hb); replace OB := Lib.hid (OB.out.on hb); replace OC := Lib.hid (OC.out.on hb)
  replace HB := Lib.hid (HB.out.trans (hb.mono HB.out.size))
  have HLN := Lib.hid (show (portD (l, m, k, f, s)).length ≤ 9000000 from Nat.le_trans (portD_small _) (by have := HLB.out.2.1; first | omega | (show 1000 + m.length ≤ _; simp only at this; omega)))
  clear ho hb
  go_wp2_with fail
  refine (sMacV M HM.out HO.out HLN.out).mono ?_
  rintro e w3 ⟨rfl, hb⟩
  have hs3 := hb.size
  replace HX := Lib.hid (HX.out.on hb); replace HR := Lib.hid (HR.out.on hb); replace HL := Lib.hid (HL.out.on hb)
  replace OA := Lib.hid (OA.out.on hb); replace OB := Lib.hid (OB.out.on hb); replace OC := Lib.hid (OC.out.on hb)
  replace HB := Lib.hid (HB.out.trans (hb.mono HB.out.size))
  clear hb
  have p0 : w3.cell? ⟨w1.heap.size, 0, none⟩ = some (.slice ya ma da) := HL.out.cell 0
  have p1 : w3.cell? ⟨w1.heap.size, 1, none⟩ = some (.slice yb mb db) := HL.out.cell 1
  have p2 : w3.cell? ⟨w1.heap.size, 2, none⟩ = some (.slice yc mc dc_) := HL.out.cell 2
  have p3 : w3.cell? ⟨w1.heap.size, 3, none⟩ = some (.int .i64 f) := HL.out.cell 3
  have p4 : w3.cell? ⟨w1.heap.size, 4, none⟩ = some (.int .i64 s) := HL.out.cell 4
  have t0 := HL.out.frozen 0; have t1 := HL.out.frozen 1; have t2 := HL.out.frozen 2; have t3 := HL.out.frozen 3; have t4 := HL.out.frozen 4
  have r0 : w3.cell? ⟨w.heap.size + 1, 0, none⟩ = some (.slice none 0 0) := HR.out.cell 0
  have r1 : w3.cell? ⟨w.heap.size + 1, 1, none⟩ = some (.slice none 0 0) := HR.out.cell 1
  have r2 : w3.cell? ⟨w.heap.size + 1, 2, none⟩ = some (.slice none 0 0) := HR.out.cell 2
  have r3 : w3.cell? ⟨w.heap.size + 1, 3, none⟩ = some (.int .i64 0) := HR.out.cell 3
  have r4 : w3.cell? ⟨w.heap.size + 1, 4, none⟩ = some (.int .i64 0) := HR.out.cell 4
  have z0 := HR.out.frozen 0; have z1 := HR.out.frozen 1; have z2 := HR.out.frozen 2; have z3 := HR.out.frozen 3; have z4 := HR.out.frozen 4
  have Z1 := Lib.hid ((((((HR.out.other (a := ⟨w1.heap.size, 4, none⟩) (by show w1.heap.size ≠ w.heap.size + 1; omega) (.int .i64 M)).set 0 (.slice ya ma da)).set 1 (.slice yb mb db)).set 2 (.slice yc mc dc_)).set 3 (.int .i64 f)).set 4 (.int .i64 M))
  have Z2 := Lib.hid (own_set (g := w.heap.size + 1) (i := 4) (u := .int .i64 M) (own_set (g := w.heap.size + 1) (i := 3) (u := .int .i64 f) (own_set (g := w.heap.size + 1) (i := 2) (u := .slice yc mc dc_) (own_set (g := w.heap.size + 1) (i := 1) (u := .slice yb mb db) (own_set (g := w.heap.size + 1) (i := 0) (u := .slice ya ma da) (own_row OA.out (Ret.grownBy_set _ ⟨w1.heap.size, 4, none⟩ (.int .i64 M)) (Or.inr fun q e e6 => by have h5 := HLA.out q e; have e7 : q = w1.heap.size := e6; omega)) (by omega)) (by omega)) (by omega)) (by omega)) (by omega))
  have Z3 := Lib.hid (sl_own_set (g := w.heap.size + 1) (i := 4) (u := .int .i64 M) (sl_own_set (g := w.heap.size + 1) (i := 3) (u := .int .i64 f) (sl_own_set (g := w.heap.size + 1) (i := 2) (u := .slice yc mc dc_) (sl_own_set (g := w.heap.size + 1) (i := 1) (u := .slice yb mb db) (sl_own_set (g := w.heap.size + 1) (i := 0) (u := .slice ya ma da) (sl_own_row OB.out (Ret.grownBy_set _ ⟨w1.heap.size, 4, none⟩ (.int .i64 M)) (Or.inr fun q e e6 => by have h5 := HLBB.out q e; have e7 : q = w1.heap.size := e6; omega)) (by omega)) (by omega)) (by omega)) (by omega)) (by omega))
  have Z4 := Lib.hid (own_set (g := w.heap.size + 1) (i := 4) (u := .int .i64 M) (own_set (g := w.heap.size + 1) (i := 3) (u := .int .i64 f) (own_set (g := w.heap.size + 1) (i := 2) (u := .slice yc mc dc_) (own_set (g := w.heap.size + 1) (i := 1) (u := .slice yb mb db) (own_set (g := w.heap.size + 1) (i := 0) (u := .slice ya ma da) (own_row OC.out (Ret.grownBy_set _ ⟨w1.heap.size, 4, none⟩ (.int .i64 M)) (Or.inr fun q e e6 => by have h5 := HLC.out q e; have e7 : q = w1.heap.size := e6; omega)) (by omega)) (by omega)) (by omega)) (by omega)) (by omega))
  have Z5 := Lib.hid ((((((HB.out.setCell (p := ⟨w1.heap.size, 4, none⟩) (by show w.heap.size ≤ w1.heap.size; omega) (.int .i64 M)).setCell (p := ⟨w.heap.size + 1, 0, none⟩) (by show w.heap.size ≤ w.heap.size + 1; omega) (.slice ya ma da)).setCell (p := ⟨w.heap.size + 1, 1, none⟩) (by show w.heap.size ≤ w.heap.size + 1; omega) (.slice yb mb db)).setCell (p := ⟨w.heap.size + 1, 2, none⟩) (by show w.heap.size ≤ w.heap.size + 1; omega) (.slice yc mc dc_)).setCell (p := ⟨w.heap.size + 1, 3, none⟩) (by show w.heap.size ≤ w.heap.size + 1; omega) (.int .i64 f)).setCell (p := ⟨w.heap.size + 1, 4, none⟩) (by show w.heap.size ≤ w.heap.size + 1; omega) (.int .i64 M))
  go_wp2_with fail
  refine bodyPost_ret (Ret.results_c rfl _ _ (w.heap.size + 1) (dc (.slice ya ma da) (.slice yb mb db) (.slice yc mc dc_) f M).toList rfl aggD Z1.out.cells) rfl ?_
  exact ⟨_, _, _, rfl, ⟨Z2.out.mono (by omega), Sl.Own.mono Z3.out (by omega), Z4.out.mono (by omega), AP.out⟩, Z5.out⟩


set_option maxRecDepth 100000 in
set_option maxHeartbeats 4000000 in
theorem verspec0 {Q : Exit → Act → World → Prop} {v1 v2 v4 v5 v6 v7 v8 v9 v10 v11 v12 v13 v14 v15 : Value} {w : World} {p : Nat} {t : Int} (HS : Hid (Num.inB t 1 2147483646 = false)) 
    (hQ : ∀ (u5 u6 u7 u8 u9 u10 u11 u12 u13 u14 u15 : Value)  (wx : World), Below w.heap.size w wx → Q .normal ⟨#[.int .i64 t, v1, v2, .pointer (some ⟨p, 0, none⟩), .bool false, u5, u6, u7, u8, u9, u10, u11, u12, u13, u14, u15], []⟩ wx) :
    (Code.region 1 #[{ dst := some 5, op := Op.move (Operand.tmp 0), type := 3, pos := "l08_thing.go:21", after := #[], guard := none },
      { dst := some 6, op := Op.call { callee := Callee.value (Operand.func 49), args := #[Operand.tmp 5], argTypes := #[3] }, type := 4, pos := "l08_thing.go:21", after := #[{ on := 0, ground := Ground.data }], guard := none },
      { dst := some 7, op := Op.move (Operand.tmp 6), type := 4, pos := "l08_thing.go:21", after := #[{ on := 1, ground := Ground.data }, { on := 1, ground := Ground.chain }], guard := none },
      { dst := some 8, op := Op.fieldAddr 40 (Operand.tmp 3) 4, type := 0, pos := "l08_thing.go:21", after := #[{ on := 2, ground := Ground.guard }], guard := some (2, true) },
      { dst := some 9, op := Op.load 3 (Operand.tmp 8), type := 3, pos := "l08_thing.go:21", after := #[{ on := 3, ground := Ground.data }, { on := 2, ground := Ground.guard }], guard := some (2, true) },
      { dst := some 10, op := Op.move (Operand.tmp 0), type := 3, pos := "l08_thing.go:21", after := #[{ on := 2, ground := Ground.guard }], guard := some (2, true) },
      { dst := some 11, op := Op.load 40 (Operand.tmp 3), type := 40, pos := "l08_thing.go:21", after := #[{ on := 2, ground := Ground.guard }], guard := some (2, true) },
      { dst := some 12, op := Op.call { callee := Callee.value (Operand.func 83), args := #[Operand.tmp 11], argTypes := #[40] }, type := 57, pos := "l08_thing.go:21", after := #[{ on := 6, ground := Ground.data }, { on := 2, ground := Ground.chain }, { on := 2, ground := Ground.guard }], guard := some (2, true) },
      { dst := some 13, op := Op.call { callee := Callee.value (Operand.func 82), args := #[Operand.tmp 10, Operand.tmp 12], argTypes := #[3, 57] }, type := 3, pos := "l08_thing.go:21", after := #[{ on := 5, ground := Ground.data }, { on := 7, ground := Ground.data }, { on := 7, ground := Ground.chain }, { on := 2, ground := Ground.guard }], guard := some (2, true) },
      { dst := some 14, op := Op.binOp BinOp.eql 3 (Operand.tmp 9) (Operand.tmp 13) 3, type := 4, pos := "l08_thing.go:21", after := #[{ on := 4, ground := Ground.data }, { on := 8, ground := Ground.data }, { on := 2, ground := Ground.guard }], guard := some (2, true) },
      { dst := some 15, op := Op.pick (Operand.tmp 7) (Operand.tmp 14) (Operand.const (Value.bool false)), type := 4, pos := "l08_thing.go:21", after := #[{ on := 2, ground := Ground.data }, { on := 9, ground := Ground.data }], guard := none },
      { dst := some 4, op := Op.assign (Operand.tmp 15), type := 4, pos := "l08_thing.go:21", after := #[{ on := 10, ground := Ground.data }, { on := 8, ground := Ground.chain }, { on := 0, ground := Ground.phase }, { on := 1, ground := Ground.phase }, { on := 2, ground := Ground.phase }, { on := 3, ground := Ground.phase }, { on := 4, ground := Ground.phase }, { on := 5, ground := Ground.phase }, { on := 6, ground := Ground.phase }, { on := 7, ground := Ground.phase }, { on := 8, ground := Ground.phase }, { on := 9, ground := Ground.phase }, { on := 10, ground := Ground.phase }], guard := none }] true).wp Try.prog Q ⟨#[.int .i64 t, v1, v2, .pointer (some ⟨p, 0, none⟩), v4, v5, v6, v7, v8, v9, v10, v11, v12, v13, v14, v15], []⟩ w := by
  have HQ := Lib.hid hQ; clear hQ
  have hdr : Below w.heap.size w w.drew := (Below.refl _ _).drew
  have BB := Lib.hid hdr
  refine wp_region_noPanic ?_
  refine wp_region_held_drew (S := (fun w' => True)) (by kernel_rfl) ?_ (fun hHeld => ?_)
  · trivial
  clear hdr
  generalize w.drew = wd at *
  refine wpAnyH_take (i := 0) (oi := { dst := some 5, op := Op.move (Operand.tmp 0), type := 3, pos := "l08_thing.go:21", after := #[], guard := none }) (v := ?_) rfl (by kernel_rfl) (by kernel_rfl) (by kernel_rfl) (fun _ _ _ h => h) (Or.inl ⟨by rfl, ?_⟩) (by assumption) ?_
  rotate_left
  · intro w' hSw; (try dsimp only at hSw); first | (go_simp; done) | (go_simp; with_reducible rfl)
  (try simp only [Act.put, List.setIfInBounds_toArray, List.set_cons_zero, List.set_cons_succ])
  refine wpAnyH_ready (rs := [1]) (by kernel_rfl) (by simp) ?_
  refine AllReadyH.cons (o := { dst := some 6, op := Op.call { callee := Callee.value (Operand.func 49), args := #[Operand.tmp 5], argTypes := #[3] }, type := 4, pos := "l08_thing.go:21", after := #[{ on := 0, ground := Ground.data }], guard := none }) rfl (fun K hK => ?_) AllReadyH.nil
  go_simp
  refine (sSecV false HS.out).mono ?_
  rintro e wn1 ⟨rfl, hb⟩
  replace BB := Lib.hid (BB.out.trans (hb.mono BB.out.size))
  clear hb
  (try go_wp2_with fail)
  clear hHeld
  refine hK.out _ _ ?_ (fun hHeld => ?_)
  · trivial
  clear hK K
  (try simp only [Act.put, List.setIfInBounds_toArray, List.set_cons_zero, List.set_cons_succ])
  refine wpAnyH_take (i := 2) (oi := { dst := some 7, op := Op.move (Operand.tmp 6), type := 4, pos := "l08_thing.go:21", after := #[{ on := 1, ground := Ground.data }, { on := 1, ground := Ground.chain }], guard := none }) (v := ?_) rfl (by kernel_rfl) (by kernel_rfl) (by kernel_rfl) (fun _ _ _ h => h) (Or.inl ⟨by rfl, ?_⟩) (by assumption) ?_
  rotate_left
  · intro w' hSw; (try dsimp only at hSw); first | (go_simp; done) | (go_simp; with_reducible rfl)
  (try simp only [Act.put, List.setIfInBounds_toArray, List.set_cons_zero, List.set_cons_succ])
  refine wpAnyH_take (i := 3) (oi := { dst := some 8, op := Op.fieldAddr 40 (Operand.tmp 3) 4, type := 0, pos := "l08_thing.go:21", after := #[{ on := 2, ground := Ground.guard }], guard := some (2, true) }) (v := undef) rfl (by kernel_rfl) (by kernel_rfl) (by kernel_rfl) (fun _ _ _ h => h) (Or.inr ⟨by rfl, rfl⟩) (by assumption) ?_
  (try simp only [Act.put, List.setIfInBounds_toArray, List.set_cons_zero, List.set_cons_succ])
  refine wpAnyH_take (i := 4) (oi := { dst := some 9, op := Op.load 3 (Operand.tmp 8), type := 3, pos := "l08_thing.go:21", after := #[{ on := 3, ground := Ground.data }, { on := 2, ground := Ground.guard }], guard := some (2, true) }) (v := undef) rfl (by kernel_rfl) (by kernel_rfl) (by kernel_rfl) (fun _ _ _ h => h) (Or.inr ⟨by rfl, rfl⟩) (by assumption) ?_
  (try simp only [Act.put, List.setIfInBounds_toArray, List.set_cons_zero, List.set_cons_succ])
  refine wpAnyH_take (i := 5) (oi := { dst := some 10, op := Op.move (Operand.tmp 0), type := 3, pos := "l08_thing.go:21", after := #[{ on := 2, ground := Ground.guard }], guard := some (2, true) }) (v := undef) rfl (by kernel_rfl) (by kernel_rfl) (by kernel_rfl) (fun _ _ _ h => h) (Or.inr ⟨by rfl, rfl⟩) (by assumption) ?_
  (try simp only [Act.put, List.setIfInBounds_toArray, List.set_cons_zero, List.set_cons_succ])
  refine wpAnyH_take (i := 6) (oi := { dst := some 11, op := Op.load 40 (Operand.tmp 3), type := 40, pos := "l08_thing.go:21", after := #[{ on := 2, ground := Ground.guard }], guard := some (2, true) }) (v := undef) rfl (by kernel_rfl) (by kernel_rfl) (by kernel_rfl) (fun _ _ _ h => h) (Or.inr ⟨by rfl, rfl⟩) (by assumption) ?_
  (try simp only [Act.put, List.setIfInBounds_toArray, List.set_cons_zero, List.set_cons_succ])
  refine wpAnyH_take (i := 7) (oi := { dst := some 12, op := Op.call { callee := Callee.value (Operand.func 83), args := #[Operand.tmp 11], argTypes := #[40] }, type := 57, pos := "l08_thing.go:21", after := #[{ on := 6, ground := Ground.data }, { on := 2, ground := Ground.chain }, { on := 2, ground := Ground.guard }], guard := some (2, true) }) (v := undef) rfl (by kernel_rfl) (by kernel_rfl) (by kernel_rfl) (fun _ _ _ h => h) (Or.inr ⟨by rfl, rfl⟩) (by assumption) ?_
  (try simp only [Act.put, List.setIfInBounds_toArray, List.set_cons_zero, List.set_cons_succ])
  refine wpAnyH_take (i := 8) (oi := { dst := some 13, op := Op.call { callee := Callee.value (Operand.func 82), args := #[Operand.tmp 10, Operand.tmp 12], argTypes := #[3, 57] }, type := 3, pos := "l08_thing.go:21", after := #[{ on := 5, ground := Ground.data }, { on := 7, ground := Ground.data }, { on := 7, ground := Ground.chain }, { on := 2, ground := Ground.guard }], guard := some (2, true) }) (v := undef) rfl (by kernel_rfl) (by kernel_rfl) (by kernel_rfl) (fun _ _ _ h => h) (Or.inr ⟨by rfl, rfl⟩) (by assumption) ?_
  (try simp only [Act.put, List.setIfInBounds_toArray, List.set_cons_zero, List.set_cons_succ])
  refine wpAnyH_take (i := 9) (oi := { dst := some 14, op := Op.binOp BinOp.eql 3 (Operand.tmp 9) (Operand.tmp 13) 3, type := 4, pos := "l08_thing.go:21", after := #[{ on := 4, ground := Ground.data }, { on := 8, ground := Ground.data }, { on := 2, ground := Ground.guard }], guard := some (2, true) }) (v := undef) rfl (by kernel_rfl) (by kernel_rfl) (by kernel_rfl) (fun _ _ _ h => h) (Or.inr ⟨by rfl, rfl⟩) (by assumption) ?_
  (try simp only [Act.put, List.setIfInBounds_toArray, List.set_cons_zero, List.set_cons_succ])
  refine wpAnyH_take (i := 10) (oi := { dst := some 15, op := Op.pick (Operand.tmp 7) (Operand.tmp 14) (Operand.const (Value.bool false)), type := 4, pos := "l08_thing.go:21", after := #[{ on := 2, ground := Ground.data }, { on := 9, ground := Ground.data }], guard := none }) (v := ?_) rfl (by kernel_rfl) (by kernel_rfl) (by kernel_rfl) (fun _ _ _ h => h) (Or.inl ⟨by rfl, ?_⟩) (by assumption) ?_
  rotate_left
  · intro w' hSw; (try dsimp only at hSw); first | (go_simp; done) | (go_simp; with_reducible rfl)
  (try simp only [Act.put, List.setIfInBounds_toArray, List.set_cons_zero, List.set_cons_succ])
  refine wpAnyH_take (i := 11) (oi := { dst := some 4, op := Op.assign (Operand.tmp 15), type := 4, pos := "l08_thing.go:21", after := #[{ on := 10, ground := Ground.data }, { on := 8, ground := Ground.chain }, { on := 0, ground := Ground.phase }, { on := 1, ground := Ground.phase }, { on := 2, ground := Ground.phase }, { on := 3, ground := Ground.phase }, { on := 4, ground := Ground.phase }, { on := 5, ground := Ground.phase }, { on := 6, ground := Ground.phase }, { on := 7, ground := Ground.phase }, { on := 8, ground := Ground.phase }, { on := 9, ground := Ground.phase }, { on := 10, ground := Ground.phase }], guard := none }) (v := ?_) rfl (by kernel_rfl) (by kernel_rfl) (by kernel_rfl) (fun _ _ _ h => h) (Or.inl ⟨by rfl, ?_⟩) (by assumption) ?_
  rotate_left
  · intro w' hSw; (try dsimp only at hSw); first | (go_simp; done) | (go_simp; with_reducible rfl)
  (try simp only [Act.put, List.setIfInBounds_toArray, List.set_cons_zero, List.set_cons_succ])
  refine wpAnyH_done (by kernel_rfl) ?_ _
  exact NoPanic.normal (HQ.out _ _ _ _ _ _ _ _ _ _ _  _  BB.out)

set_option maxRecDepth 100000 in
set_option maxHeartbeats 4000000 in
theorem verspec1 {Q : Exit → Act → World → Prop} {v1 v2 v4 v5 v6 v7 v8 v9 v10 v11 v12 v13 v14 v15 : Value} {w : World} {p na ca nb cb nc cc : Nat} {xa xb xc : Option Addr} {f s t : Int} {la lc : List ByteArray} {lb : List Int} {M : Int} {z : Bool} (HS : Hid (Num.inB t 1 2147483646 = true)) (HD : Hid (DHold w (.slice xa na ca) (.slice xb nb cb) (.slice xc nc cc) (la, lb, lc, f, s))) (HBY : Hid (Sl.Byt lb)) (HL : Hid (smD (la, lb, lc, f, s))) (HM : Hid (Seal.mac t (portD (la, lb, lc, f, s)) = M)) (HZ : Hid ((s == M) = z)) (K0 : Hid (w.cell? ⟨p, 0, none⟩ = some (.slice xa na ca))) (K1 : Hid (w.cell? ⟨p, 1, none⟩ = some (.slice xb nb cb))) (K2 : Hid (w.cell? ⟨p, 2, none⟩ = some (.slice xc nc cc))) (K3 : Hid (w.cell? ⟨p, 3, none⟩ = some (.int .i64 f))) (K4 : Hid (w.cell? ⟨p, 4, none⟩ = some (.int .i64 s)))
    (hQ : ∀ (u5 u6 u7 u8 u9 u10 u11 u12 u13 u14 u15 : Value)  (wx : World), Below w.heap.size w wx → Q .normal ⟨#[.int .i64 t, v1, v2, .pointer (some ⟨p, 0, none⟩), .bool z, u5, u6, u7, u8, u9, u10, u11, u12, u13, u14, u15], []⟩ wx) :
    (Code.region 1 #[{ dst := some 5, op := Op.move (Operand.tmp 0), type := 3, pos := "l08_thing.go:21", after := #[], guard := none },
      { dst := some 6, op := Op.call { callee := Callee.value (Operand.func 49), args := #[Operand.tmp 5], argTypes := #[3] }, type := 4, pos := "l08_thing.go:21", after := #[{ on := 0, ground := Ground.data }], guard := none },
      { dst := some 7, op := Op.move (Operand.tmp 6), type := 4, pos := "l08_thing.go:21", after := #[{ on := 1, ground := Ground.data }, { on := 1, ground := Ground.chain }], guard := none },
      { dst := some 8, op := Op.fieldAddr 40 (Operand.tmp 3) 4, type := 0, pos := "l08_thing.go:21", after := #[{ on := 2, ground := Ground.guard }], guard := some (2, true) },
      { dst := some 9, op := Op.load 3 (Operand.tmp 8), type := 3, pos := "l08_thing.go:21", after := #[{ on := 3, ground := Ground.data }, { on := 2, ground := Ground.guard }], guard := some (2, true) },
      { dst := some 10, op := Op.move (Operand.tmp 0), type := 3, pos := "l08_thing.go:21", after := #[{ on := 2, ground := Ground.guard }], guard := some (2, true) },
      { dst := some 11, op := Op.load 40 (Operand.tmp 3), type := 40, pos := "l08_thing.go:21", after := #[{ on := 2, ground := Ground.guard }], guard := some (2, true) },
      { dst := some 12, op := Op.call { callee := Callee.value (Operand.func 83), args := #[Operand.tmp 11], argTypes := #[40] }, type := 57, pos := "l08_thing.go:21", after := #[{ on := 6, ground := Ground.data }, { on := 2, ground := Ground.chain }, { on := 2, ground := Ground.guard }], guard := some (2, true) },
      { dst := some 13, op := Op.call { callee := Callee.value (Operand.func 82), args := #[Operand.tmp 10, Operand.tmp 12], argTypes := #[3, 57] }, type := 3, pos := "l08_thing.go:21", after := #[{ on := 5, ground := Ground.data }, { on := 7, ground := Ground.data }, { on := 7, ground := Ground.chain }, { on := 2, ground := Ground.guard }], guard := some (2, true) },
      { dst := some 14, op := Op.binOp BinOp.eql 3 (Operand.tmp 9) (Operand.tmp 13) 3, type := 4, pos := "l08_thing.go:21", after := #[{ on := 4, ground := Ground.data }, { on := 8, ground := Ground.data }, { on := 2, ground := Ground.guard }], guard := some (2, true) },
      { dst := some 15, op := Op.pick (Operand.tmp 7) (Operand.tmp 14) (Operand.const (Value.bool false)), type := 4, pos := "l08_thing.go:21", after := #[{ on := 2, ground := Ground.data }, { on := 9, ground := Ground.data }], guard := none },
      { dst := some 4, op := Op.assign (Operand.tmp 15), type := 4, pos := "l08_thing.go:21", after := #[{ on := 10, ground := Ground.data }, { on := 8, ground := Ground.chain }, { on := 0, ground := Ground.phase }, { on := 1, ground := Ground.phase }, { on := 2, ground := Ground.phase }, { on := 3, ground := Ground.phase }, { on := 4, ground := Ground.phase }, { on := 5, ground := Ground.phase }, { on := 6, ground := Ground.phase }, { on := 7, ground := Ground.phase }, { on := 8, ground := Ground.phase }, { on := 9, ground := Ground.phase }, { on := 10, ground := Ground.phase }], guard := none }] true).wp Try.prog Q ⟨#[.int .i64 t, v1, v2, .pointer (some ⟨p, 0, none⟩), v4, v5, v6, v7, v8, v9, v10, v11, v12, v13, v14, v15], []⟩ w := by
  have HQ := Lib.hid hQ; clear hQ
  have hdr : Below w.heap.size w w.drew := (Below.refl _ _).drew
  have tz := HZ.out
  have BB := Lib.hid hdr
  refine wp_region_noPanic ?_
  refine wp_region_held_drew (S := (fun w' => w'.cell? ⟨p, 0, none⟩ = some (.slice xa na ca) ∧ w'.cell? ⟨p, 1, none⟩ = some (.slice xb nb cb) ∧ w'.cell? ⟨p, 2, none⟩ = some (.slice xc nc cc) ∧ w'.cell? ⟨p, 3, none⟩ = some (.int .i64 f) ∧ w'.cell? ⟨p, 4, none⟩ = some (.int .i64 s))) (by kernel_rfl) ?_ (fun hHeld => ?_)
  · exact ⟨kc K0.out BB.out, kc K1.out BB.out, kc K2.out BB.out, kc K3.out BB.out, kc K4.out BB.out⟩
  clear hdr
  generalize w.drew = wd at *
  refine wpAnyH_take (i := 0) (oi := { dst := some 5, op := Op.move (Operand.tmp 0), type := 3, pos := "l08_thing.go:21", after := #[], guard := none }) (v := ?_) rfl (by kernel_rfl) (by kernel_rfl) (by kernel_rfl) (fun _ _ _ h => h) (Or.inl ⟨by rfl, ?_⟩) (by assumption) ?_
  rotate_left
  · intro w' hSw; (try dsimp only at hSw); first | (go_simp; done) | (go_simp; with_reducible rfl)
  (try simp only [Act.put, List.setIfInBounds_toArray, List.set_cons_zero, List.set_cons_succ])
  refine wpAnyH_ready (rs := [1]) (by kernel_rfl) (by simp) ?_
  refine AllReadyH.cons (o := { dst := some 6, op := Op.call { callee := Callee.value (Operand.func 49), args := #[Operand.tmp 5], argTypes := #[3] }, type := 4, pos := "l08_thing.go:21", after := #[{ on := 0, ground := Ground.data }], guard := none }) rfl (fun K hK => ?_) AllReadyH.nil
  go_simp
  refine (sSecV true HS.out).mono ?_
  rintro e wn1 ⟨rfl, hb⟩
  replace BB := Lib.hid (BB.out.trans (hb.mono BB.out.size))
  clear hb
  (try go_wp2_with fail)
  clear hHeld
  refine hK.out _ _ ?_ (fun hHeld => ?_)
  · (try dsimp only); exact ⟨kc K0.out BB.out, kc K1.out BB.out, kc K2.out BB.out, kc K3.out BB.out, kc K4.out BB.out⟩
  clear hK K
  (try simp only [Act.put, List.setIfInBounds_toArray, List.set_cons_zero, List.set_cons_succ])
  refine wpAnyH_take (i := 2) (oi := { dst := some 7, op := Op.move (Operand.tmp 6), type := 4, pos := "l08_thing.go:21", after := #[{ on := 1, ground := Ground.data }, { on := 1, ground := Ground.chain }], guard := none }) (v := ?_) rfl (by kernel_rfl) (by kernel_rfl) (by kernel_rfl) (fun _ _ _ h => h) (Or.inl ⟨by rfl, ?_⟩) (by assumption) ?_
  rotate_left
  · intro w' hSw; (try dsimp only at hSw); first | (go_simp; done) | (go_simp; with_reducible rfl)
  (try simp only [Act.put, List.setIfInBounds_toArray, List.set_cons_zero, List.set_cons_succ])
  refine wpAnyH_take (i := 3) (oi := { dst := some 8, op := Op.fieldAddr 40 (Operand.tmp 3) 4, type := 0, pos := "l08_thing.go:21", after := #[{ on := 2, ground := Ground.guard }], guard := some (2, true) }) (v := ?_) rfl (by kernel_rfl) (by kernel_rfl) (by kernel_rfl) (fun _ _ _ h => h) (Or.inl ⟨by rfl, ?_⟩) (by assumption) ?_
  rotate_left
  · intro w' hSw; (try dsimp only at hSw); first | (go_simp; done) | (go_simp; with_reducible rfl)
  (try simp only [Act.put, List.setIfInBounds_toArray, List.set_cons_zero, List.set_cons_succ])
  refine wpAnyH_take (i := 4) (oi := { dst := some 9, op := Op.load 3 (Operand.tmp 8), type := 3, pos := "l08_thing.go:21", after := #[{ on := 3, ground := Ground.data }, { on := 2, ground := Ground.guard }], guard := some (2, true) }) (v := ?_) rfl (by kernel_rfl) (by kernel_rfl) (by kernel_rfl) (fun _ _ _ h => h) (Or.inl ⟨by rfl, ?_⟩) (by assumption) ?_
  rotate_left
  · intro w' hSw; (try dsimp only at hSw); first | (go_simp; done) | (go_simp; with_reducible rfl)
  (try simp only [Act.put, List.setIfInBounds_toArray, List.set_cons_zero, List.set_cons_succ])
  refine wpAnyH_take (i := 5) (oi := { dst := some 10, op := Op.move (Operand.tmp 0), type := 3, pos := "l08_thing.go:21", after := #[{ on := 2, ground := Ground.guard }], guard := some (2, true) }) (v := ?_) rfl (by kernel_rfl) (by kernel_rfl) (by kernel_rfl) (fun _ _ _ h => h) (Or.inl ⟨by rfl, ?_⟩) (by assumption) ?_
  rotate_left
  · intro w' hSw; (try dsimp only at hSw); first | (go_simp; done) | (go_simp; with_reducible rfl)
  (try simp only [Act.put, List.setIfInBounds_toArray, List.set_cons_zero, List.set_cons_succ])
  refine wpAnyH_take (i := 6) (oi := { dst := some 11, op := Op.load 40 (Operand.tmp 3), type := 40, pos := "l08_thing.go:21", after := #[{ on := 2, ground := Ground.guard }], guard := some (2, true) }) (v := ?_) rfl (by kernel_rfl) (by kernel_rfl) (by kernel_rfl) (fun _ _ _ h => h) (Or.inl ⟨by rfl, ?_⟩) (by assumption) ?_
  rotate_left
  · intro w' hSw; (try dsimp only at hSw); first | (go_simp; done) | (go_simp; with_reducible rfl)
  (try simp only [Act.put, List.setIfInBounds_toArray, List.set_cons_zero, List.set_cons_succ])
  refine wpAnyH_ready (rs := [7]) (by kernel_rfl) (by simp) ?_
  refine AllReadyH.cons (o := { dst := some 12, op := Op.call { callee := Callee.value (Operand.func 83), args := #[Operand.tmp 11], argTypes := #[40] }, type := 57, pos := "l08_thing.go:21", after := #[{ on := 6, ground := Ground.data }, { on := 2, ground := Ground.chain }, { on := 2, ground := Ground.guard }], guard := some (2, true) }) rfl (fun K hK => ?_) AllReadyH.nil
  go_simp
  refine (specSignedPortion _ _ _ (la, lb, lc, f, s) _ (HD.out.on BB.out) HBY.out HL.out).mono ?_
  rintro e wn2 ⟨v12, rfl, ho, hb⟩
  have H_v12 := Lib.hid ho.holds; clear ho
  replace BB := Lib.hid (BB.out.trans (hb.mono BB.out.size))
  clear hb
  (try go_wp2_with fail)
  clear hHeld
  refine hK.out _ _ ?_ (fun hHeld => ?_)
  · (try dsimp only); exact ⟨kc K0.out BB.out, kc K1.out BB.out, kc K2.out BB.out, kc K3.out BB.out, kc K4.out BB.out⟩
  clear hK K
  (try simp only [Act.put, List.setIfInBounds_toArray, List.set_cons_zero, List.set_cons_succ])
  refine wpAnyH_ready (rs := [8]) (by kernel_rfl) (by simp) ?_
  refine AllReadyH.cons (o := { dst := some 13, op := Op.call { callee := Callee.value (Operand.func 82), args := #[Operand.tmp 10, Operand.tmp 12], argTypes := #[3, 57] }, type := 3, pos := "l08_thing.go:21", after := #[{ on := 5, ground := Ground.data }, { on := 7, ground := Ground.data }, { on := 7, ground := Ground.chain }, { on := 2, ground := Ground.guard }], guard := some (2, true) }) rfl (fun K hK => ?_) AllReadyH.nil
  go_simp
  refine (sMacV M HM.out H_v12.out (Nat.le_trans (portD_small _) (by have := HL.out.2.1; simp only at this ⊢; omega))).mono ?_
  rintro e wn3 ⟨rfl, hb⟩
  replace H_v12 := Lib.hid (H_v12.out.on hb)
  replace BB := Lib.hid (BB.out.trans (hb.mono BB.out.size))
  clear hb
  (try go_wp2_with fail)
  clear hHeld
  refine hK.out _ _ ?_ (fun hHeld => ?_)
  · (try dsimp only); exact ⟨kc K0.out BB.out, kc K1.out BB.out, kc K2.out BB.out, kc K3.out BB.out, kc K4.out BB.out⟩
  clear hK K
  (try simp only [Act.put, List.setIfInBounds_toArray, List.set_cons_zero, List.set_cons_succ])
  refine wpAnyH_take (i := 9) (oi := { dst := some 14, op := Op.binOp BinOp.eql 3 (Operand.tmp 9) (Operand.tmp 13) 3, type := 4, pos := "l08_thing.go:21", after := #[{ on := 4, ground := Ground.data }, { on := 8, ground := Ground.data }, { on := 2, ground := Ground.guard }], guard := some (2, true) }) (v := ?_) rfl (by kernel_rfl) (by kernel_rfl) (by kernel_rfl) (fun _ _ _ h => h) (Or.inl ⟨by rfl, ?_⟩) (by assumption) ?_
  rotate_left
  · intro w' hSw; (try dsimp only at hSw); first | (go_simp; done) | (go_simp; with_reducible rfl)
  (try simp only [Act.put, List.setIfInBounds_toArray, List.set_cons_zero, List.set_cons_succ])
  refine wpAnyH_take (i := 10) (oi := { dst := some 15, op := Op.pick (Operand.tmp 7) (Operand.tmp 14) (Operand.const (Value.bool false)), type := 4, pos := "l08_thing.go:21", after := #[{ on := 2, ground := Ground.data }, { on := 9, ground := Ground.data }], guard := none }) (v := ?_) rfl (by kernel_rfl) (by kernel_rfl) (by kernel_rfl) (fun _ _ _ h => h) (Or.inl ⟨by rfl, ?_⟩) (by assumption) ?_
  rotate_left
  · intro w' hSw; (try dsimp only at hSw); first | (go_simp; done) | (go_simp; with_reducible rfl)
  (try simp only [Act.put, List.setIfInBounds_toArray, List.set_cons_zero, List.set_cons_succ])
  refine wpAnyH_take (i := 11) (oi := { dst := some 4, op := Op.assign (Operand.tmp 15), type := 4, pos := "l08_thing.go:21", after := #[{ on := 10, ground := Ground.data }, { on := 8, ground := Ground.chain }, { on := 0, ground := Ground.phase }, { on := 1, ground := Ground.phase }, { on := 2, ground := Ground.phase }, { on := 3, ground := Ground.phase }, { on := 4, ground := Ground.phase }, { on := 5, ground := Ground.phase }, { on := 6, ground := Ground.phase }, { on := 7, ground := Ground.phase }, { on := 8, ground := Ground.phase }, { on := 9, ground := Ground.phase }, { on := 10, ground := Ground.phase }], guard := none }) (v := ?_) rfl (by kernel_rfl) (by kernel_rfl) (by kernel_rfl) (fun _ _ _ h => h) (Or.inl ⟨by rfl, ?_⟩) (by assumption) ?_
  rotate_left
  · intro w' hSw; (try dsimp only at hSw); first | (go_simp; done) | (go_simp; with_reducible rfl)
  (try simp only [Act.put, List.setIfInBounds_toArray, List.set_cons_zero, List.set_cons_succ])
  refine wpAnyH_done (by kernel_rfl) ?_ _
  exact NoPanic.normal (HQ.out _ _ _ _ _ _ _ _ _ _ _  _  BB.out)

set_option maxRecDepth 100000 in
set_option maxHeartbeats 4000000 in
theorem verimpl0 {Q : Exit → Act → World → Prop} {v1 v2 v4 v5 v6 v7 v8 v9 v10 v11 v12 v13 : Value} {w : World} {p : Nat} {t : Int} (HS : Hid (Num.inB t 1 2147483646 = false)) 
    (hQ : ∀ (u5 u6 u7 u8 u9 u10 u11 u12 u13 : Value)  (wx : World), Below w.heap.size w wx → Q .normal ⟨#[.int .i64 t, v1, v2, .pointer (some ⟨p, 0, none⟩), .bool false, u5, u6, u7, u8, u9, u10, u11, u12, u13], []⟩ wx) :
    (Code.region 1 #[{ dst := some 5, op := Op.move (Operand.tmp 0), type := 3, pos := "l08_thing.go:60", after := #[], guard := none },
      { dst := some 6, op := Op.call { callee := Callee.value (Operand.func 79), args := #[Operand.tmp 5], argTypes := #[3] }, type := 4, pos := "l08_thing.go:60", after := #[{ on := 0, ground := Ground.data }], guard := none },
      { dst := some 7, op := Op.move (Operand.tmp 6), type := 4, pos := "l08_thing.go:60", after := #[{ on := 1, ground := Ground.data }, { on := 1, ground := Ground.chain }], guard := none },
      { dst := some 8, op := Op.fieldAddr 40 (Operand.tmp 3) 4, type := 0, pos := "l08_thing.go:60", after := #[{ on := 2, ground := Ground.guard }], guard := some (2, true) },
      { dst := some 9, op := Op.load 3 (Operand.tmp 8), type := 3, pos := "l08_thing.go:60", after := #[{ on := 3, ground := Ground.data }, { on := 2, ground := Ground.guard }], guard := some (2, true) },
      { dst := some 10, op := Op.move (Operand.tmp 0), type := 3, pos := "l08_thing.go:60", after := #[{ on := 2, ground := Ground.guard }], guard := some (2, true) },
      { dst := some 11, op := Op.call { callee := Callee.value (Operand.func 88), args := #[Operand.tmp 3, Operand.tmp 10], argTypes := #[40, 3] }, type := 3, pos := "l08_thing.go:60", after := #[{ on := 5, ground := Ground.data }, { on := 2, ground := Ground.chain }, { on := 2, ground := Ground.guard }], guard := some (2, true) },
      { dst := some 12, op := Op.binOp BinOp.eql 3 (Operand.tmp 9) (Operand.tmp 11) 3, type := 4, pos := "l08_thing.go:60", after := #[{ on := 4, ground := Ground.data }, { on := 6, ground := Ground.data }, { on := 2, ground := Ground.guard }], guard := some (2, true) },
      { dst := some 13, op := Op.pick (Operand.tmp 7) (Operand.tmp 12) (Operand.const (Value.bool false)), type := 4, pos := "l08_thing.go:60", after := #[{ on := 2, ground := Ground.data }, { on := 7, ground := Ground.data }], guard := none },
      { dst := some 4, op := Op.assign (Operand.tmp 13), type := 4, pos := "l08_thing.go:60", after := #[{ on := 8, ground := Ground.data }, { on := 6, ground := Ground.chain }, { on := 0, ground := Ground.phase }, { on := 1, ground := Ground.phase }, { on := 2, ground := Ground.phase }, { on := 3, ground := Ground.phase }, { on := 4, ground := Ground.phase }, { on := 5, ground := Ground.phase }, { on := 6, ground := Ground.phase }, { on := 7, ground := Ground.phase }, { on := 8, ground := Ground.phase }], guard := none }] true).wp Try.prog Q ⟨#[.int .i64 t, v1, v2, .pointer (some ⟨p, 0, none⟩), v4, v5, v6, v7, v8, v9, v10, v11, v12, v13], []⟩ w := by
  have HQ := Lib.hid hQ; clear hQ
  have hdr : Below w.heap.size w w.drew := (Below.refl _ _).drew
  have BB := Lib.hid hdr
  refine wp_region_noPanic ?_
  refine wp_region_held_drew (S := (fun w' => True)) (by kernel_rfl) ?_ (fun hHeld => ?_)
  · trivial
  clear hdr
  generalize w.drew = wd at *
  refine wpAnyH_take (i := 0) (oi := { dst := some 5, op := Op.move (Operand.tmp 0), type := 3, pos := "l08_thing.go:60", after := #[], guard := none }) (v := ?_) rfl (by kernel_rfl) (by kernel_rfl) (by kernel_rfl) (fun _ _ _ h => h) (Or.inl ⟨by rfl, ?_⟩) (by assumption) ?_
  rotate_left
  · intro w' hSw; (try dsimp only at hSw); first | (go_simp; done) | (go_simp; with_reducible rfl)
  (try simp only [Act.put, List.setIfInBounds_toArray, List.set_cons_zero, List.set_cons_succ])
  refine wpAnyH_ready (rs := [1]) (by kernel_rfl) (by simp) ?_
  refine AllReadyH.cons (o := { dst := some 6, op := Op.call { callee := Callee.value (Operand.func 79), args := #[Operand.tmp 5], argTypes := #[3] }, type := 4, pos := "l08_thing.go:60", after := #[{ on := 0, ground := Ground.data }], guard := none }) rfl (fun K hK => ?_) AllReadyH.nil
  go_simp
  refine (iSecV false HS.out).mono ?_
  rintro e wn1 ⟨rfl, hb⟩
  replace BB := Lib.hid (BB.out.trans (hb.mono BB.out.size))
  clear hb
  (try go_wp2_with fail)
  clear hHeld
  refine hK.out _ _ ?_ (fun hHeld => ?_)
  · trivial
  clear hK K
  (try simp only [Act.put, List.setIfInBounds_toArray, List.set_cons_zero, List.set_cons_succ])
  refine wpAnyH_take (i := 2) (oi := { dst := some 7, op := Op.move (Operand.tmp 6), type := 4, pos := "l08_thing.go:60", after := #[{ on := 1, ground := Ground.data }, { on := 1, ground := Ground.chain }], guard := none }) (v := ?_) rfl (by kernel_rfl) (by kernel_rfl) (by kernel_rfl) (fun _ _ _ h => h) (Or.inl ⟨by rfl, ?_⟩) (by assumption) ?_
  rotate_left
  · intro w' hSw; (try dsimp only at hSw); first | (go_simp; done) | (go_simp; with_reducible rfl)
  (try simp only [Act.put, List.setIfInBounds_toArray, List.set_cons_zero, List.set_cons_succ])
  refine wpAnyH_take (i := 3) (oi := { dst := some 8, op := Op.fieldAddr 40 (Operand.tmp 3) 4, type := 0, pos := "l08_thing.go:60", after := #[{ on := 2, ground := Ground.guard }], guard := some (2, true) }) (v := undef) rfl (by kernel_rfl) (by kernel_rfl) (by kernel_rfl) (fun _ _ _ h => h) (Or.inr ⟨by rfl, rfl⟩) (by assumption) ?_
  (try simp only [Act.put, List.setIfInBounds_toArray, List.set_cons_zero, List.set_cons_succ])
  refine wpAnyH_take (i := 4) (oi := { dst := some 9, op := Op.load 3 (Operand.tmp 8), type := 3, pos := "l08_thing.go:60", after := #[{ on := 3, ground := Ground.data }, { on := 2, ground := Ground.guard }], guard := some (2, true) }) (v := undef) rfl (by kernel_rfl) (by kernel_rfl) (by kernel_rfl) (fun _ _ _ h => h) (Or.inr ⟨by rfl, rfl⟩) (by assumption) ?_
  (try simp only [Act.put, List.setIfInBounds_toArray, List.set_cons_zero, List.set_cons_succ])
  refine wpAnyH_take (i := 5) (oi := { dst := some 10, op := Op.move (Operand.tmp 0), type := 3, pos := "l08_thing.go:60", after := #[{ on := 2, ground := Ground.guard }], guard := some (2, true) }) (v := undef) rfl (by kernel_rfl) (by kernel_rfl) (by kernel_rfl) (fun _ _ _ h => h) (Or.inr ⟨by rfl, rfl⟩) (by assumption) ?_
  (try simp only [Act.put, List.setIfInBounds_toArray, List.set_cons_zero, List.set_cons_succ])
  refine wpAnyH_take (i := 6) (oi := { dst := some 11, op := Op.call { callee := Callee.value (Operand.func 88), args := #[Operand.tmp 3, Operand.tmp 10], argTypes := #[40, 3] }, type := 3, pos := "l08_thing.go:60", after := #[{ on := 5, ground := Ground.data }, { on := 2, ground := Ground.chain }, { on := 2, ground := Ground.guard }], guard := some (2, true) }) (v := undef) rfl (by kernel_rfl) (by kernel_rfl) (by kernel_rfl) (fun _ _ _ h => h) (Or.inr ⟨by rfl, rfl⟩) (by assumption) ?_
  (try simp only [Act.put, List.setIfInBounds_toArray, List.set_cons_zero, List.set_cons_succ])
  refine wpAnyH_take (i := 7) (oi := { dst := some 12, op := Op.binOp BinOp.eql 3 (Operand.tmp 9) (Operand.tmp 11) 3, type := 4, pos := "l08_thing.go:60", after := #[{ on := 4, ground := Ground.data }, { on := 6, ground := Ground.data }, { on := 2, ground := Ground.guard }], guard := some (2, true) }) (v := undef) rfl (by kernel_rfl) (by kernel_rfl) (by kernel_rfl) (fun _ _ _ h => h) (Or.inr ⟨by rfl, rfl⟩) (by assumption) ?_
  (try simp only [Act.put, List.setIfInBounds_toArray, List.set_cons_zero, List.set_cons_succ])
  refine wpAnyH_take (i := 8) (oi := { dst := some 13, op := Op.pick (Operand.tmp 7) (Operand.tmp 12) (Operand.const (Value.bool false)), type := 4, pos := "l08_thing.go:60", after := #[{ on := 2, ground := Ground.data }, { on := 7, ground := Ground.data }], guard := none }) (v := ?_) rfl (by kernel_rfl) (by kernel_rfl) (by kernel_rfl) (fun _ _ _ h => h) (Or.inl ⟨by rfl, ?_⟩) (by assumption) ?_
  rotate_left
  · intro w' hSw; (try dsimp only at hSw); first | (go_simp; done) | (go_simp; with_reducible rfl)
  (try simp only [Act.put, List.setIfInBounds_toArray, List.set_cons_zero, List.set_cons_succ])
  refine wpAnyH_take (i := 9) (oi := { dst := some 4, op := Op.assign (Operand.tmp 13), type := 4, pos := "l08_thing.go:60", after := #[{ on := 8, ground := Ground.data }, { on := 6, ground := Ground.chain }, { on := 0, ground := Ground.phase }, { on := 1, ground := Ground.phase }, { on := 2, ground := Ground.phase }, { on := 3, ground := Ground.phase }, { on := 4, ground := Ground.phase }, { on := 5, ground := Ground.phase }, { on := 6, ground := Ground.phase }, { on := 7, ground := Ground.phase }, { on := 8, ground := Ground.phase }], guard := none }) (v := ?_) rfl (by kernel_rfl) (by kernel_rfl) (by kernel_rfl) (fun _ _ _ h => h) (Or.inl ⟨by rfl, ?_⟩) (by assumption) ?_
  rotate_left
  · intro w' hSw; (try dsimp only at hSw); first | (go_simp; done) | (go_simp; with_reducible rfl)
  (try simp only [Act.put, List.setIfInBounds_toArray, List.set_cons_zero, List.set_cons_succ])
  refine wpAnyH_done (by kernel_rfl) ?_ _
  exact NoPanic.normal (HQ.out _ _ _ _ _ _ _ _ _  _  BB.out)

set_option maxRecDepth 100000 in
set_option maxHeartbeats 4000000 in
theorem verimpl1 {Q : Exit → Act → World → Prop} {v1 v2 v4 v5 v6 v7 v8 v9 v10 v11 v12 v13 : Value} {w : World} {p na ca nb cb nc cc : Nat} {xa xb xc : Option Addr} {f s t : Int} {la lc : List ByteArray} {lb : List Int} {M : Int} {z : Bool} (HS : Hid (Num.inB t 1 2147483646 = true)) (HD : Hid (DHold w (.slice xa na ca) (.slice xb nb cb) (.slice xc nc cc) (la, lb, lc, f, s))) (HBY : Hid (Sl.Byt lb)) (HL : Hid (smD (la, lb, lc, f, s))) (HM : Hid (Seal.mac t (portD (la, lb, lc, f, s)) = M)) (HZ : Hid ((s == M) = z)) (HK : Hid (Ret.Blk w p (dc (.slice xa na ca) (.slice xb nb cb) (.slice xc nc cc) f s) 40)) (K4 : Hid (w.cell? ⟨p, 4, none⟩ = some (.int .i64 s)))
    (hQ : ∀ (u5 u6 u7 u8 u9 u10 u11 u12 u13 : Value)  (wx : World), Below w.heap.size w wx → Q .normal ⟨#[.int .i64 t, v1, v2, .pointer (some ⟨p, 0, none⟩), .bool z, u5, u6, u7, u8, u9, u10, u11, u12, u13], []⟩ wx) :
    (Code.region 1 #[{ dst := some 5, op := Op.move (Operand.tmp 0), type := 3, pos := "l08_thing.go:60", after := #[], guard := none },
      { dst := some 6, op := Op.call { callee := Callee.value (Operand.func 79), args := #[Operand.tmp 5], argTypes := #[3] }, type := 4, pos := "l08_thing.go:60", after := #[{ on := 0, ground := Ground.data }], guard := none },
      { dst := some 7, op := Op.move (Operand.tmp 6), type := 4, pos := "l08_thing.go:60", after := #[{ on := 1, ground := Ground.data }, { on := 1, ground := Ground.chain }], guard := none },
      { dst := some 8, op := Op.fieldAddr 40 (Operand.tmp 3) 4, type := 0, pos := "l08_thing.go:60", after := #[{ on := 2, ground := Ground.guard }], guard := some (2, true) },
      { dst := some 9, op := Op.load 3 (Operand.tmp 8), type := 3, pos := "l08_thing.go:60", after := #[{ on := 3, ground := Ground.data }, { on := 2, ground := Ground.guard }], guard := some (2, true) },
      { dst := some 10, op := Op.move (Operand.tmp 0), type := 3, pos := "l08_thing.go:60", after := #[{ on := 2, ground := Ground.guard }], guard := some (2, true) },
      { dst := some 11, op := Op.call { callee := Callee.value (Operand.func 88), args := #[Operand.tmp 3, Operand.tmp 10], argTypes := #[40, 3] }, type := 3, pos := "l08_thing.go:60", after := #[{ on := 5, ground := Ground.data }, { on := 2, ground := Ground.chain }, { on := 2, ground := Ground.guard }], guard := some (2, true) },
      { dst := some 12, op := Op.binOp BinOp.eql 3 (Operand.tmp 9) (Operand.tmp 11) 3, type := 4, pos := "l08_thing.go:60", after := #[{ on := 4, ground := Ground.data }, { on := 6, ground := Ground.data }, { on := 2, ground := Ground.guard }], guard := some (2, true) },
      { dst := some 13, op := Op.pick (Operand.tmp 7) (Operand.tmp 12) (Operand.const (Value.bool false)), type := 4, pos := "l08_thing.go:60", after := #[{ on := 2, ground := Ground.data }, { on := 7, ground := Ground.data }], guard := none },
      { dst := some 4, op := Op.assign (Operand.tmp 13), type := 4, pos := "l08_thing.go:60", after := #[{ on := 8, ground := Ground.data }, { on := 6, ground := Ground.chain }, { on := 0, ground := Ground.phase }, { on := 1, ground := Ground.phase }, { on := 2, ground := Ground.phase }, { on := 3, ground := Ground.phase }, { on := 4, ground := Ground.phase }, { on := 5, ground := Ground.phase }, { on := 6, ground := Ground.phase }, { on := 7, ground := Ground.phase }, { on := 8, ground := Ground.phase }], guard := none }] true).wp Try.prog Q ⟨#[.int .i64 t, v1, v2, .pointer (some ⟨p, 0, none⟩), v4, v5, v6, v7, v8, v9, v10, v11, v12, v13], []⟩ w := by
  have HQ := Lib.hid hQ; clear hQ
  have hdr : Below w.heap.size w w.drew := (Below.refl _ _).drew
  have tz := HZ.out
  have BB := Lib.hid hdr
  refine wp_region_noPanic ?_
  refine wp_region_held_drew (S := (fun w' => w'.cell? ⟨p, 4, none⟩ = some (.int .i64 s))) (by kernel_rfl) ?_ (fun hHeld => ?_)
  · exact kc K4.out BB.out
  clear hdr
  generalize w.drew = wd at *
  refine wpAnyH_take (i := 0) (oi := { dst := some 5, op := Op.move (Operand.tmp 0), type := 3, pos := "l08_thing.go:60", after := #[], guard := none }) (v := ?_) rfl (by kernel_rfl) (by kernel_rfl) (by kernel_rfl) (fun _ _ _ h => h) (Or.inl ⟨by rfl, ?_⟩) (by assumption) ?_
  rotate_left
  · intro w' hSw; (try dsimp only at hSw); first | (go_simp; done) | (go_simp; with_reducible rfl)
  (try simp only [Act.put, List.setIfInBounds_toArray, List.set_cons_zero, List.set_cons_succ])
  refine wpAnyH_ready (rs := [1]) (by kernel_rfl) (by simp) ?_
  refine AllReadyH.cons (o := { dst := some 6, op := Op.call { callee := Callee.value (Operand.func 79), args := #[Operand.tmp 5], argTypes := #[3] }, type := 4, pos := "l08_thing.go:60", after := #[{ on := 0, ground := Ground.data }], guard := none }) rfl (fun K hK => ?_) AllReadyH.nil
  go_simp
  refine (iSecV true HS.out).mono ?_
  rintro e wn1 ⟨rfl, hb⟩
  replace BB := Lib.hid (BB.out.trans (hb.mono BB.out.size))
  clear hb
  (try go_wp2_with fail)
  clear hHeld
  refine hK.out _ _ ?_ (fun hHeld => ?_)
  · (try dsimp only); exact kc K4.out BB.out
  clear hK K
  (try simp only [Act.put, List.setIfInBounds_toArray, List.set_cons_zero, List.set_cons_succ])
  refine wpAnyH_take (i := 2) (oi := { dst := some 7, op := Op.move (Operand.tmp 6), type := 4, pos := "l08_thing.go:60", after := #[{ on := 1, ground := Ground.data }, { on := 1, ground := Ground.chain }], guard := none }) (v := ?_) rfl (by kernel_rfl) (by kernel_rfl) (by kernel_rfl) (fun _ _ _ h => h) (Or.inl ⟨by rfl, ?_⟩) (by assumption) ?_
  rotate_left
  · intro w' hSw; (try dsimp only at hSw); first | (go_simp; done) | (go_simp; with_reducible rfl)
  (try simp only [Act.put, List.setIfInBounds_toArray, List.set_cons_zero, List.set_cons_succ])
  refine wpAnyH_take (i := 3) (oi := { dst := some 8, op := Op.fieldAddr 40 (Operand.tmp 3) 4, type := 0, pos := "l08_thing.go:60", after := #[{ on := 2, ground := Ground.guard }], guard := some (2, true) }) (v := ?_) rfl (by kernel_rfl) (by kernel_rfl) (by kernel_rfl) (fun _ _ _ h => h) (Or.inl ⟨by rfl, ?_⟩) (by assumption) ?_
  rotate_left
  · intro w' hSw; (try dsimp only at hSw); first | (go_simp; done) | (go_simp; with_reducible rfl)
  (try simp only [Act.put, List.setIfInBounds_toArray, List.set_cons_zero, List.set_cons_succ])
  refine wpAnyH_take (i := 4) (oi := { dst := some 9, op := Op.load 3 (Operand.tmp 8), type := 3, pos := "l08_thing.go:60", after := #[{ on := 3, ground := Ground.data }, { on := 2, ground := Ground.guard }], guard := some (2, true) }) (v := ?_) rfl (by kernel_rfl) (by kernel_rfl) (by kernel_rfl) (fun _ _ _ h => h) (Or.inl ⟨by rfl, ?_⟩) (by assumption) ?_
  rotate_left
  · intro w' hSw; (try dsimp only at hSw); first | (go_simp; done) | (go_simp; with_reducible rfl)
  (try simp only [Act.put, List.setIfInBounds_toArray, List.set_cons_zero, List.set_cons_succ])
  refine wpAnyH_take (i := 5) (oi := { dst := some 10, op := Op.move (Operand.tmp 0), type := 3, pos := "l08_thing.go:60", after := #[{ on := 2, ground := Ground.guard }], guard := some (2, true) }) (v := ?_) rfl (by kernel_rfl) (by kernel_rfl) (by kernel_rfl) (fun _ _ _ h => h) (Or.inl ⟨by rfl, ?_⟩) (by assumption) ?_
  rotate_left
  · intro w' hSw; (try dsimp only at hSw); first | (go_simp; done) | (go_simp; with_reducible rfl)
  (try simp only [Act.put, List.setIfInBounds_toArray, List.set_cons_zero, List.set_cons_succ])
  refine wpAnyH_ready (rs := [6]) (by kernel_rfl) (by simp) ?_
  refine AllReadyH.cons (o := { dst := some 11, op := Op.call { callee := Callee.value (Operand.func 88), args := #[Operand.tmp 3, Operand.tmp 10], argTypes := #[40, 3] }, type := 3, pos := "l08_thing.go:60", after := #[{ on := 5, ground := Ground.data }, { on := 2, ground := Ground.chain }, { on := 2, ground := Ground.guard }], guard := some (2, true) }) rfl (fun K hK => ?_) AllReadyH.nil
  go_simp
  refine (iMacV (x := (la, lb, lc, f, s)) M HM.out (HK.out.on BB.out) (HD.out.on BB.out) HBY.out HL.out).mono ?_
  rintro e wn2 ⟨rfl, hb⟩
  replace BB := Lib.hid (BB.out.trans (hb.mono BB.out.size))
  clear hb
  (try go_wp2_with fail)
  clear hHeld
  refine hK.out _ _ ?_ (fun hHeld => ?_)
  · (try dsimp only); exact kc K4.out BB.out
  clear hK K
  (try simp only [Act.put, List.setIfInBounds_toArray, List.set_cons_zero, List.set_cons_succ])
  refine wpAnyH_take (i := 7) (oi := { dst := some 12, op := Op.binOp BinOp.eql 3 (Operand.tmp 9) (Operand.tmp 11) 3, type := 4, pos := "l08_thing.go:60", after := #[{ on := 4, ground := Ground.data }, { on := 6, ground := Ground.data }, { on := 2, ground := Ground.guard }], guard := some (2, true) }) (v := ?_) rfl (by kernel_rfl) (by kernel_rfl) (by kernel_rfl) (fun _ _ _ h => h) (Or.inl ⟨by rfl, ?_⟩) (by assumption) ?_
  rotate_left
  · intro w' hSw; (try dsimp only at hSw); first | (go_simp; done) | (go_simp; with_reducible rfl)
  (try simp only [Act.put, List.setIfInBounds_toArray, List.set_cons_zero, List.set_cons_succ])
  refine wpAnyH_take (i := 8) (oi := { dst := some 13, op := Op.pick (Operand.tmp 7) (Operand.tmp 12) (Operand.const (Value.bool false)), type := 4, pos := "l08_thing.go:60", after := #[{ on := 2, ground := Ground.data }, { on := 7, ground := Ground.data }], guard := none }) (v := ?_) rfl (by kernel_rfl) (by kernel_rfl) (by kernel_rfl) (fun _ _ _ h => h) (Or.inl ⟨by rfl, ?_⟩) (by assumption) ?_
  rotate_left
  · intro w' hSw; (try dsimp only at hSw); first | (go_simp; done) | (go_simp; with_reducible rfl)
  (try simp only [Act.put, List.setIfInBounds_toArray, List.set_cons_zero, List.set_cons_succ])
  refine wpAnyH_take (i := 9) (oi := { dst := some 4, op := Op.assign (Operand.tmp 13), type := 4, pos := "l08_thing.go:60", after := #[{ on := 8, ground := Ground.data }, { on := 6, ground := Ground.chain }, { on := 0, ground := Ground.phase }, { on := 1, ground := Ground.phase }, { on := 2, ground := Ground.phase }, { on := 3, ground := Ground.phase }, { on := 4, ground := Ground.phase }, { on := 5, ground := Ground.phase }, { on := 6, ground := Ground.phase }, { on := 7, ground := Ground.phase }, { on := 8, ground := Ground.phase }], guard := none }) (v := ?_) rfl (by kernel_rfl) (by kernel_rfl) (by kernel_rfl) (fun _ _ _ h => h) (Or.inl ⟨by rfl, ?_⟩) (by assumption) ?_
  rotate_left
  · intro w' hSw; (try dsimp only at hSw); first | (go_simp; done) | (go_simp; with_reducible rfl)
  (try simp only [Act.put, List.setIfInBounds_toArray, List.set_cons_zero, List.set_cons_succ])
  refine wpAnyH_done (by kernel_rfl) ?_ _
  exact NoPanic.normal (HQ.out _ _ _ _ _ _ _ _ _  _  BB.out)

set_option maxHeartbeats 4000000 in
theorem specVerifyData (a b c : Value) (x : Dt) (t : Int) (w : World) (h : DHold w a b c x) (hB : Sl.Byt x.2.1) (hl : smD x) :
    Calls Try.prog 65 #[.int .i64 t, .agg (dc a b c x.2.2.2.1 x.2.2.2.2)] w fun e w' => e = .returned (.bool (verD t x)) ∧ Below w.heap.size w w' := by
  obtain ⟨l, m, k, f, s⟩ := x
  simp only at hB ⊢
  obtain ⟨xa, na, ca, xb, nb, cb, xc, nc, cc, rfl, rfl, rfl⟩ := h.shape
  obtain ⟨M, hM⟩ : ∃ M, Seal.mac t (portD (l, m, k, f, s)) = M := ⟨_, rfl⟩
  obtain ⟨q, hq⟩ : ∃ q, verD t (l, m, k, f, s) = q := ⟨_, rfl⟩
  rw [hq]
  have HQ := Lib.hid hq
  have HM := Lib.hid hM; have HY := Lib.hid hB; have HLB := Lib.hid hl
  have HB := Lib.hid ((Below.refl w.heap.size w).alloc (Nat.le_refl _) (.cells (dc (.slice xa na ca) (.slice xb nb cb) (.slice xc nc cc) f s) 40))
  have H0 := Lib.hid (h.on HB.out)
  have HX := Lib.hid (Ret.Blk.new w (dc (.slice xa na ca) (.slice xb nb cb) (.slice xc nc cc) f s) 40)
  clear h hB hl hM hq
  go_enter Try.func65, Try.ntmps65
  go_wp2_with fail
  cases hs : Num.inB t 1 2147483646 with
  | false =>
    have HE : Hid (q = false) := Lib.hid (by rw [← HQ.out]; unfold verD; rw [hs]; rfl)
    refine verspec0 (Lib.hid hs) ?_
    intro u5 u6 u7 u8 u9 u10 u11 u12 u13 u14 u15 wx hb
    have HB2 := Lib.hid (HB.out.trans (hb.mono HB.out.size))
    clear hb hs
    go_wp2_with fail
    go_ret
    exact ⟨ret_bool HE.out.symm, HB2.out⟩
  | true =>
    obtain ⟨z, hz⟩ : ∃ z, (s == M) = z := ⟨_, rfl⟩
    have HE : Hid (q = z) := Lib.hid (by rw [← HQ.out]; unfold verD; rw [hs, HM.out, ← hz]; rfl)
    refine verspec1 (Lib.hid hs) H0 HY HLB HM (Lib.hid hz) (Lib.hid (HX.out.cell 0)) (Lib.hid (HX.out.cell 1)) (Lib.hid (HX.out.cell 2)) (Lib.hid (HX.out.cell 3)) (Lib.hid (HX.out.cell 4)) ?_
    intro u5 u6 u7 u8 u9 u10 u11 u12 u13 u14 u15 wx hb
    have HB2 := Lib.hid (HB.out.trans (hb.mono HB.out.size))
    clear hb hs hz
    go_wp2_with fail
    go_ret
    exact ⟨ret_bool HE.out.symm, HB2.out⟩

set_option maxHeartbeats 4000000 in
theorem implVerifyData (a b c : Value) (x : Dt) (t : Int) (w : World) (h : DHold w a b c x) (hB : Sl.Byt x.2.1) (hl : smD x) :
    Calls Try.prog 66 #[.int .i64 t, .agg (dc a b c x.2.2.2.1 x.2.2.2.2)] w fun e w' => e = .returned (.bool (verD t x)) ∧ Below w.heap.size w w' := by
  obtain ⟨l, m, k, f, s⟩ := x
  simp only at hB ⊢
  obtain ⟨xa, na, ca, xb, nb, cb, xc, nc, cc, rfl, rfl, rfl⟩ := h.shape
  obtain ⟨M, hM⟩ : ∃ M, Seal.mac t (portD (l, m, k, f, s)) = M := ⟨_, rfl⟩
  obtain ⟨q, hq⟩ : ∃ q, verD t (l, m, k, f, s) = q := ⟨_, rfl⟩
  rw [hq]
  have HQ := Lib.hid hq
  have HM := Lib.hid hM; have HY := Lib.hid hB; have HLB := Lib.hid hl
  have HB := Lib.hid ((Below.refl w.heap.size w).alloc (Nat.le_refl _) (.cells (dc (.slice xa na ca) (.slice xb nb cb) (.slice xc nc cc) f s) 40))
  have H0 := Lib.hid (h.on HB.out)
  have HX := Lib.hid (Ret.Blk.new w (dc (.slice xa na ca) (.slice xb nb cb) (.slice xc nc cc) f s) 40)
  clear h hB hl hM hq
  go_enter Try.func66, Try.ntmps66
  go_wp2_with fail
  cases hs : Num.inB t 1 2147483646 with
  | false =>
    have HE : Hid (q = false) := Lib.hid (by rw [← HQ.out]; unfold verD; rw [hs]; rfl)
    refine verimpl0 (Lib.hid hs) ?_
    intro u5 u6 u7 u8 u9 u10 u11 u12 u13 wx hb
    have HB2 := Lib.hid (HB.out.trans (hb.mono HB.out.size))
    clear hb hs
    go_wp2_with fail
    go_ret
    exact ⟨ret_bool HE.out.symm, HB2.out⟩
  | true =>
    obtain ⟨z, hz⟩ : ∃ z, (s == M) = z := ⟨_, rfl⟩
    have HE : Hid (q = z) := Lib.hid (by rw [← HQ.out]; unfold verD; rw [hs, HM.out, ← hz]; rfl)
    refine verimpl1 (Lib.hid hs) H0 HY HLB HM (Lib.hid hz) HX (Lib.hid (HX.out.cell 4)) ?_
    intro u5 u6 u7 u8 u9 u10 u11 u12 u13 wx hb
    have HB2 := Lib.hid (HB.out.trans (hb.mono HB.out.size))
    clear hb hs hz
    go_wp2_with fail
    go_ret
    exact ⟨ret_bool HE.out.symm, HB2.out⟩
end Go.Proofs.Ytnblopilgfdjkaa.Row
/- Contracts of SecretOf, the program's and the model's, and of the program's ValidKeys. No conditions but that lengths fit. -/
namespace Go.Proofs.Ytnblopilgfdjkaa.Row.Ring
open Go.ChangeShapes Go.WideShapes Go.ChangeAt Go.RowKit Go.Instr
set_option linter.unusedVariables false
set_option maxRecDepth 100000

theorem map_on {P : Program} {k : TypeId} {R : Value → Option (DataW Value × List MemPlace)} {b n : Nat} {D : DataW Value} {w w' : World} (h : w.ownsMap P k R b n D) (hb : Below w.heap.size w w') : w'.ownsMap P k R b n D := by
  obtain ⟨es, clock, hbk, r⟩ := h
  exact ⟨es, clock, (hb.block _ (Array.getElem?_eq_some_iff.1 hbk).1).trans hbk, r⟩

set_option maxHeartbeats 2000000 in
theorem specSecretOf (v u : Value) (T : List (List ByteArray × Int)) (m : List ByteArray) (w : World) (h : TabHolds w v T) (g : Holds Value.string w u m) (hl : T.length ≤ 4000000) (hT : smT T) (hm : bulk m ≤ 9000000) :
    Calls Try.prog 16 #[v, .agg #[u]] w fun e w' => e = .returned (.int .i64 (lkN T m)) ∧ Below w.heap.size w w' := by
  obtain ⟨L, rfl, h⟩ := h
  obtain ⟨x, n, cx, rfl, hn, hcx, hh⟩ := h.shapeN
  obtain ⟨y, q, cy, rfl, -, hcy, hg⟩ := g.shapeN
  have hb0 := (Below.refl w.heap.size w).alloc (Nat.le_refl _) (.cells #[.slice y q cy] 34)
  have HF := Lib.hid (l9Find (.slice x n cx) (.slice y q cy) (strip L) m _ ⟨L, rfl, hh.on hb0⟩ (hg.on hb0) (by omega) hT (Nat.le_trans (bulk_len m) hm))
  rw [strip_length, ← hn] at hl
  have HB := Lib.hid hb0; have HN := Lib.hid hn; have HH := Lib.hid (hh.on hb0)
  clear hb0 hn hh h hg g hT
  go_enter Try.func16, Try.ntmps16
  go_wp2_with fail
  refine HF.out.mono ?_
  rintro e w1 ⟨rfl, hb⟩
  have HB1 := Lib.hid (HB.out.trans (hb.mono HB.out.size)); have HH1 := Lib.hid (HH.out.on hb)
  clear hb HF
  rcases ixT_cases (isN m) (strip L) with ⟨h1, h2, -⟩ | ⟨i, hi, h1, h2, -, -⟩
  · have HV := Lib.hid (show lkN (strip L) m = 0 by unfold lkN; rw [h2, if_neg (by omega)])
    rw [h1]
    clear h1 h2
    go_wp2_with fail
    go_ret
    exact ⟨ret_int HV.out.symm, HB1.out⟩
  · rw [strip_length] at hi
    have HV := Lib.hid (show lkN (strip L) m = (nth L i).val by unfold lkN; rw [h2, if_pos (by rw [strip_length]; exact hi), strip_nth hi]; rfl)
    obtain ⟨b, off, rfl, hc, hd, hnm⟩ := HH1.out.at hi
    have hi2 : (i : Int) < (n : Int) := by have := HN.out; omega
    have hi3 : ¬ (i : Int) < 0 := by omega
    rw [h1]
    clear h1 h2 hi hnm hc
    go_wp2_with fail
    go_ret
    exact ⟨ret_int HV.out.symm, HB1.out⟩

set_option maxHeartbeats 4000000 in
theorem implSecretOf (v u : Value) (T : List (List ByteArray × Int)) (m : List ByteArray) (w : World) (h : TabHolds w v T) (g : Holds Value.string w u m) (hl : T.length ≤ 4000000) (hT : smT T) (hm : bulk m ≤ 9000000) :
    Calls Try.prog 18 #[v, .agg #[u]] w fun e w' => e = .returned (.int .i64 (lkN T m)) ∧ Below w.heap.size w w' := by
  obtain ⟨L, rfl, h⟩ := h
  obtain ⟨x, n, cx, rfl, hn, hcx, hh⟩ := h.shapeN
  obtain ⟨y, q, cy, rfl, -, hcy, hg⟩ := g.shapeN
  have hb0 := ((Below.refl w.heap.size w).alloc (Nat.le_refl _) (.cells #[.slice y q cy] 34)).drew
  obtain ⟨ad, nn, cc, hat⟩ := pairs_key m (smN_bulk hm) (L := L) hT
  have HP := Lib.hid hat
  have HK := Lib.hid (keyTxt hm)
  rw [strip_length] at hl
  have HL := Lib.hid hl; have HT := Lib.hid hT; have HM := Lib.hid hm
  have HB := Lib.hid hb0; have HH := Lib.hid (hh.on hb0); have HG := Lib.hid (hg.on hb0)
  have HX := Lib.hid (Ret.Box.new w (.slice y q cy) 34)
  have KS0 := Lib.hid (show (w.alloc (.cells #[.slice y q cy] 34)).drew.cell? ⟨w.heap.size, 0, none⟩ = some (.slice y q cy) ∧ Below w.heap.size w (w.alloc (.cells #[.slice y q cy] 34)).drew from ⟨HX.out.cell, HB.out⟩)
  generalize lkN (strip L) m = r at *
  have hfd : ∀ wx : World, (Instr.field 67 (.agg #[.slice ad nn cc, .int .i64 r]) 1).run Try.prog wx = .ok (.int .i64 r) wx := fun wx => by kernel_rfl
  clear hb0 hn hh h hg g hT hat hl hm
  go_enter Try.func18, Try.ntmps18
  go_wp2_with fail
  go_region_held3 (fun w' => w'.cell? ⟨w.heap.size, 0, none⟩ = some (.slice y q cy) ∧ Below w.heap.size w w') (first | exact KS0.out | exact KS1.out | exact KS2.out) (first | (go_at_call 55; refine (nameText _ m _ (HG.out.on hb1) HM.out).mono ?_; rintro e w2 ⟨rfl, hb2⟩; have KS2 := Lib.hid (show w2.cell? ⟨w.heap.size, 0, none⟩ = some (.slice y q cy) ∧ Below w.heap.size w w2 from ⟨kc KS1.out.1 hb2, KS1.out.2.trans (hb2.mono KS1.out.2.size)⟩); obtain ⟨v9, ps9, hlook, hv⟩ := (map_on hown.out hb2).lookup strLaw Try.underlying78 (zeroKey w2) (zd := .held zK) (zp := []) rfl HK.out; rw [HP.out] at hv; rw [heldV_inj hv] at hlook; clear hv hb2) | (go_at_call 52; refine (keyringOf _ L _ HH.out HL.out HT.out).mono ?_; rintro e w1 ⟨b1, rfl, hown, -, hb1⟩; have hown := Lib.hid hown; have KS1 := Lib.hid (show w1.cell? ⟨w.heap.size, 0, none⟩ = some (.slice y q cy) ∧ Below w.heap.size w w1 from ⟨kc KS0.out.1 hb1, KS0.out.2.trans (hb1.mono KS0.out.2.size)⟩)))
  all_goals
    go_wp2_with fail
    go_ret
    exact ⟨rfl, KS2.out.2⟩

set_option maxHeartbeats 2000000 in
theorem validKey (v : Value) (l : List ByteArray) (s : Int) (w : World) (h : Holds Value.string w v l) (hl : bulk l ≤ 9000000) :
    Calls Try.prog 51 #[.agg #[v, .int .i64 s]] w fun e w' => e = .returned (.bool (vkey (l, s))) ∧ Below w.heap.size w w' := by
  obtain ⟨x, n, cx, rfl, hn, hcx, hh⟩ := h.shapeN
  have HN := Lib.hid hn
  have hb0 := (Below.refl w.heap.size w).alloc (Nat.le_refl _) (.cells #[.slice x n cx, .int .i64 s] 67)
  have HB := Lib.hid hb0
  have HH := Lib.hid (hh.on hb0)
  have HX := Lib.hid (Ret.Blk.new w #[.slice x n cx, .int .i64 s] 67)
  obtain ⟨v1, hv1⟩ : ∃ z, validN l = z := ⟨_, rfl⟩
  obtain ⟨v3, hv3⟩ : ∃ z, Num.inB s 1 2147483646 = z := ⟨_, rfl⟩
  have HV1 := Lib.hid hv1; have HV3 := Lib.hid hv3
  clear hb0 hn hh h hv1 hv3
  go_enter Try.func51, Try.ntmps51
  go_wp2_with fail
  refine (implValidName _ l _ HH.out (by omega)).mono ?_
  rintro e w1 ⟨rfl, hb⟩
  rw [HV1.out]
  have HX1 := Lib.hid (HX.out.on hb)
  have HB1 := Lib.hid (HB.out.trans (hb.mono HB.out.size)); clear hb
  have q0 : w1.cell? ⟨w.heap.size, 0, none⟩ = some (.slice x n cx) := HX1.out.cell 0
  have q1 : w1.cell? ⟨w.heap.size, 1, none⟩ = some (.int .i64 s) := HX1.out.cell 1
  cases v1 with
  | false =>
    have HV := Lib.hid (show vkey (l, s) = false by unfold vkey; rw [show validN (l, s).1 = false from HV1.out]; rfl)
    go_wp2_with fail
    go_ret
    exact ⟨ret_bool HV.out.symm, HB1.out⟩
  | true =>
    by_cases hn : 0 < n
    · have t2 : decide ((0 : Int) < (n : Int)) = true := by simp; omega
      have HP := Lib.hid (show decide (0 < (l, s).1.length) = true by have := HN.out; simp; omega)
      go_wp2_with fail
      refine (iSecV v3 HV3.out).mono ?_
      rintro e w2 ⟨rfl, hb⟩
      have HB2 := Lib.hid (HB1.out.trans (hb.mono HB1.out.size)); clear hb
      have HV := Lib.hid (show vkey (l, s) = v3 by unfold vkey; rw [show validN (l, s).1 = true from HV1.out, HP.out, show Num.inB (l, s).2 1 2147483646 = v3 from HV3.out]; simp)
      clear q0 q1
      cases v3 with
      | false => 
        go_wp2_with fail
        go_ret
        exact ⟨ret_bool HV.out.symm, HB2.out⟩
      | true => 
        go_wp2_with fail
        go_ret
        exact ⟨ret_bool HV.out.symm, HB2.out⟩
    · have t2 : decide ((0 : Int) < (n : Int)) = false := by simp; omega
      have HV := Lib.hid (show vkey (l, s) = false by unfold vkey; rw [show decide (0 < (l, s).1.length) = false from decide_eq_false (by have := HN.out; show ¬ 0 < l.length; omega)]; simp)
      go_wp2_with fail
      go_ret
      exact ⟨ret_bool HV.out.symm, HB1.out⟩

/-! ### ValidKeys -/
theorem intLaw : Maps.Keyed Try.prog 3 := Maps.int_keyed Try.underlying3
theorem zeroBool (w : World) : (zeroValue 4).run Try.prog w = .ok (.bool false) w := by kernel_rfl
/-- The first k keys are valid by themselves, and no number occurs twice. -/
def okS (T : List (List ByteArray × Int)) (k : Nat) : Prop := (∀ x ∈ T.take k, vkey x = true) ∧ ((T.take k).map (·.2)).Nodup
theorem okS_zero (T : List (List ByteArray × Int)) : okS T 0 := by simp [okS]
theorem okS_next {T : List (List ByteArray × Int)} {k : Nat} (h : okS T k) (hk : k < T.length) (hv : vkey (nth T k) = true) (hs : (nth T k).2 ∉ (T.take k).map (·.2)) : okS T (k + 1) := by
  unfold okS
  rw [List.take_succ_eq_append_getElem hk, ← nth_eq hk, List.map_append]
  refine ⟨fun x hx => ?_, ?_⟩
  · rcases List.mem_append.1 hx with hx | hx
    · exact h.1 x hx
    · rw [List.mem_singleton.1 hx]; exact hv
  · rw [List.nodup_append]
    exact ⟨h.2, by simp, fun a ha b hb e => hs (by simp at hb; rw [← hb, ← e]; exact ha)⟩
theorem validK_bad {T : List (List ByteArray × Int)} {k : Nat} (hk : k < T.length) (hv : vkey (nth T k) = false) : validK T = false :=
  validK_no fun h => by
    have := h.1 _ (nth_mem hk)
    rw [hv] at this
    cases this
theorem validK_twice {T : List (List ByteArray × Int)} {k : Nat} (hk : k < T.length) (hs : (nth T k).2 ∈ (T.take k).map (·.2)) : validK T = false :=
  validK_no fun h => by
    have h2 : ((T.take (k + 1)).map (·.2)).Nodup := by
      have e : T.map (·.2) = (T.take (k + 1)).map (·.2) ++ (T.drop (k + 1)).map (·.2) := by rw [← List.map_append, List.take_append_drop]
      have h3 := h.2.2.1
      rw [e, List.nodup_append] at h3
      exact h3.1
    rw [List.take_succ_eq_append_getElem hk, ← nth_eq hk, List.map_append, List.nodup_append] at h2
    exact h2.2.2 _ hs _ (by simp) rfl
theorem validK_of {T : List (List ByteArray × Int)} (h : okS T T.length) : validK T = (decide (T.length ≤ 8) && decide ((T.map (·.1)).Nodup)) := by
  unfold okS at h
  rw [List.take_length] at h
  unfold validK
  by_cases h1 : T.length ≤ 8 <;> by_cases h2 : (T.map (·.1)).Nodup <;> simp_all

set_option maxHeartbeats 8000000 in
theorem implValidKeys (v : Value) (T : List (List ByteArray × Int)) (w : World) (h : TabHolds w v T) (hl : T.length ≤ 4000000) (hT : smT T) (hW : ∀ t ∈ T, (Lit.int .i64 t.2).wf = true) :
    Calls Try.prog 13 #[v] w fun e w' => e = .returned (.bool (validK T)) ∧ Below w.heap.size w w' := by
  obtain ⟨L, rfl, h⟩ := h
  obtain ⟨x, n, cx, rfl, hn, hcx, hh⟩ := h.shapeN
  rw [strip_length, ← hn] at hl
  have HN := Lib.hid hn; have HH := Lib.hid hh; have HT := Lib.hid hT; have HW := Lib.hid hW
  have HM0 := Lib.hid (show (w.alloc (.map #[] 0)).ownsMap Try.prog 3 heldV w.heap.size 0 (secD (((strip L).take 0).map (·.2))) from World.ownsMap_made w _ _ _)
  have HB0 := Lib.hid ((Below.refl w.heap.size w).alloc (Nat.le_refl _) (.map #[] 0))
  have hmm := @run_makeMap Try.prog
  clear hn h hh hT hW
  go_enter Try.func13, Try.ntmps13
  go_wp2_with fail
  go_loopw [9] (fun i wr => ∃ k : Nat, k ≤ n ∧ i = .int .i64 k ∧ Hid (okS (strip L) k) ∧ Hid (wr.ownsMap Try.prog 3 heldV w.heap.size k (secD (((strip L).take k).map (·.2)))) ∧ Hid (Below w.heap.size w wr) ∧ Hid (w.heap.size + 1 ≤ wr.heap.size)) (fun i _ => n - (intOf i).toNat)
  case atStart => exact ⟨0, Nat.zero_le _, rfl, Lib.hid (okS_zero _), HM0, HB0, Lib.hid (by simp)⟩
  case round =>
    obtain ⟨k, hk, rfl, hO, hM, hB, hS⟩ := hrel
    by_cases hlt : k < n
    · have HKL := Lib.hid (show k < L.length by have := HN.out; omega)
      obtain ⟨b, off, rfl, hc, hd, hnm⟩ := (HH.out.on hB.out).at HKL.out
      have HPS := Lib.hid (smT_ps HT.out HKL.out)
      have hal := ((Below.refl wr.heap.size wr).alloc (Nat.le_refl _) (.cells #[.slice (nth L k).ad (nth L k).n (nth L k).cap, .int .i64 (nth L k).val] 67))
      have HNM := Lib.hid (hnm.on hal)
      have HB1 := Lib.hid (hB.out.trans (hal.mono hB.out.size))
      have HM1 := Lib.hid (hM.out.alloc (.cells #[.slice (nth L k).ad (nth L k).n (nth L k).cap, .int .i64 (nth L k).val] 67))
      have HX := Lib.hid (Ret.Blk.new wr #[.slice (nth L k).ad (nth L k).n (nth L k).cap, .int .i64 (nth L k).val] 67)
      have HS1 := Lib.hid (show (wr.alloc (.cells #[.slice (nth L k).ad (nth L k).n (nth L k).cap, .int .i64 (nth L k).val] 67)).heap.size = wr.heap.size + 1 from World.size_alloc _ _)
      have HE := Lib.hid (strip_nth HKL.out)
      have HKT := Lib.hid (show k < (strip L).length by rw [strip_length]; exact HKL.out)
      have HWK := Lib.hid (show (Lit.int .i64 (nth L k).val).wf = true from HW.out _ (strip_mem (nth_mem HKL.out)))
      have HNX := Lib.hid (show ((strip L).take (k + 1)).map (·.2) = ((strip L).take k).map (·.2) ++ [(nth L k).val] by
        rw [List.take_succ_eq_append_getElem HKT.out, ← nth_eq HKT.out, HE.out, List.map_append]; rfl)
      clear hnm hal hmm
      go_wp2_with fail
      obtain ⟨z, hz⟩ : ∃ z, vkey ((nth L k).ps, (nth L k).val) = z := ⟨_, rfl⟩
      have HZ := Lib.hid hz
      refine (validKey _ (nth L k).ps (nth L k).val _ HNM.out HPS.out).mono ?_
      rintro e w1 ⟨rfl, hb1⟩
      rw [hz]
      have HB2 := Lib.hid (HB1.out.trans (hb1.mono HB1.out.size))
      have HM2 := Lib.hid (map_on HM1.out hb1)
      have HX2 := Lib.hid (HX.out.on hb1)
      have hx0 : w1.cell? ⟨wr.heap.size, 0, none⟩ = some (.slice (nth L k).ad (nth L k).n (nth L k).cap) := HX2.out.cell 0
      have hx1 : w1.cell? ⟨wr.heap.size, 1, none⟩ = some (.int .i64 (nth L k).val) := HX2.out.cell 1
      have HS2 := Lib.hid (show w.heap.size + 1 < w1.heap.size by have := hb1.size; have := HS1.out; have := hS.out; omega)
      clear hb1 hz HM1 HX HB1 hc hd
      cases z with
      | false =>
        have HV := Lib.hid (validK_bad HKT.out (by rw [HE.out]; exact HZ.out))
        go_wp2_with fail
        go_ret
        exact ⟨ret_bool HV.out.symm, HB2.out⟩
      | true =>
        obtain ⟨y, hy⟩ : ∃ y, decide ((nth L k).val ∈ ((strip L).take k).map (·.2)) = y := ⟨_, rfl⟩
        have hlook : (Instr.lookup 75 (.map (some w.heap.size)) (.int .i64 (nth L k).val) false).run Try.prog w1 = .ok (.bool y) w1 := by
          obtain ⟨v9, ps9, hr, hv⟩ := HM2.out.lookup intLaw Try.underlying75 (zeroBool w1) (zd := .held (.bool false)) (zp := []) rfl (Maps.keyOf_int_mk Try.underlying3 HWK.out)
          rw [show Lit.int .i64 (nth L k).val = sk (nth L k).val from rfl, secD_at, hy] at hv
          rw [heldV_inj hv] at hr
          exact hr
        have HY := Lib.hid hy
        clear hy
        cases y with
        | true =>
          have HV := Lib.hid (validK_twice HKT.out (by rw [HE.out]; exact of_decide_eq_true HY.out))
          go_wp2_with fail
          go_ret
          exact ⟨ret_bool HV.out.symm, HB2.out⟩
        | false =>
          have HO2 := Lib.hid (okS_next hO.out HKT.out (by rw [HE.out]; exact HZ.out) (by rw [HE.out]; exact of_decide_eq_false HY.out))
          go_wp2_with (at_mapUpdate; refine wpList_mapUpdate_own _ rfl _ _ _ 75 rfl 3 4 intLaw Try.underlying75 heldV w.heap.size k _ rfl HM2.out (by unfold maxLen; omega) _ _ (sk (nth L k).val) rfl rfl (Maps.keyOf_int_mk Try.underlying3 HWK.out) (.held (.bool true)) [] rfl ?_)
          intro w3 hown3 hg3
          have HM4 := Lib.hid (show w3.ownsMap Try.prog 3 heldV w.heap.size (k + 1) (secD (((strip L).take (k + 1)).map (·.2))) by rw [HNX.out, secD_next, List.map_take]; exact hown3)
          have HB4 := Lib.hid (HB2.out.grown hg3 HB2.out.size (fun g hg => by cases hg; exact Nat.le_refl _))
          have HS4 := Lib.hid (show w.heap.size + 1 ≤ w3.heap.size by have := HS2.out; have := hg3.size; omega)
          clear hown3 hg3 hlook hx0 hx1
          go_wp2_with fail
          go_roundw
          case rel => exact ⟨k + 1, by omega, by go_num, HO2, HM4, HB4, HS4⟩
          case measure => simp [intOf]; omega
    · obtain rfl : k = n := by omega
      clear hlt
      have hV := validK_of (T := strip L) (by rw [strip_length, ← HN.out]; exact hO.out)
      rw [strip_length, ← HN.out] at hV
      have HV := Lib.hid hV
      clear hV
      by_cases h8 : k ≤ 8
      · have t1 : decide ((k : Int) ≤ 8) = true := by simp; omega
        have hnd : decide ((k : Int) = (k : Int)) = true := by simp
        go_wp2_with fail
        refine (keyringOf _ L _ (HH.out.on hB.out) (by have := HN.out; omega) HT.out).mono ?_
        rintro e w1 ⟨b1, rfl, hown, -, hb1⟩
        have hlen := hown.len Try.underlying78 3
        obtain ⟨sz, hsz⟩ : ∃ sz, Maps.size (ringD (pairs L)) = sz := ⟨_, rfl⟩
        have hle : sz ≤ k := by rw [← hsz]; have := hown.size_le; have := HN.out; omega
        have hnn := ringD_size (pairs_sm HT.out)
        rw [hsz, pairs_length, pairs_fst, strip_length, ← HN.out] at hnn
        rw [hsz] at hlen
        have HB2 := Lib.hid (hB.out.trans (hb1.mono hB.out.size))
        have HQ := Lib.hid (show validK (strip L) = ((sz : Int) == (k : Int)) by
          rw [HV.out]
          by_cases e : sz = k
          · rw [decide_eq_true (hnn.1 e)]; simp [e, h8]
          · rw [decide_eq_false (fun e2 => e (hnn.2 e2))]; simp; omega)
        clear hnn hsz hown hb1 HV
        obtain ⟨y, hy⟩ : ∃ y, ((sz : Int) == (k : Int)) = y := ⟨_, rfl⟩
        have HY := Lib.hid (HQ.out.trans hy)
        clear HQ
        go_wp2_with fail
        go_ret
        exact ⟨ret_bool HY.out.symm, HB2.out⟩
      · have t1 : decide ((k : Int) ≤ 8) = false := by simp; omega
        have HQ := Lib.hid (show validK (strip L) = false by rw [HV.out]; simp [h8])
        go_wp2_with fail
        go_ret
        exact ⟨ret_bool HQ.out.symm, hB.out⟩
end Go.Proofs.Ytnblopilgfdjkaa.Row.Ring
