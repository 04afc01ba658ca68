/- Contracts of the program's EncodeInterest and EqualInterests. No conditions but that lengths fit. -/
import Derived.Test.YtnnhgcfelkcpfaaWantP
import Derived.Test.YtnnhgcfelkcpfaaWantH
import Derived.Test.YtnnhgcfelkcpfaaSeal
import Derived.Deep.RegionHeld3
namespace Go.Proofs.Ytnnhgcfelkcpfaa.Row
open Go.ChangeShapes Go.WideShapes Go.ChangeAt Go.RowKit Go.Instr
set_option linter.unusedVariables false
set_option maxRecDepth 100000

theorem some3 {B : Nat} {w : World} {v : Value} {a b c : Int} (h : Sl.Own 3 .i64 B w v [a, b, c]) : ∃ g k, v = .slice (some ⟨g, 0, none⟩) 3 k ∧ B ≤ g := by
  rcases h.form with ⟨_, h0⟩ | ⟨g, c, e, h1, _⟩
  · cases h0
  · exact ⟨g, c, e, h1⟩
set_option maxHeartbeats 8000000 in
theorem implEncodeInterest (v : Value) (x : Wt) (w : World) (h : Holds Value.string w v x.1) (hl : bulk x.1 ≤ 1200000) :
    Calls Try.prog 29 #[.agg (wc v x.2.1 x.2.2.1 x.2.2.2)] w (Sl.GivesB w (encW x)) := by
  obtain ⟨l, a, b, c⟩ := x
  simp only at h hl ⊢
  obtain ⟨y, q, cy, rfl, hq, hcy, hg⟩ := h.shapeN
  have hb0 := (Below.refl w.heap.size w).alloc (Nat.le_refl _) (.cells (wc (.slice y q cy) a b c) 31)
  have HB := Lib.hid hb0
  have HG := Lib.hid (hg.on hb0)
  have HG0 := Lib.hid hg
  have X0 := Lib.hid (Ret.Blk.new w (wc (.slice y q cy) a b c) 31)
  have HBL := Lib.hid hl
  obtain ⟨ok, hok⟩ : ∃ z, validW (l, a, b, c) = z := ⟨_, rfl⟩
  have HOK := Lib.hid hok
  clear h hg hq hb0
  go_enter Try.func29, Try.ntmps29
  go_wp2_with fail
  refine (implValidInterest _ (l, a, b, c) _ HG.out (show bulk l ≤ 9000000 by omega)).mono ?_
  rintro e w1 ⟨rfl, hb⟩
  rw [hok]
  have Y0 := Lib.hid (X0.out.on hb)
  have HBW := Lib.hid (HB.out.trans (hb.mono HB.out.size))
  have HG1 := Lib.hid (HG0.out.on HBW.out)
  clear hb X0 hok HG HG0
  have q0 : w1.cell? ⟨w.heap.size, 0, none⟩ = some (.slice y q cy) := Y0.out.cell 0
  have q1 : w1.cell? ⟨w.heap.size, 1, none⟩ = some (.int .i64 a) := Y0.out.cell 1
  have q2 : w1.cell? ⟨w.heap.size, 2, none⟩ = some (.int .i64 b) := Y0.out.cell 2
  have q3 : w1.cell? ⟨w.heap.size, 3, none⟩ = some (.int .i64 c) := Y0.out.cell 3
  cases ok with
  | false =>
    have HV : Hid (encW (l, a, b, c) = []) := Lib.hid (if_neg (by rw [HOK.out]; simp))
    have HE := Lib.hid (Sl.own_empty .u8 5 w1)
    have HBE := Lib.hid (HBW.out.alloc HBW.out.size (.cells #[] 5))
    go_wp2_with fail
    go_ret
    exact ⟨_, rfl, by rw [HV.out]; exact HE.out.mono HBW.out.size, HBE.out⟩
  | true =>
    have HV : Hid (encW (l, a, b, c) = appName [] l ++ Sl.encs [a, b, c]) := Lib.hid (if_pos HOK.out)
    have hin : 0 ≤ a ∧ a ≤ 1000000 := validW_in HOK.out
    have HEN := Lib.hid (show Sl.encs [a, b, c] ≠ [] from fun e => by
      have h1 : (Sl.encs [a, b, c]).length = 0 := by rw [e]; rfl
      have h2 := Var.enc_pos a.toNat
      have h3 : Sl.encs [a, b, c] = Var.var a ++ (Var.var b ++ Var.var c) := by simp [Sl.encs]
      rw [h3, Var.var_in hin.1 (by omega), List.length_append] at h1
      omega)
    have HLM := Lib.hid (show ((appName [] l).length + (Sl.encs [a, b, c]).length) * 8 ≤ 140737488355328 by
      have h1 := appName_len l
      have h2 := Sl.encs_len [a, b, c]
      have h3 : [a, b, c].length = 3 := rfl
      have h4 := HBL.out
      omega)
    have HBD := Lib.hid (show Below w1.heap.size w1 w1.drew from (Below.refl _ _).drew)
    have HN1 := Lib.hid (HG1.out.on HBD.out)
    clear hin
    go_wp2_with fail
    go_region_held3 (fun w' => w'.cell? ⟨w.heap.size, 0, none⟩ = some (.slice y q cy) ∧ w'.cell? ⟨w.heap.size, 1, none⟩ = some (.int .i64 a) ∧ w'.cell? ⟨w.heap.size, 2, none⟩ = some (.int .i64 b) ∧ w'.cell? ⟨w.heap.size, 3, none⟩ = some (.int .i64 c)) (first | with_reducible exact keepW Y0.out HBD.out | with_reducible exact keepW Y0.out HB8.out | with_reducible exact keepW Y0.out HB7.out | with_reducible exact keepW Y0.out HB6.out | with_reducible exact keepW Y0.out HB5.out) (first | (refine Sl.step_app2 (k := .u8) (B := w1.heap.size) (v := v5) (l := appName [] l) (m := Sl.encs [a, b, c]) rfl _ _ (by rfl) Try.underlying35 Sl.elemBYTE rfl (by rfl) (by rfl) ?_ ?_ HLM.out (by decide) ?_ ?_; (with_reducible exact HO7.out); (with_reducible exact HS7.out); (exact HB7.out.size); intro v8 w8 ho8 hg8; have HB8 := Lib.hid (HB7.out.grown hg8 HB7.out.size (fun g e => (HO7.out.lt g e).1)); have HO8 := Lib.hid ho8; clear ho8 hg8) | (go_at_call 57; refine (Sl.implEncodeInts _ [a, b, c] _ ?_ (by simp)).mono ?_; (with_reducible exact HI6.out); rintro e w7 ⟨v7, rfl, ho7, hb7⟩; obtain ⟨g7, c7, rfl, -⟩ := some6 ho7 HEN.out; have HB7 := Lib.hid (HB6.out.trans (hb7.mono HB6.out.size)); have HO7 := Lib.hid (HO6.out.on hb7); have HS7 := Lib.hid ho7.holds; clear ho7 hb7) | (go_at_call 58; refine (numbers (.slice y q cy) a b c _ ⟨_, _, _, rfl⟩).mono ?_; rintro e w6 ⟨v6, rfl, ho6, hb6⟩; obtain ⟨g6, c6, rfl, -⟩ := some3 ho6; have HB6 := Lib.hid (HB5.out.trans (hb6.mono HB5.out.size)); have HO6 := Lib.hid (HO5.out.on hb6); have HI6 := Lib.hid ho6.holds; clear ho6 hb6) | (go_at_call 19; refine (implAppendName (.slice none 0 0) _ [] l _ (Sl.Holds.nil _ _) ?_ (by simp) HBL.out).mono ?_; (with_reducible exact HN1.out); rintro e w5 ⟨v5, rfl, ho5, hb5⟩; have HB5 := Lib.hid (HBD.out.trans (hb5.mono HBD.out.size)); have HO5 := Lib.hid (ho5.mono HBD.out.size); clear ho5 hb5))
    all_goals
      go_wp2_with fail
      go_ret
      exact ⟨_, rfl, by rw [HV.out]; exact HO8.out.mono HBW.out.size, HBW.out.trans (HB8.out.mono HBW.out.size)⟩

theorem eqNamesV (b : Bool) {v u : Value} {l m : List ByteArray} {w : World} (hb : eqB l m = b) (h : Holds Value.string w v l) (g : Holds Value.string w u m) (hl : l.length ≤ 9000000) (hm : m.length ≤ 9000000) :
    Calls Try.prog 65 #[.agg #[v], .agg #[u]] w fun e w' => e = .returned (.bool b) ∧ Below w.heap.size w w' := hb ▸ implEqualNames _ _ l m _ h g (by omega) (by omega)
theorem eqIntsV (b : Bool) {v u : Value} {l m : List Int} {w : World} (hb : Sl.eqB l m = b) (h : Sl.Holds .i64 w v l) (g : Sl.Holds .i64 w u m) (hl : l.length ≤ 9000000) (hm : m.length ≤ 9000000) :
    Calls Try.prog 66 #[v, u] w fun e w' => e = .returned (.bool b) ∧ Below w.heap.size w w' := hb ▸ Sl.implEqualInts _ _ l m _ h g (by omega) (by omega)

set_option maxRecDepth 100000 in
set_option maxHeartbeats 4000000 in
theorem regW1 {Q : Exit → Act → World → Prop} {v0 v1 v4 v5 v6 v7 v8 v9 v10 v11 v12 v13 v14 v15 v16 : Value} {w : World} {p q na ca nb cb : Nat} {xa xb : Option Addr} {a1 a2 a3 b1 b2 b3 : Int} {la lb : List ByteArray} (K0 : Hid (w.cell? ⟨p, 0, none⟩ = some (.slice xa na ca))) (K1 : Hid (w.cell? ⟨p, 1, none⟩ = some (.int .i64 a1))) (K2 : Hid (w.cell? ⟨p, 2, none⟩ = some (.int .i64 a2))) (K3 : Hid (w.cell? ⟨p, 3, none⟩ = some (.int .i64 a3))) (M0 : Hid (w.cell? ⟨q, 0, none⟩ = some (.slice xb nb cb))) (M1 : Hid (w.cell? ⟨q, 1, none⟩ = some (.int .i64 b1))) (M2 : Hid (w.cell? ⟨q, 2, none⟩ = some (.int .i64 b2))) (M3 : Hid (w.cell? ⟨q, 3, none⟩ = some (.int .i64 b3))) (H_a : Hid (Holds Value.string w (.slice xa na ca) la)) (H_b : Hid (Holds Value.string w (.slice xb nb cb) lb)) (HL : Hid (la.length ≤ 9000000)) (HM : Hid (lb.length ≤ 9000000)) (HV : Hid (eqB la lb = false))
    (hQ : ∀ (u5 u6 u7 u8 u9 u10 u11 u12 u13 u14 u15 u16 : Value) (wx : World), Below w.heap.size w wx → Q .normal ⟨#[v0, v1, .pointer (some ⟨p, 0, none⟩), .pointer (some ⟨q, 0, none⟩), .bool false, u5, u6, u7, u8, u9, u10, u11, u12, u13, u14, u15, u16], []⟩ wx) :
    (Code.region 1 #[{ dst := some 5, op := Op.fieldAddr 31 (Operand.tmp 2) 0, type := 0, pos := "l07_want.go:107", after := #[], guard := none },
      { dst := some 6, op := Op.load 29 (Operand.tmp 5), type := 29, pos := "l07_want.go:107", after := #[{ on := 0, ground := Ground.data }], guard := none },
      { dst := some 7, op := Op.fieldAddr 31 (Operand.tmp 3) 0, type := 0, pos := "l07_want.go:107", after := #[], guard := none },
      { dst := some 8, op := Op.load 29 (Operand.tmp 7), type := 29, pos := "l07_want.go:107", after := #[{ on := 2, ground := Ground.data }], guard := none },
      { dst := some 9, op := Op.call { callee := Callee.value (Operand.func 65), args := #[Operand.tmp 6, Operand.tmp 8], argTypes := #[29, 29] }, type := 4, pos := "l07_want.go:107", after := #[{ on := 1, ground := Ground.data }, { on := 3, ground := Ground.data }], guard := none },
      { dst := some 10, op := Op.move (Operand.tmp 9), type := 4, pos := "l07_want.go:107", after := #[{ on := 4, ground := Ground.data }, { on := 4, ground := Ground.chain }], guard := none },
      { dst := some 11, op := Op.load 31 (Operand.tmp 2), type := 31, pos := "l07_want.go:107", after := #[{ on := 5, ground := Ground.guard }], guard := some (5, true) },
      { dst := some 12, op := Op.call { callee := Callee.value (Operand.func 58), args := #[Operand.tmp 11], argTypes := #[31] }, type := 68, pos := "l07_want.go:107", after := #[{ on := 6, ground := Ground.data }, { on := 5, ground := Ground.chain }, { on := 5, ground := Ground.guard }], guard := some (5, true) },
      { dst := some 13, op := Op.load 31 (Operand.tmp 3), type := 31, pos := "l07_want.go:107", after := #[{ on := 5, ground := Ground.guard }], guard := some (5, true) },
      { dst := some 14, op := Op.call { callee := Callee.value (Operand.func 58), args := #[Operand.tmp 13], argTypes := #[31] }, type := 68, pos := "l07_want.go:107", after := #[{ on := 8, ground := Ground.data }, { on := 7, ground := Ground.chain }, { on := 5, ground := Ground.guard }], guard := some (5, true) },
      { dst := some 15, op := Op.call { callee := Callee.value (Operand.func 66), args := #[Operand.tmp 12, Operand.tmp 14], argTypes := #[68, 68] }, type := 4, pos := "l07_want.go:107", after := #[{ on := 7, ground := Ground.data }, { on := 9, ground := Ground.data }, { on := 9, ground := Ground.chain }, { on := 5, ground := Ground.guard }], guard := some (5, true) },
      { dst := some 16, op := Op.pick (Operand.tmp 10) (Operand.tmp 15) (Operand.const (Value.bool false)), type := 4, pos := "l07_want.go:107", after := #[{ on := 5, ground := Ground.data }, { on := 10, ground := Ground.data }], guard := none },
      { dst := some 4, op := Op.assign (Operand.tmp 16), type := 4, pos := "l07_want.go:107", after := #[{ on := 11, ground := Ground.data }, { on := 10, ground := Ground.chain }, { on := 0, ground := Ground.phase }, { on := 1, ground := Ground.phase }, { on := 2, ground := Ground.phase }, { on := 3, ground := Ground.phase }, { on := 4, ground := Ground.phase }, { on := 5, ground := Ground.phase }, { on := 6, ground := Ground.phase }, { on := 7, ground := Ground.phase }, { on := 8, ground := Ground.phase }, { on := 9, ground := Ground.phase }, { on := 10, ground := Ground.phase }, { on := 11, ground := Ground.phase }], guard := none }] true).wp Try.prog Q ⟨#[v0, v1, .pointer (some ⟨p, 0, none⟩), .pointer (some ⟨q, 0, none⟩), v4, v5, v6, v7, v8, v9, v10, v11, v12, v13, v14, v15, v16], []⟩ w := by
  have HQ := Lib.hid hQ; clear hQ
  have hdr : Below w.heap.size w w.drew := (Below.refl _ _).drew
  have Hd_a := Lib.hid (H_a.out.on hdr)
  have Hd_b := Lib.hid (H_b.out.on hdr)
  replace K0 := Lib.hid ((hdr.cell (cell_lt K0.out)).trans K0.out)
  replace K1 := Lib.hid ((hdr.cell (cell_lt K1.out)).trans K1.out)
  replace K2 := Lib.hid ((hdr.cell (cell_lt K2.out)).trans K2.out)
  replace K3 := Lib.hid ((hdr.cell (cell_lt K3.out)).trans K3.out)
  replace M0 := Lib.hid ((hdr.cell (cell_lt M0.out)).trans M0.out)
  replace M1 := Lib.hid ((hdr.cell (cell_lt M1.out)).trans M1.out)
  replace M2 := Lib.hid ((hdr.cell (cell_lt M2.out)).trans M2.out)
  replace M3 := Lib.hid ((hdr.cell (cell_lt M3.out)).trans M3.out)
  have BB := Lib.hid hdr; clear hdr
  refine wp_region_noPanic ?_
  refine wp_region_held_drew (S := (fun w' => w'.cell? ⟨p, 0, none⟩ = some (.slice xa na ca) ∧ w'.cell? ⟨p, 1, none⟩ = some (.int .i64 a1) ∧ w'.cell? ⟨p, 2, none⟩ = some (.int .i64 a2) ∧ w'.cell? ⟨p, 3, none⟩ = some (.int .i64 a3) ∧ w'.cell? ⟨q, 0, none⟩ = some (.slice xb nb cb) ∧ w'.cell? ⟨q, 1, none⟩ = some (.int .i64 b1) ∧ w'.cell? ⟨q, 2, none⟩ = some (.int .i64 b2) ∧ w'.cell? ⟨q, 3, none⟩ = some (.int .i64 b3))) (by kernel_rfl) ?_ (fun hHeld => ?_)
  · exact ⟨K0.out, K1.out, K2.out, K3.out, M0.out, M1.out, M2.out, M3.out⟩
  refine wpAnyH_take (i := 0) (oi := { dst := some 5, op := Op.fieldAddr 31 (Operand.tmp 2) 0, type := 0, pos := "l07_want.go:107", after := #[], guard := none }) (v := ?_) rfl (by kernel_rfl) (by kernel_rfl) (by kernel_rfl) (fun _ _ _ h => h) (Or.inl ⟨by rfl, ?_⟩) (by assumption) ?_
  rotate_left
  · intro w' hSw; (try dsimp only at hSw); first | (go_simp; done) | (go_simp; with_reducible rfl)
  (try simp only [Act.put, List.setIfInBounds_toArray, List.set_cons_zero, List.set_cons_succ])
  refine wpAnyH_take (i := 1) (oi := { dst := some 6, op := Op.load 29 (Operand.tmp 5), type := 29, pos := "l07_want.go:107", after := #[{ on := 0, ground := Ground.data }], guard := none }) (v := ?_) rfl (by kernel_rfl) (by kernel_rfl) (by kernel_rfl) (fun _ _ _ h => h) (Or.inl ⟨by rfl, ?_⟩) (by assumption) ?_
  rotate_left
  · intro w' hSw; (try dsimp only at hSw); first | (go_simp; done) | (go_simp; with_reducible rfl)
  (try simp only [Act.put, List.setIfInBounds_toArray, List.set_cons_zero, List.set_cons_succ])
  refine wpAnyH_take (i := 2) (oi := { dst := some 7, op := Op.fieldAddr 31 (Operand.tmp 3) 0, type := 0, pos := "l07_want.go:107", after := #[], guard := none }) (v := ?_) rfl (by kernel_rfl) (by kernel_rfl) (by kernel_rfl) (fun _ _ _ h => h) (Or.inl ⟨by rfl, ?_⟩) (by assumption) ?_
  rotate_left
  · intro w' hSw; (try dsimp only at hSw); first | (go_simp; done) | (go_simp; with_reducible rfl)
  (try simp only [Act.put, List.setIfInBounds_toArray, List.set_cons_zero, List.set_cons_succ])
  refine wpAnyH_take (i := 3) (oi := { dst := some 8, op := Op.load 29 (Operand.tmp 7), type := 29, pos := "l07_want.go:107", after := #[{ on := 2, ground := Ground.data }], guard := none }) (v := ?_) rfl (by kernel_rfl) (by kernel_rfl) (by kernel_rfl) (fun _ _ _ h => h) (Or.inl ⟨by rfl, ?_⟩) (by assumption) ?_
  rotate_left
  · intro w' hSw; (try dsimp only at hSw); first | (go_simp; done) | (go_simp; with_reducible rfl)
  (try simp only [Act.put, List.setIfInBounds_toArray, List.set_cons_zero, List.set_cons_succ])
  refine wpAnyH_ready (rs := [4]) (by kernel_rfl) (by simp) ?_
  refine AllReadyH.cons (o := { dst := some 9, op := Op.call { callee := Callee.value (Operand.func 65), args := #[Operand.tmp 6, Operand.tmp 8], argTypes := #[29, 29] }, type := 4, pos := "l07_want.go:107", after := #[{ on := 1, ground := Ground.data }, { on := 3, ground := Ground.data }], guard := none }) rfl (fun K hK => ?_) AllReadyH.nil
  go_simp
  refine (eqNamesV false HV.out Hd_a.out Hd_b.out HL.out HM.out).mono ?_
  rintro e wx ⟨rfl, hb⟩
  replace Hd_a := Lib.hid (Hd_a.out.on hb)
  replace Hd_b := Lib.hid (Hd_b.out.on hb)
  replace K0 := Lib.hid ((hb.cell (cell_lt K0.out)).trans K0.out)
  replace K1 := Lib.hid ((hb.cell (cell_lt K1.out)).trans K1.out)
  replace K2 := Lib.hid ((hb.cell (cell_lt K2.out)).trans K2.out)
  replace K3 := Lib.hid ((hb.cell (cell_lt K3.out)).trans K3.out)
  replace M0 := Lib.hid ((hb.cell (cell_lt M0.out)).trans M0.out)
  replace M1 := Lib.hid ((hb.cell (cell_lt M1.out)).trans M1.out)
  replace M2 := Lib.hid ((hb.cell (cell_lt M2.out)).trans M2.out)
  replace M3 := Lib.hid ((hb.cell (cell_lt M3.out)).trans M3.out)
  replace BB := Lib.hid (BB.out.trans (hb.mono BB.out.size)); clear hb
  (try go_wp2_with fail)
  clear hHeld
  refine hK.out _ _ ?_ (fun hHeld => ?_)
  · (try dsimp only); exact ⟨K0.out, K1.out, K2.out, K3.out, M0.out, M1.out, M2.out, M3.out⟩
  clear hK K
  (try simp only [Act.put, List.setIfInBounds_toArray, List.set_cons_zero, List.set_cons_succ])
  refine wpAnyH_take (i := 5) (oi := { dst := some 10, op := Op.move (Operand.tmp 9), type := 4, pos := "l07_want.go:107", after := #[{ on := 4, ground := Ground.data }, { on := 4, ground := Ground.chain }], guard := none }) (v := ?_) rfl (by kernel_rfl) (by kernel_rfl) (by kernel_rfl) (fun _ _ _ h => h) (Or.inl ⟨by rfl, ?_⟩) (by assumption) ?_
  rotate_left
  · intro w' hSw; (try dsimp only at hSw); first | (go_simp; done) | (go_simp; with_reducible rfl)
  (try simp only [Act.put, List.setIfInBounds_toArray, List.set_cons_zero, List.set_cons_succ])
  refine wpAnyH_take (i := 6) (oi := { dst := some 11, op := Op.load 31 (Operand.tmp 2), type := 31, pos := "l07_want.go:107", after := #[{ on := 5, ground := Ground.guard }], guard := some (5, true) }) (v := undef) rfl (by kernel_rfl) (by kernel_rfl) (by kernel_rfl) (fun _ _ _ h => h) (Or.inr ⟨by rfl, rfl⟩) (by assumption) ?_
  (try simp only [Act.put, List.setIfInBounds_toArray, List.set_cons_zero, List.set_cons_succ])
  refine wpAnyH_take (i := 7) (oi := { dst := some 12, op := Op.call { callee := Callee.value (Operand.func 58), args := #[Operand.tmp 11], argTypes := #[31] }, type := 68, pos := "l07_want.go:107", after := #[{ on := 6, ground := Ground.data }, { on := 5, ground := Ground.chain }, { on := 5, ground := Ground.guard }], guard := some (5, true) }) (v := undef) rfl (by kernel_rfl) (by kernel_rfl) (by kernel_rfl) (fun _ _ _ h => h) (Or.inr ⟨by rfl, rfl⟩) (by assumption) ?_
  (try simp only [Act.put, List.setIfInBounds_toArray, List.set_cons_zero, List.set_cons_succ])
  refine wpAnyH_take (i := 8) (oi := { dst := some 13, op := Op.load 31 (Operand.tmp 3), type := 31, pos := "l07_want.go:107", after := #[{ on := 5, ground := Ground.guard }], guard := some (5, true) }) (v := undef) rfl (by kernel_rfl) (by kernel_rfl) (by kernel_rfl) (fun _ _ _ h => h) (Or.inr ⟨by rfl, rfl⟩) (by assumption) ?_
  (try simp only [Act.put, List.setIfInBounds_toArray, List.set_cons_zero, List.set_cons_succ])
  refine wpAnyH_take (i := 9) (oi := { dst := some 14, op := Op.call { callee := Callee.value (Operand.func 58), args := #[Operand.tmp 13], argTypes := #[31] }, type := 68, pos := "l07_want.go:107", after := #[{ on := 8, ground := Ground.data }, { on := 7, ground := Ground.chain }, { on := 5, ground := Ground.guard }], guard := some (5, true) }) (v := undef) rfl (by kernel_rfl) (by kernel_rfl) (by kernel_rfl) (fun _ _ _ h => h) (Or.inr ⟨by rfl, rfl⟩) (by assumption) ?_
  (try simp only [Act.put, List.setIfInBounds_toArray, List.set_cons_zero, List.set_cons_succ])
  refine wpAnyH_take (i := 10) (oi := { dst := some 15, op := Op.call { callee := Callee.value (Operand.func 66), args := #[Operand.tmp 12, Operand.tmp 14], argTypes := #[68, 68] }, type := 4, pos := "l07_want.go:107", after := #[{ on := 7, ground := Ground.data }, { on := 9, ground := Ground.data }, { on := 9, ground := Ground.chain }, { on := 5, ground := Ground.guard }], guard := some (5, true) }) (v := undef) rfl (by kernel_rfl) (by kernel_rfl) (by kernel_rfl) (fun _ _ _ h => h) (Or.inr ⟨by rfl, rfl⟩) (by assumption) ?_
  (try simp only [Act.put, List.setIfInBounds_toArray, List.set_cons_zero, List.set_cons_succ])
  refine wpAnyH_take (i := 11) (oi := { dst := some 16, op := Op.pick (Operand.tmp 10) (Operand.tmp 15) (Operand.const (Value.bool false)), type := 4, pos := "l07_want.go:107", after := #[{ on := 5, ground := Ground.data }, { on := 10, ground := Ground.data }], guard := none }) (v := ?_) rfl (by kernel_rfl) (by kernel_rfl) (by kernel_rfl) (fun _ _ _ h => h) (Or.inl ⟨by rfl, ?_⟩) (by assumption) ?_
  rotate_left
  · intro w' hSw; (try dsimp only at hSw); first | (go_simp; done) | (go_simp; with_reducible rfl)
  (try simp only [Act.put, List.setIfInBounds_toArray, List.set_cons_zero, List.set_cons_succ])
  refine wpAnyH_take (i := 12) (oi := { dst := some 4, op := Op.assign (Operand.tmp 16), type := 4, pos := "l07_want.go:107", after := #[{ on := 11, ground := Ground.data }, { on := 10, ground := Ground.chain }, { on := 0, ground := Ground.phase }, { on := 1, ground := Ground.phase }, { on := 2, ground := Ground.phase }, { on := 3, ground := Ground.phase }, { on := 4, ground := Ground.phase }, { on := 5, ground := Ground.phase }, { on := 6, ground := Ground.phase }, { on := 7, ground := Ground.phase }, { on := 8, ground := Ground.phase }, { on := 9, ground := Ground.phase }, { on := 10, ground := Ground.phase }, { on := 11, ground := Ground.phase }], guard := none }) (v := ?_) rfl (by kernel_rfl) (by kernel_rfl) (by kernel_rfl) (fun _ _ _ h => h) (Or.inl ⟨by rfl, ?_⟩) (by assumption) ?_
  rotate_left
  · intro w' hSw; (try dsimp only at hSw); first | (go_simp; done) | (go_simp; with_reducible rfl)
  (try simp only [Act.put, List.setIfInBounds_toArray, List.set_cons_zero, List.set_cons_succ])
  refine wpAnyH_done (by kernel_rfl) ?_ _
  exact NoPanic.normal (HQ.out _ _ _ _ _ _ _ _ _ _ _ _ _ BB.out)

set_option maxRecDepth 100000 in
set_option maxHeartbeats 4000000 in
theorem regW2 {Q : Exit → Act → World → Prop} {v0 v1 v4 v5 v6 v7 v8 v9 v10 v11 v12 v13 v14 v15 v16 : Value} {w : World} {z : Bool} {p q na ca nb cb : Nat} {xa xb : Option Addr} {a1 a2 a3 b1 b2 b3 : Int} {la lb : List ByteArray} (K0 : Hid (w.cell? ⟨p, 0, none⟩ = some (.slice xa na ca))) (K1 : Hid (w.cell? ⟨p, 1, none⟩ = some (.int .i64 a1))) (K2 : Hid (w.cell? ⟨p, 2, none⟩ = some (.int .i64 a2))) (K3 : Hid (w.cell? ⟨p, 3, none⟩ = some (.int .i64 a3))) (M0 : Hid (w.cell? ⟨q, 0, none⟩ = some (.slice xb nb cb))) (M1 : Hid (w.cell? ⟨q, 1, none⟩ = some (.int .i64 b1))) (M2 : Hid (w.cell? ⟨q, 2, none⟩ = some (.int .i64 b2))) (M3 : Hid (w.cell? ⟨q, 3, none⟩ = some (.int .i64 b3))) (H_a : Hid (Holds Value.string w (.slice xa na ca) la)) (H_b : Hid (Holds Value.string w (.slice xb nb cb) lb)) (HL : Hid (la.length ≤ 9000000)) (HM : Hid (lb.length ≤ 9000000)) (HV : Hid (eqB la lb = true)) (HZ : Hid (Sl.eqB [a1, a2, a3] [b1, b2, b3] = z))
    (hQ : ∀ (u5 u6 u7 u8 u9 u10 u11 u12 u13 u14 u15 u16 : Value) (wx : World), Below w.heap.size w wx → Q .normal ⟨#[v0, v1, .pointer (some ⟨p, 0, none⟩), .pointer (some ⟨q, 0, none⟩), .bool z, u5, u6, u7, u8, u9, u10, u11, u12, u13, u14, u15, u16], []⟩ wx) :
    (Code.region 1 #[{ dst := some 5, op := Op.fieldAddr 31 (Operand.tmp 2) 0, type := 0, pos := "l07_want.go:107", after := #[], guard := none },
      { dst := some 6, op := Op.load 29 (Operand.tmp 5), type := 29, pos := "l07_want.go:107", after := #[{ on := 0, ground := Ground.data }], guard := none },
      { dst := some 7, op := Op.fieldAddr 31 (Operand.tmp 3) 0, type := 0, pos := "l07_want.go:107", after := #[], guard := none },
      { dst := some 8, op := Op.load 29 (Operand.tmp 7), type := 29, pos := "l07_want.go:107", after := #[{ on := 2, ground := Ground.data }], guard := none },
      { dst := some 9, op := Op.call { callee := Callee.value (Operand.func 65), args := #[Operand.tmp 6, Operand.tmp 8], argTypes := #[29, 29] }, type := 4, pos := "l07_want.go:107", after := #[{ on := 1, ground := Ground.data }, { on := 3, ground := Ground.data }], guard := none },
      { dst := some 10, op := Op.move (Operand.tmp 9), type := 4, pos := "l07_want.go:107", after := #[{ on := 4, ground := Ground.data }, { on := 4, ground := Ground.chain }], guard := none },
      { dst := some 11, op := Op.load 31 (Operand.tmp 2), type := 31, pos := "l07_want.go:107", after := #[{ on := 5, ground := Ground.guard }], guard := some (5, true) },
      { dst := some 12, op := Op.call { callee := Callee.value (Operand.func 58), args := #[Operand.tmp 11], argTypes := #[31] }, type := 68, pos := "l07_want.go:107", after := #[{ on := 6, ground := Ground.data }, { on := 5, ground := Ground.chain }, { on := 5, ground := Ground.guard }], guard := some (5, true) },
      { dst := some 13, op := Op.load 31 (Operand.tmp 3), type := 31, pos := "l07_want.go:107", after := #[{ on := 5, ground := Ground.guard }], guard := some (5, true) },
      { dst := some 14, op := Op.call { callee := Callee.value (Operand.func 58), args := #[Operand.tmp 13], argTypes := #[31] }, type := 68, pos := "l07_want.go:107", after := #[{ on := 8, ground := Ground.data }, { on := 7, ground := Ground.chain }, { on := 5, ground := Ground.guard }], guard := some (5, true) },
      { dst := some 15, op := Op.call { callee := Callee.value (Operand.func 66), args := #[Operand.tmp 12, Operand.tmp 14], argTypes := #[68, 68] }, type := 4, pos := "l07_want.go:107", after := #[{ on := 7, ground := Ground.data }, { on := 9, ground := Ground.data }, { on := 9, ground := Ground.chain }, { on := 5, ground := Ground.guard }], guard := some (5, true) },
      { dst := some 16, op := Op.pick (Operand.tmp 10) (Operand.tmp 15) (Operand.const (Value.bool false)), type := 4, pos := "l07_want.go:107", after := #[{ on := 5, ground := Ground.data }, { on := 10, ground := Ground.data }], guard := none },
      { dst := some 4, op := Op.assign (Operand.tmp 16), type := 4, pos := "l07_want.go:107", after := #[{ on := 11, ground := Ground.data }, { on := 10, ground := Ground.chain }, { on := 0, ground := Ground.phase }, { on := 1, ground := Ground.phase }, { on := 2, ground := Ground.phase }, { on := 3, ground := Ground.phase }, { on := 4, ground := Ground.phase }, { on := 5, ground := Ground.phase }, { on := 6, ground := Ground.phase }, { on := 7, ground := Ground.phase }, { on := 8, ground := Ground.phase }, { on := 9, ground := Ground.phase }, { on := 10, ground := Ground.phase }, { on := 11, ground := Ground.phase }], guard := none }] true).wp Try.prog Q ⟨#[v0, v1, .pointer (some ⟨p, 0, none⟩), .pointer (some ⟨q, 0, none⟩), v4, v5, v6, v7, v8, v9, v10, v11, v12, v13, v14, v15, v16], []⟩ w := by
  have HQ := Lib.hid hQ; clear hQ
  have hdr : Below w.heap.size w w.drew := (Below.refl _ _).drew
  have Hd_a := Lib.hid (H_a.out.on hdr)
  have Hd_b := Lib.hid (H_b.out.on hdr)
  replace K0 := Lib.hid ((hdr.cell (cell_lt K0.out)).trans K0.out)
  replace K1 := Lib.hid ((hdr.cell (cell_lt K1.out)).trans K1.out)
  replace K2 := Lib.hid ((hdr.cell (cell_lt K2.out)).trans K2.out)
  replace K3 := Lib.hid ((hdr.cell (cell_lt K3.out)).trans K3.out)
  replace M0 := Lib.hid ((hdr.cell (cell_lt M0.out)).trans M0.out)
  replace M1 := Lib.hid ((hdr.cell (cell_lt M1.out)).trans M1.out)
  replace M2 := Lib.hid ((hdr.cell (cell_lt M2.out)).trans M2.out)
  replace M3 := Lib.hid ((hdr.cell (cell_lt M3.out)).trans M3.out)
  have BB := Lib.hid hdr; clear hdr
  refine wp_region_noPanic ?_
  refine wp_region_held_drew (S := (fun w' => w'.cell? ⟨p, 0, none⟩ = some (.slice xa na ca) ∧ w'.cell? ⟨p, 1, none⟩ = some (.int .i64 a1) ∧ w'.cell? ⟨p, 2, none⟩ = some (.int .i64 a2) ∧ w'.cell? ⟨p, 3, none⟩ = some (.int .i64 a3) ∧ w'.cell? ⟨q, 0, none⟩ = some (.slice xb nb cb) ∧ w'.cell? ⟨q, 1, none⟩ = some (.int .i64 b1) ∧ w'.cell? ⟨q, 2, none⟩ = some (.int .i64 b2) ∧ w'.cell? ⟨q, 3, none⟩ = some (.int .i64 b3))) (by kernel_rfl) ?_ (fun hHeld => ?_)
  · exact ⟨K0.out, K1.out, K2.out, K3.out, M0.out, M1.out, M2.out, M3.out⟩
  refine wpAnyH_take (i := 0) (oi := { dst := some 5, op := Op.fieldAddr 31 (Operand.tmp 2) 0, type := 0, pos := "l07_want.go:107", after := #[], guard := none }) (v := ?_) rfl (by kernel_rfl) (by kernel_rfl) (by kernel_rfl) (fun _ _ _ h => h) (Or.inl ⟨by rfl, ?_⟩) (by assumption) ?_
  rotate_left
  · intro w' hSw; (try dsimp only at hSw); first | (go_simp; done) | (go_simp; with_reducible rfl)
  (try simp only [Act.put, List.setIfInBounds_toArray, List.set_cons_zero, List.set_cons_succ])
  refine wpAnyH_take (i := 1) (oi := { dst := some 6, op := Op.load 29 (Operand.tmp 5), type := 29, pos := "l07_want.go:107", after := #[{ on := 0, ground := Ground.data }], guard := none }) (v := ?_) rfl (by kernel_rfl) (by kernel_rfl) (by kernel_rfl) (fun _ _ _ h => h) (Or.inl ⟨by rfl, ?_⟩) (by assumption) ?_
  rotate_left
  · intro w' hSw; (try dsimp only at hSw); first | (go_simp; done) | (go_simp; with_reducible rfl)
  (try simp only [Act.put, List.setIfInBounds_toArray, List.set_cons_zero, List.set_cons_succ])
  refine wpAnyH_take (i := 2) (oi := { dst := some 7, op := Op.fieldAddr 31 (Operand.tmp 3) 0, type := 0, pos := "l07_want.go:107", after := #[], guard := none }) (v := ?_) rfl (by kernel_rfl) (by kernel_rfl) (by kernel_rfl) (fun _ _ _ h => h) (Or.inl ⟨by rfl, ?_⟩) (by assumption) ?_
  rotate_left
  · intro w' hSw; (try dsimp only at hSw); first | (go_simp; done) | (go_simp; with_reducible rfl)
  (try simp only [Act.put, List.setIfInBounds_toArray, List.set_cons_zero, List.set_cons_succ])
  refine wpAnyH_take (i := 3) (oi := { dst := some 8, op := Op.load 29 (Operand.tmp 7), type := 29, pos := "l07_want.go:107", after := #[{ on := 2, ground := Ground.data }], guard := none }) (v := ?_) rfl (by kernel_rfl) (by kernel_rfl) (by kernel_rfl) (fun _ _ _ h => h) (Or.inl ⟨by rfl, ?_⟩) (by assumption) ?_
  rotate_left
  · intro w' hSw; (try dsimp only at hSw); first | (go_simp; done) | (go_simp; with_reducible rfl)
  (try simp only [Act.put, List.setIfInBounds_toArray, List.set_cons_zero, List.set_cons_succ])
  refine wpAnyH_ready (rs := [4]) (by kernel_rfl) (by simp) ?_
  refine AllReadyH.cons (o := { dst := some 9, op := Op.call { callee := Callee.value (Operand.func 65), args := #[Operand.tmp 6, Operand.tmp 8], argTypes := #[29, 29] }, type := 4, pos := "l07_want.go:107", after := #[{ on := 1, ground := Ground.data }, { on := 3, ground := Ground.data }], guard := none }) rfl (fun K hK => ?_) AllReadyH.nil
  go_simp
  refine (eqNamesV true HV.out Hd_a.out Hd_b.out HL.out HM.out).mono ?_
  rintro e wx ⟨rfl, hb⟩
  replace Hd_a := Lib.hid (Hd_a.out.on hb)
  replace Hd_b := Lib.hid (Hd_b.out.on hb)
  replace K0 := Lib.hid ((hb.cell (cell_lt K0.out)).trans K0.out)
  replace K1 := Lib.hid ((hb.cell (cell_lt K1.out)).trans K1.out)
  replace K2 := Lib.hid ((hb.cell (cell_lt K2.out)).trans K2.out)
  replace K3 := Lib.hid ((hb.cell (cell_lt K3.out)).trans K3.out)
  replace M0 := Lib.hid ((hb.cell (cell_lt M0.out)).trans M0.out)
  replace M1 := Lib.hid ((hb.cell (cell_lt M1.out)).trans M1.out)
  replace M2 := Lib.hid ((hb.cell (cell_lt M2.out)).trans M2.out)
  replace M3 := Lib.hid ((hb.cell (cell_lt M3.out)).trans M3.out)
  replace BB := Lib.hid (BB.out.trans (hb.mono BB.out.size)); clear hb
  (try go_wp2_with fail)
  clear hHeld
  refine hK.out _ _ ?_ (fun hHeld => ?_)
  · (try dsimp only); exact ⟨K0.out, K1.out, K2.out, K3.out, M0.out, M1.out, M2.out, M3.out⟩
  clear hK K
  (try simp only [Act.put, List.setIfInBounds_toArray, List.set_cons_zero, List.set_cons_succ])
  refine wpAnyH_take (i := 5) (oi := { dst := some 10, op := Op.move (Operand.tmp 9), type := 4, pos := "l07_want.go:107", after := #[{ on := 4, ground := Ground.data }, { on := 4, ground := Ground.chain }], guard := none }) (v := ?_) rfl (by kernel_rfl) (by kernel_rfl) (by kernel_rfl) (fun _ _ _ h => h) (Or.inl ⟨by rfl, ?_⟩) (by assumption) ?_
  rotate_left
  · intro w' hSw; (try dsimp only at hSw); first | (go_simp; done) | (go_simp; with_reducible rfl)
  (try simp only [Act.put, List.setIfInBounds_toArray, List.set_cons_zero, List.set_cons_succ])
  refine wpAnyH_take (i := 6) (oi := { dst := some 11, op := Op.load 31 (Operand.tmp 2), type := 31, pos := "l07_want.go:107", after := #[{ on := 5, ground := Ground.guard }], guard := some (5, true) }) (v := ?_) rfl (by kernel_rfl) (by kernel_rfl) (by kernel_rfl) (fun _ _ _ h => h) (Or.inl ⟨by rfl, ?_⟩) (by assumption) ?_
  rotate_left
  · intro w' hSw; (try dsimp only at hSw); first | (go_simp; done) | (go_simp; with_reducible rfl)
  (try simp only [Act.put, List.setIfInBounds_toArray, List.set_cons_zero, List.set_cons_succ])
  refine wpAnyH_take (i := 8) (oi := { dst := some 13, op := Op.load 31 (Operand.tmp 3), type := 31, pos := "l07_want.go:107", after := #[{ on := 5, ground := Ground.guard }], guard := some (5, true) }) (v := ?_) rfl (by kernel_rfl) (by kernel_rfl) (by kernel_rfl) (fun _ _ _ h => h) (Or.inl ⟨by rfl, ?_⟩) (by assumption) ?_
  rotate_left
  · intro w' hSw; (try dsimp only at hSw); first | (go_simp; done) | (go_simp; with_reducible rfl)
  (try simp only [Act.put, List.setIfInBounds_toArray, List.set_cons_zero, List.set_cons_succ])
  refine wpAnyH_ready (rs := [7]) (by kernel_rfl) (by simp) ?_
  refine AllReadyH.cons (o := { dst := some 12, op := Op.call { callee := Callee.value (Operand.func 58), args := #[Operand.tmp 11], argTypes := #[31] }, type := 68, pos := "l07_want.go:107", after := #[{ on := 6, ground := Ground.data }, { on := 5, ground := Ground.chain }, { on := 5, ground := Ground.guard }], guard := some (5, true) }) rfl (fun K hK => ?_) AllReadyH.nil
  go_simp
  refine (numbers (.slice xa na ca) a1 a2 a3 _ ⟨_, _, _, rfl⟩).mono ?_
  rintro e wx ⟨vx, rfl, hox, hb⟩
  obtain ⟨gx, cx, rfl, -⟩ := some3 hox
  have HX := Lib.hid hox.holds; clear hox
  replace Hd_a := Lib.hid (Hd_a.out.on hb)
  replace Hd_b := Lib.hid (Hd_b.out.on hb)
  replace K0 := Lib.hid ((hb.cell (cell_lt K0.out)).trans K0.out)
  replace K1 := Lib.hid ((hb.cell (cell_lt K1.out)).trans K1.out)
  replace K2 := Lib.hid ((hb.cell (cell_lt K2.out)).trans K2.out)
  replace K3 := Lib.hid ((hb.cell (cell_lt K3.out)).trans K3.out)
  replace M0 := Lib.hid ((hb.cell (cell_lt M0.out)).trans M0.out)
  replace M1 := Lib.hid ((hb.cell (cell_lt M1.out)).trans M1.out)
  replace M2 := Lib.hid ((hb.cell (cell_lt M2.out)).trans M2.out)
  replace M3 := Lib.hid ((hb.cell (cell_lt M3.out)).trans M3.out)
  replace BB := Lib.hid (BB.out.trans (hb.mono BB.out.size)); clear hb
  (try go_wp2_with fail)
  clear hHeld
  refine hK.out _ _ ?_ (fun hHeld => ?_)
  · (try dsimp only); exact ⟨K0.out, K1.out, K2.out, K3.out, M0.out, M1.out, M2.out, M3.out⟩
  clear hK K
  (try simp only [Act.put, List.setIfInBounds_toArray, List.set_cons_zero, List.set_cons_succ])
  refine wpAnyH_ready (rs := [9]) (by kernel_rfl) (by simp) ?_
  refine AllReadyH.cons (o := { dst := some 14, op := Op.call { callee := Callee.value (Operand.func 58), args := #[Operand.tmp 13], argTypes := #[31] }, type := 68, pos := "l07_want.go:107", after := #[{ on := 8, ground := Ground.data }, { on := 7, ground := Ground.chain }, { on := 5, ground := Ground.guard }], guard := some (5, true) }) rfl (fun K hK => ?_) AllReadyH.nil
  go_simp
  refine (numbers (.slice xb nb cb) b1 b2 b3 _ ⟨_, _, _, rfl⟩).mono ?_
  rintro e wx ⟨vy, rfl, hoy, hb⟩
  obtain ⟨gy, cy, rfl, -⟩ := some3 hoy
  have HY := Lib.hid hoy.holds; clear hoy
  replace HX := Lib.hid (HX.out.on hb)
  replace Hd_a := Lib.hid (Hd_a.out.on hb)
  replace Hd_b := Lib.hid (Hd_b.out.on hb)
  replace K0 := Lib.hid ((hb.cell (cell_lt K0.out)).trans K0.out)
  replace K1 := Lib.hid ((hb.cell (cell_lt K1.out)).trans K1.out)
  replace K2 := Lib.hid ((hb.cell (cell_lt K2.out)).trans K2.out)
  replace K3 := Lib.hid ((hb.cell (cell_lt K3.out)).trans K3.out)
  replace M0 := Lib.hid ((hb.cell (cell_lt M0.out)).trans M0.out)
  replace M1 := Lib.hid ((hb.cell (cell_lt M1.out)).trans M1.out)
  replace M2 := Lib.hid ((hb.cell (cell_lt M2.out)).trans M2.out)
  replace M3 := Lib.hid ((hb.cell (cell_lt M3.out)).trans M3.out)
  replace BB := Lib.hid (BB.out.trans (hb.mono BB.out.size)); clear hb
  (try go_wp2_with fail)
  clear hHeld
  refine hK.out _ _ ?_ (fun hHeld => ?_)
  · (try dsimp only); exact ⟨K0.out, K1.out, K2.out, K3.out, M0.out, M1.out, M2.out, M3.out⟩
  clear hK K
  (try simp only [Act.put, List.setIfInBounds_toArray, List.set_cons_zero, List.set_cons_succ])
  refine wpAnyH_ready (rs := [10]) (by kernel_rfl) (by simp) ?_
  refine AllReadyH.cons (o := { dst := some 15, op := Op.call { callee := Callee.value (Operand.func 66), args := #[Operand.tmp 12, Operand.tmp 14], argTypes := #[68, 68] }, type := 4, pos := "l07_want.go:107", after := #[{ on := 7, ground := Ground.data }, { on := 9, ground := Ground.data }, { on := 9, ground := Ground.chain }, { on := 5, ground := Ground.guard }], guard := some (5, true) }) rfl (fun K hK => ?_) AllReadyH.nil
  go_simp
  refine (eqIntsV z HZ.out HX.out HY.out (by simp) (by simp)).mono ?_
  rintro e wx ⟨rfl, hb⟩
  replace Hd_a := Lib.hid (Hd_a.out.on hb)
  replace Hd_b := Lib.hid (Hd_b.out.on hb)
  replace K0 := Lib.hid ((hb.cell (cell_lt K0.out)).trans K0.out)
  replace K1 := Lib.hid ((hb.cell (cell_lt K1.out)).trans K1.out)
  replace K2 := Lib.hid ((hb.cell (cell_lt K2.out)).trans K2.out)
  replace K3 := Lib.hid ((hb.cell (cell_lt K3.out)).trans K3.out)
  replace M0 := Lib.hid ((hb.cell (cell_lt M0.out)).trans M0.out)
  replace M1 := Lib.hid ((hb.cell (cell_lt M1.out)).trans M1.out)
  replace M2 := Lib.hid ((hb.cell (cell_lt M2.out)).trans M2.out)
  replace M3 := Lib.hid ((hb.cell (cell_lt M3.out)).trans M3.out)
  replace BB := Lib.hid (BB.out.trans (hb.mono BB.out.size)); clear hb
  (try go_wp2_with fail)
  clear hHeld
  refine hK.out _ _ ?_ (fun hHeld => ?_)
  · (try dsimp only); exact ⟨K0.out, K1.out, K2.out, K3.out, M0.out, M1.out, M2.out, M3.out⟩
  clear hK K
  (try simp only [Act.put, List.setIfInBounds_toArray, List.set_cons_zero, List.set_cons_succ])
  refine wpAnyH_take (i := 11) (oi := { dst := some 16, op := Op.pick (Operand.tmp 10) (Operand.tmp 15) (Operand.const (Value.bool false)), type := 4, pos := "l07_want.go:107", after := #[{ on := 5, ground := Ground.data }, { on := 10, ground := Ground.data }], guard := none }) (v := ?_) rfl (by kernel_rfl) (by kernel_rfl) (by kernel_rfl) (fun _ _ _ h => h) (Or.inl ⟨by rfl, ?_⟩) (by assumption) ?_
  rotate_left
  · intro w' hSw; (try dsimp only at hSw); first | (go_simp; done) | (go_simp; with_reducible rfl)
  (try simp only [Act.put, List.setIfInBounds_toArray, List.set_cons_zero, List.set_cons_succ])
  refine wpAnyH_take (i := 12) (oi := { dst := some 4, op := Op.assign (Operand.tmp 16), type := 4, pos := "l07_want.go:107", after := #[{ on := 11, ground := Ground.data }, { on := 10, ground := Ground.chain }, { on := 0, ground := Ground.phase }, { on := 1, ground := Ground.phase }, { on := 2, ground := Ground.phase }, { on := 3, ground := Ground.phase }, { on := 4, ground := Ground.phase }, { on := 5, ground := Ground.phase }, { on := 6, ground := Ground.phase }, { on := 7, ground := Ground.phase }, { on := 8, ground := Ground.phase }, { on := 9, ground := Ground.phase }, { on := 10, ground := Ground.phase }, { on := 11, ground := Ground.phase }], guard := none }) (v := ?_) rfl (by kernel_rfl) (by kernel_rfl) (by kernel_rfl) (fun _ _ _ h => h) (Or.inl ⟨by rfl, ?_⟩) (by assumption) ?_
  rotate_left
  · intro w' hSw; (try dsimp only at hSw); first | (go_simp; done) | (go_simp; with_reducible rfl)
  (try simp only [Act.put, List.setIfInBounds_toArray, List.set_cons_zero, List.set_cons_succ])
  refine wpAnyH_done (by kernel_rfl) ?_ _
  exact NoPanic.normal (HQ.out _ _ _ _ _ _ _ _ _ _ _ _ _ BB.out)

set_option maxHeartbeats 2000000 in
theorem implEqualInterests (v u : Value) (x y : Wt) (w : World) (q : Bool) (hq : decide (x = y) = q) (h : Holds Value.string w v x.1) (g : Holds Value.string w u y.1) (hl : x.1.length ≤ 9000000) (hm : y.1.length ≤ 9000000) :
    Calls Try.prog 37 #[.agg (wc v x.2.1 x.2.2.1 x.2.2.2), .agg (wc u y.2.1 y.2.2.1 y.2.2.2)] w fun e w' => e = .returned (.bool q) ∧ Below w.heap.size w w' := by
  obtain ⟨ps, a1, a2, a3⟩ := x
  obtain ⟨qs, b1, b2, b3⟩ := y
  simp only at h g hl hm ⊢
  obtain ⟨x, n, cap, rfl, -, hcap, hh⟩ := h.shapeN
  obtain ⟨y, m, cap', rfl, -, hcap', hg⟩ := g.shapeN
  have hb0 := (Below.refl w.heap.size w).alloc (Nat.le_refl _) (.cells (wc (.slice x n cap) a1 a2 a3) 31)
  have HB := Lib.hid (hb0.alloc (by simp) (.cells (wc (.slice y m cap') b1 b2 b3) 31))
  have HH := Lib.hid (hh.on HB.out); have HG := Lib.hid (hg.on HB.out)
  have X0 := Lib.hid ((Ret.Blk.new w (wc (.slice x n cap) a1 a2 a3) 31).on ((Below.refl _ _).alloc (Nat.le_refl _) (.cells (wc (.slice y m cap') b1 b2 b3) 31)))
  have X1 := Lib.hid (Ret.Blk.new' (w := w.alloc (.cells (wc (.slice x n cap) a1 a2 a3) 31)) (n := w.heap.size + 1) (wc (.slice y m cap') b1 b2 b3) 31 (by simp))
  have HQ := Lib.hid hq
  have HL := Lib.hid hl; have HM := Lib.hid hm
  clear hh hg h g hq hb0
  go_enter Try.func37, Try.ntmps37
  go_wp2_with fail
  by_cases he : ps = qs
  · obtain ⟨z, hz⟩ : ∃ z, Sl.eqB [a1, a2, a3] [b1, b2, b3] = z := ⟨_, rfl⟩
    have HE : Hid (q = z) := Lib.hid (by
      rw [← HQ.out, ← hz]
      simp [he, Sl.eqB])
    refine regW2 (Lib.hid (X0.out.cell 0)) (Lib.hid (X0.out.cell 1)) (Lib.hid (X0.out.cell 2)) (Lib.hid (X0.out.cell 3)) (Lib.hid (X1.out.cell 0)) (Lib.hid (X1.out.cell 1)) (Lib.hid (X1.out.cell 2)) (Lib.hid (X1.out.cell 3)) HH HG HL HM (Lib.hid (eqB_true he)) (Lib.hid hz) ?_
    intro u5 u6 u7 u8 u9 u10 u11 u12 u13 u14 u15 u16 wx hb
    have HB2 := Lib.hid (HB.out.trans (hb.mono HB.out.size))
    clear hb he hz
    go_wp2_with fail
    go_ret
    exact ⟨ret_bool HE.out.symm, HB2.out⟩
  · have HE : Hid (q = false) := Lib.hid (by rw [← HQ.out]; simp [he])
    refine regW1 (Lib.hid (X0.out.cell 0)) (Lib.hid (X0.out.cell 1)) (Lib.hid (X0.out.cell 2)) (Lib.hid (X0.out.cell 3)) (Lib.hid (X1.out.cell 0)) (Lib.hid (X1.out.cell 1)) (Lib.hid (X1.out.cell 2)) (Lib.hid (X1.out.cell 3)) HH HG HL HM (Lib.hid (eqB_false he)) ?_
    intro u5 u6 u7 u8 u9 u10 u11 u12 u13 u14 u15 u16 wx hb
    have HB2 := Lib.hid (HB.out.trans (hb.mono HB.out.size))
    clear hb he
    go_wp2_with fail
    go_ret
    exact ⟨ret_bool HE.out.symm, HB2.out⟩
end Go.Proofs.Ytnnhgcfelkcpfaa.Row
