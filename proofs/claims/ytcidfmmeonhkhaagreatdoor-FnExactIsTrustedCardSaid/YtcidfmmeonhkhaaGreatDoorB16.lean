/- Contracts and mathematics, joined: SealC, PortF, Sign. No conditions but those that each states. -/
import Derived.Test.YtcidfmmeonhkhaaGreatDoorB13
import Derived.Deep.RegionHeld3
import Derived.Test.YtcidfmmeonhkhaaGreatDoorB10
import Derived.Test.YtcidfmmeonhkhaaGreatDoorB15
/- Contracts of chapter 3's Encrypt, Decrypt and DeriveSecret, the reference model's, and the program's DeriveSecret. No conditions but that lengths fit and that the elements are bytes. -/
namespace Go.Proofs.YtcidfmmeonhkhaaGreatDoor.Sl
open Go.ChangeShapes Go.WideShapes Go.ChangeAt Go.RowKit Go.Instr
open Seal (digest mac b2i derive dstep chg encF decF enc dec)
set_option linter.unusedVariables false
set_option maxRecDepth 100000

end Go.Proofs.YtcidfmmeonhkhaaGreatDoor.Sl
/- SignedPortion of the model and of the program; the program's mac, clone and sign. No conditions but that lengths fit. -/
namespace Go.Proofs.YtcidfmmeonhkhaaGreatDoor.Row
open Go.ChangeShapes Go.WideShapes Go.ChangeAt Go.RowKit Go.Instr
set_option linter.unusedVariables false
set_option maxRecDepth 100000

set_option maxHeartbeats 4000000 in
theorem specSignedPortion (a b c : Value) (x : Dt) (w : World) (h : DHold w a b c x) (hB : Sl.Byt x.2.1) (hl : smD x) :
    Calls Tryz.prog 178 #[.agg (dc a b c x.2.2.2.1 x.2.2.2.2)] w (Sl.GivesI w (portD x)) := by
  obtain ⟨l, m, k, f, s⟩ := x
  simp only at hB ⊢
  have hl1 : bulk l ≤ 1200000 := hl.1
  have hl2 : m.length ≤ 1200000 := hl.2.1
  have hl3 : bulk k ≤ 1200000 := hl.2.2
  obtain ⟨xa, na, ca, xb, nb, cb, xc, nc, cc, rfl, rfl, rfl⟩ := h.shape
  have HY := Lib.hid hB; have HL1 := Lib.hid hl1; have HL2 := Lib.hid hl2; have HL3 := Lib.hid hl3
  have HB := Lib.hid ((Below.refl w.heap.size w).alloc (Nat.le_refl _) (.cells (dc (.slice xa na ca) (.slice xb nb cb) (.slice xc nc cc) f s) 34))
  have H0 := Lib.hid (h.on HB.out)
  have HX := Lib.hid (Ret.Blk.new w (dc (.slice xa na ca) (.slice xb nb cb) (.slice xc nc cc) f s) 34)
  have HLT := Lib.hid (show (Seal.b2i (appName [] l) ++ Seal.b2i m).length ≤ 12000000 by
    have h1 := pname_len [] l
    simp only [List.length_nil] at h1
    simp only [List.length_append, Seal.b2i_length]; omega)
  clear h hB hl hl1 hl2 hl3
  go_enter Tryz.func178, Tryz.ntmps178
  go_wp2_with fail
  refine portS1 (Lib.hid H0.out.1) (Lib.hid H0.out.2.1) HY HL1 HL2 (Lib.hid (HX.out.cell 0)) (Lib.hid (HX.out.cell 1)) (Lib.hid (HX.out.cell 2)) (Lib.hid (HX.out.cell 3)) (Lib.hid (HX.out.cell 4)) ?_
  intro u4 u5 u6 u7 u8 u9 u10 u11 u12 v12 wx ho hb
  have HO := Lib.hid ho
  have HB2 := Lib.hid (HB.out.trans (hb.mono HB.out.size))
  have HX2 := Lib.hid (HX.out.on hb)
  have H2 := Lib.hid (H0.out.on hb)
  have HW := Lib.hid hb.size
  have HP := Lib.hid (show w.heap.size < (w.alloc (.cells (dc (.slice xa na ca) (.slice xb nb cb) (.slice xc nc cc) f s) 34)).heap.size by simp)
  clear ho hb
  go_wp2_with fail
  refine portS2 (Lib.hid H2.out.2.2) HL3 HLT HO HW HP (Lib.hid (HX2.out.cell 0)) (Lib.hid (HX2.out.cell 1)) (Lib.hid (HX2.out.cell 2)) (Lib.hid (HX2.out.cell 3)) (Lib.hid (HX2.out.cell 4)) ?_
  intro u13 u14 u15 u16 u17 u18 u19 u20 u21 u22 u23 v23 w2 ho hb
  have HO2 := Lib.hid ho
  have HB3 := Lib.hid ((HB.out.trans ((Below.refl _ _).mono (Nat.le_refl _))))
  have HBX := Lib.hid hb
  clear ho hb
  go_wp2_with fail
  go_ret
  exact ⟨_, rfl, HO2.out.mono HB.out.size, HB2.out.trans (HBX.out.mono HB.out.size)⟩

set_option maxHeartbeats 4000000 in
theorem implPortion (g : Nat) (a b c : Value) (x : Dt) (w : World) (hx : Ret.Blk w g (dc a b c x.2.2.2.1 x.2.2.2.2) 34) (h : DHold w a b c x) (hB : Sl.Byt x.2.1) (hl : smD x) :
    Calls Tryz.prog 200 #[.pointer (some ⟨g, 0, none⟩)] w (Sl.GivesI w (portD x)) := by
  obtain ⟨l, m, k, f, s⟩ := x
  simp only at hB hx ⊢
  have hl1 : bulk l ≤ 1200000 := hl.1
  have hl2 : m.length ≤ 1200000 := hl.2.1
  have hl3 : bulk k ≤ 1200000 := hl.2.2
  obtain ⟨xa, na, ca, xb, nb, cb, xc, nc, cc, rfl, rfl, rfl⟩ := h.shape
  have HY := Lib.hid hB; have HL1 := Lib.hid hl1; have HL2 := Lib.hid hl2; have HL3 := Lib.hid hl3
  have H0 := Lib.hid h
  have HX := Lib.hid hx
  have HLT := Lib.hid (show (Seal.b2i (appName [] l) ++ Seal.b2i m ++ Seal.b2i (appName [] k) ++ [f]).length ≤ 10000000 from Nat.le_trans (portD_small (l, m, k, f, s)) (by show 1000 + m.length ≤ _; omega))
  clear h hx hB hl hl1 hl2 hl3
  go_enter Tryz.func200, Tryz.ntmps200
  go_wp2_with fail
  refine portI (Lib.hid H0.out.1) (Lib.hid H0.out.2.1) HY HL1 HL2 (Lib.hid H0.out.2.2) HL3 HLT (Lib.hid (HX.out.cell 0)) (Lib.hid (HX.out.cell 1)) (Lib.hid (HX.out.cell 2)) (Lib.hid (HX.out.cell 3)) (Lib.hid (HX.out.cell 4)) ?_
  intro u3 u4 u5 u6 u7 u8 u9 u10 u11 u12 u13 u14 u15 u16 u17 u18 u19 u20 u21 u22 u23 u24 u25 u26 v26 w2 ho hb
  have HO2 := Lib.hid ho
  have HB2 := Lib.hid hb
  clear ho hb
  go_wp2_with fail
  go_ret
  exact ⟨_, rfl, HO2.out, HB2.out⟩

set_option maxHeartbeats 4000000 in
theorem implMac (g : Nat) (a b c : Value) (x : Dt) (w : World) (hx : Ret.Blk w g (dc a b c x.2.2.2.1 x.2.2.2.2) 34) (h : DHold w a b c x) (hB : Sl.Byt x.2.1) (hl : smD x) (t : Int) :
    Calls Tryz.prog 156 #[.pointer (some ⟨g, 0, none⟩), .int .i64 t] w (Sl.GivesN w (Seal.mac t (portD x))) := by
  have HC := Lib.hid (implPortion g a b c x w hx h hB hl)
  have HLN := Lib.hid (show (portD x).length ≤ 9000000 from Nat.le_trans (portD_small x) (by have := hl.2.1; omega))
  clear h hB hx hl
  go_enter Tryz.func156, Tryz.ntmps156
  go_wp2_with fail
  refine HC.out.mono ?_
  rintro e w1 ⟨v1, rfl, ho, hb⟩
  have HO := Lib.hid ho.holds; have HB2 := Lib.hid hb
  clear ho hb
  go_wp2_with fail
  refine (Sl.implComputeMAC t _ (portD x) _ HO.out HLN.out).mono ?_
  rintro e w2 ⟨rfl, hb⟩
  have HB3 := Lib.hid (HB2.out.trans (hb.mono HB2.out.size)); clear hb
  go_wp2_with fail
  go_ret
  exact ⟨rfl, HB3.out⟩

end Go.Proofs.YtcidfmmeonhkhaaGreatDoor.Row
/- SignData and VerifyData, model and program. No conditions but that lengths fit. -/
namespace Go.Proofs.YtcidfmmeonhkhaaGreatDoor.Row
open Go.ChangeShapes Go.WideShapes Go.ChangeAt Go.RowKit Go.Instr
set_option linter.unusedVariables false
set_option maxRecDepth 100000

/-- x, signed with t. -/
def sgD (t : Int) (x : Dt) : Dt := (x.1, x.2.1, x.2.2.1, x.2.2.2.1, Seal.mac t (portD x))
def verD (t : Int) (x : Dt) : Bool := Num.inB t 1 2147483646 && (x.2.2.2.2 == Seal.mac t (portD x))
theorem sSecV {t : Int} (z : Bool) (hz : Num.inB t 1 2147483646 = z) {w : World} : Calls Tryz.prog 146 #[.int .i64 t] w fun e w' => e = .returned (.bool z) ∧ Below w.heap.size w w' := (Sl.specValidSecret t w).mono fun e w' ⟨p, q⟩ => ⟨by rw [p, hz], by subst q; exact Below.refl _ _⟩
theorem iSecV {t : Int} (z : Bool) (hz : Num.inB t 1 2147483646 = z) {w : World} : Calls Tryz.prog 155 #[.int .i64 t] w fun e w' => e = .returned (.bool z) ∧ Below w.heap.size w w' := (Sl.implValidSecret t w).mono fun e w' ⟨p, q⟩ => ⟨by rw [p, hz], by subst q; exact Below.refl _ _⟩
theorem sMacV {t : Int} (M : Int) {l : List Int} (hM : Seal.mac t l = M) {v : Value} {w : World} (h : Sl.Holds .i64 w v l) (hl : l.length ≤ 9000000) : Calls Tryz.prog 177 #[.int .i64 t, v] w fun e w' => e = .returned (.int .i64 M) ∧ Below w.heap.size w w' := (Sl.specComputeMAC t v l w h (by omega)).mono fun e w' ⟨p, q⟩ => ⟨by rw [p, hM], q⟩
theorem iMacV {t : Int} (M : Int) {x : Dt} (hM : Seal.mac t (portD x) = M) {g : Nat} {a b c : Value} {w : World} (hx : Ret.Blk w g (dc a b c x.2.2.2.1 x.2.2.2.2) 34) (h : DHold w a b c x) (hB : Sl.Byt x.2.1) (hl : smD x) : Calls Tryz.prog 156 #[.pointer (some ⟨g, 0, none⟩), .int .i64 t] w fun e w' => e = .returned (.int .i64 M) ∧ Below w.heap.size w w' := (implMac g a b c x w hx h hB hl t).mono fun e w' ⟨p, q⟩ => ⟨by rw [p, hM], q⟩
theorem own_row {α : Type} [Inhabited α] {enc : α → Value} {e : TypeId} {B g : Nat} {w w' : World} {v : Value} {l : List α} (h : Own e enc B w v l) (hg : w.grownBy w' (some g)) (hn : w.heap.size ≤ g ∨ ∀ q, v.ownBlock = some q → q ≠ g) : Own e enc B w' v l := by
  refine h.grown hg ?_
  cases hv : v.ownBlock with
  | none => exact Or.inl rfl
  | some q =>
    refine Or.inr fun e => ?_
    have h1 := (h.lt q hv).2
    have h2 : q = g := Option.some.inj e
    rcases hn with hn | hn
    · omega
    · exact hn q hv h2

set_option maxRecDepth 100000 in
set_option maxHeartbeats 4000000 in
theorem verspec0 {Q : Exit → Act → World → Prop} {v1 v2 v4 v5 v6 v7 v8 v9 v10 v11 v12 v13 v14 v15 : Value} {w : World} {p : Nat} {t : Int} (HS : Hid (Num.inB t 1 2147483646 = false)) 
    (hQ : ∀ (u5 u6 u7 u8 u9 u10 u11 u12 u13 u14 u15 : Value)  (wx : World), Below w.heap.size w wx → Q .normal ⟨#[.int .i64 t, v1, v2, .pointer (some ⟨p, 0, none⟩), .bool false, u5, u6, u7, u8, u9, u10, u11, u12, u13, u14, u15], []⟩ wx) :
    (Code.region 1 #[{ dst := some 5, op := Op.move (Operand.tmp 0), type := 3, pos := "l08_thing.go:21", after := #[], guard := none },
      { dst := some 6, op := Op.call { callee := Callee.value (Operand.func 146), args := #[Operand.tmp 5], argTypes := #[3] }, type := 4, pos := "l08_thing.go:21", after := #[{ on := 0, ground := Ground.data }], guard := none },
      { dst := some 7, op := Op.move (Operand.tmp 6), type := 4, pos := "l08_thing.go:21", after := #[{ on := 1, ground := Ground.data }, { on := 1, ground := Ground.chain }], guard := none },
      { dst := some 8, op := Op.fieldAddr 34 (Operand.tmp 3) 4, type := 0, pos := "l08_thing.go:21", after := #[{ on := 2, ground := Ground.guard }], guard := some (2, true) },
      { dst := some 9, op := Op.load 3 (Operand.tmp 8), type := 3, pos := "l08_thing.go:21", after := #[{ on := 3, ground := Ground.data }, { on := 2, ground := Ground.guard }], guard := some (2, true) },
      { dst := some 10, op := Op.move (Operand.tmp 0), type := 3, pos := "l08_thing.go:21", after := #[{ on := 2, ground := Ground.guard }], guard := some (2, true) },
      { dst := some 11, op := Op.load 34 (Operand.tmp 3), type := 34, pos := "l08_thing.go:21", after := #[{ on := 2, ground := Ground.guard }], guard := some (2, true) },
      { dst := some 12, op := Op.call { callee := Callee.value (Operand.func 178), args := #[Operand.tmp 11], argTypes := #[34] }, type := 97, pos := "l08_thing.go:21", after := #[{ on := 6, ground := Ground.data }, { on := 2, ground := Ground.chain }, { on := 2, ground := Ground.guard }], guard := some (2, true) },
      { dst := some 13, op := Op.call { callee := Callee.value (Operand.func 177), args := #[Operand.tmp 10, Operand.tmp 12], argTypes := #[3, 97] }, type := 3, pos := "l08_thing.go:21", after := #[{ on := 5, ground := Ground.data }, { on := 7, ground := Ground.data }, { on := 7, ground := Ground.chain }, { on := 2, ground := Ground.guard }], guard := some (2, true) },
      { dst := some 14, op := Op.binOp BinOp.eql 3 (Operand.tmp 9) (Operand.tmp 13) 3, type := 4, pos := "l08_thing.go:21", after := #[{ on := 4, ground := Ground.data }, { on := 8, ground := Ground.data }, { on := 2, ground := Ground.guard }], guard := some (2, true) },
      { dst := some 15, op := Op.pick (Operand.tmp 7) (Operand.tmp 14) (Operand.const (Value.bool false)), type := 4, pos := "l08_thing.go:21", after := #[{ on := 2, ground := Ground.data }, { on := 9, ground := Ground.data }], guard := none },
      { dst := some 4, op := Op.assign (Operand.tmp 15), type := 4, pos := "l08_thing.go:21", after := #[{ on := 10, ground := Ground.data }, { on := 8, ground := Ground.chain }, { on := 0, ground := Ground.phase }, { on := 1, ground := Ground.phase }, { on := 2, ground := Ground.phase }, { on := 3, ground := Ground.phase }, { on := 4, ground := Ground.phase }, { on := 5, ground := Ground.phase }, { on := 6, ground := Ground.phase }, { on := 7, ground := Ground.phase }, { on := 8, ground := Ground.phase }, { on := 9, ground := Ground.phase }, { on := 10, ground := Ground.phase }], guard := none }] true).wp Tryz.prog Q ⟨#[.int .i64 t, v1, v2, .pointer (some ⟨p, 0, none⟩), v4, v5, v6, v7, v8, v9, v10, v11, v12, v13, v14, v15], []⟩ w := by
  have HQ := Lib.hid hQ; clear hQ
  have hdr : Below w.heap.size w w.drew := (Below.refl _ _).drew
  have BB := Lib.hid hdr
  refine wp_region_noPanic ?_
  refine wp_region_held_drew (S := (fun w' => True)) (by kernel_rfl) ?_ (fun hHeld => ?_)
  · trivial
  clear hdr
  generalize w.drew = wd at *
  refine wpAnyH_take (i := 0) (oi := { dst := some 5, op := Op.move (Operand.tmp 0), type := 3, pos := "l08_thing.go:21", after := #[], guard := none }) (v := ?_) rfl (by kernel_rfl) (by kernel_rfl) (by kernel_rfl) (fun _ _ _ h => h) (Or.inl ⟨by rfl, ?_⟩) (by assumption) ?_
  rotate_left
  · intro w' hSw; (try dsimp only at hSw); first | (go_simp; done) | (go_simp; with_reducible rfl)
  (try simp only [Act.put, List.setIfInBounds_toArray, List.set_cons_zero, List.set_cons_succ])
  refine wpAnyH_ready (rs := [1]) (by kernel_rfl) (by simp) ?_
  refine AllReadyH.cons (o := { dst := some 6, op := Op.call { callee := Callee.value (Operand.func 146), args := #[Operand.tmp 5], argTypes := #[3] }, type := 4, pos := "l08_thing.go:21", after := #[{ on := 0, ground := Ground.data }], guard := none }) rfl (fun K hK => ?_) AllReadyH.nil
  go_simp
  refine (sSecV false HS.out).mono ?_
  rintro e wn1 ⟨rfl, hb⟩
  replace BB := Lib.hid (BB.out.trans (hb.mono BB.out.size))
  clear hb
  (try go_wp2_with fail)
  clear hHeld
  refine hK.out _ _ ?_ (fun hHeld => ?_)
  · trivial
  clear hK K
  (try simp only [Act.put, List.setIfInBounds_toArray, List.set_cons_zero, List.set_cons_succ])
  refine wpAnyH_take (i := 2) (oi := { dst := some 7, op := Op.move (Operand.tmp 6), type := 4, pos := "l08_thing.go:21", after := #[{ on := 1, ground := Ground.data }, { on := 1, ground := Ground.chain }], guard := none }) (v := ?_) rfl (by kernel_rfl) (by kernel_rfl) (by kernel_rfl) (fun _ _ _ h => h) (Or.inl ⟨by rfl, ?_⟩) (by assumption) ?_
  rotate_left
  · intro w' hSw; (try dsimp only at hSw); first | (go_simp; done) | (go_simp; with_reducible rfl)
  (try simp only [Act.put, List.setIfInBounds_toArray, List.set_cons_zero, List.set_cons_succ])
  refine wpAnyH_take (i := 3) (oi := { dst := some 8, op := Op.fieldAddr 34 (Operand.tmp 3) 4, type := 0, pos := "l08_thing.go:21", after := #[{ on := 2, ground := Ground.guard }], guard := some (2, true) }) (v := undef) rfl (by kernel_rfl) (by kernel_rfl) (by kernel_rfl) (fun _ _ _ h => h) (Or.inr ⟨by rfl, rfl⟩) (by assumption) ?_
  (try simp only [Act.put, List.setIfInBounds_toArray, List.set_cons_zero, List.set_cons_succ])
  refine wpAnyH_take (i := 4) (oi := { dst := some 9, op := Op.load 3 (Operand.tmp 8), type := 3, pos := "l08_thing.go:21", after := #[{ on := 3, ground := Ground.data }, { on := 2, ground := Ground.guard }], guard := some (2, true) }) (v := undef) rfl (by kernel_rfl) (by kernel_rfl) (by kernel_rfl) (fun _ _ _ h => h) (Or.inr ⟨by rfl, rfl⟩) (by assumption) ?_
  (try simp only [Act.put, List.setIfInBounds_toArray, List.set_cons_zero, List.set_cons_succ])
  refine wpAnyH_take (i := 5) (oi := { dst := some 10, op := Op.move (Operand.tmp 0), type := 3, pos := "l08_thing.go:21", after := #[{ on := 2, ground := Ground.guard }], guard := some (2, true) }) (v := undef) rfl (by kernel_rfl) (by kernel_rfl) (by kernel_rfl) (fun _ _ _ h => h) (Or.inr ⟨by rfl, rfl⟩) (by assumption) ?_
  (try simp only [Act.put, List.setIfInBounds_toArray, List.set_cons_zero, List.set_cons_succ])
  refine wpAnyH_take (i := 6) (oi := { dst := some 11, op := Op.load 34 (Operand.tmp 3), type := 34, pos := "l08_thing.go:21", after := #[{ on := 2, ground := Ground.guard }], guard := some (2, true) }) (v := undef) rfl (by kernel_rfl) (by kernel_rfl) (by kernel_rfl) (fun _ _ _ h => h) (Or.inr ⟨by rfl, rfl⟩) (by assumption) ?_
  (try simp only [Act.put, List.setIfInBounds_toArray, List.set_cons_zero, List.set_cons_succ])
  refine wpAnyH_take (i := 7) (oi := { dst := some 12, op := Op.call { callee := Callee.value (Operand.func 178), args := #[Operand.tmp 11], argTypes := #[34] }, type := 97, pos := "l08_thing.go:21", after := #[{ on := 6, ground := Ground.data }, { on := 2, ground := Ground.chain }, { on := 2, ground := Ground.guard }], guard := some (2, true) }) (v := undef) rfl (by kernel_rfl) (by kernel_rfl) (by kernel_rfl) (fun _ _ _ h => h) (Or.inr ⟨by rfl, rfl⟩) (by assumption) ?_
  (try simp only [Act.put, List.setIfInBounds_toArray, List.set_cons_zero, List.set_cons_succ])
  refine wpAnyH_take (i := 8) (oi := { dst := some 13, op := Op.call { callee := Callee.value (Operand.func 177), args := #[Operand.tmp 10, Operand.tmp 12], argTypes := #[3, 97] }, type := 3, pos := "l08_thing.go:21", after := #[{ on := 5, ground := Ground.data }, { on := 7, ground := Ground.data }, { on := 7, ground := Ground.chain }, { on := 2, ground := Ground.guard }], guard := some (2, true) }) (v := undef) rfl (by kernel_rfl) (by kernel_rfl) (by kernel_rfl) (fun _ _ _ h => h) (Or.inr ⟨by rfl, rfl⟩) (by assumption) ?_
  (try simp only [Act.put, List.setIfInBounds_toArray, List.set_cons_zero, List.set_cons_succ])
  refine wpAnyH_take (i := 9) (oi := { dst := some 14, op := Op.binOp BinOp.eql 3 (Operand.tmp 9) (Operand.tmp 13) 3, type := 4, pos := "l08_thing.go:21", after := #[{ on := 4, ground := Ground.data }, { on := 8, ground := Ground.data }, { on := 2, ground := Ground.guard }], guard := some (2, true) }) (v := undef) rfl (by kernel_rfl) (by kernel_rfl) (by kernel_rfl) (fun _ _ _ h => h) (Or.inr ⟨by rfl, rfl⟩) (by assumption) ?_
  (try simp only [Act.put, List.setIfInBounds_toArray, List.set_cons_zero, List.set_cons_succ])
  refine wpAnyH_take (i := 10) (oi := { dst := some 15, op := Op.pick (Operand.tmp 7) (Operand.tmp 14) (Operand.const (Value.bool false)), type := 4, pos := "l08_thing.go:21", after := #[{ on := 2, ground := Ground.data }, { on := 9, ground := Ground.data }], guard := none }) (v := ?_) rfl (by kernel_rfl) (by kernel_rfl) (by kernel_rfl) (fun _ _ _ h => h) (Or.inl ⟨by rfl, ?_⟩) (by assumption) ?_
  rotate_left
  · intro w' hSw; (try dsimp only at hSw); first | (go_simp; done) | (go_simp; with_reducible rfl)
  (try simp only [Act.put, List.setIfInBounds_toArray, List.set_cons_zero, List.set_cons_succ])
  refine wpAnyH_take (i := 11) (oi := { dst := some 4, op := Op.assign (Operand.tmp 15), type := 4, pos := "l08_thing.go:21", after := #[{ on := 10, ground := Ground.data }, { on := 8, ground := Ground.chain }, { on := 0, ground := Ground.phase }, { on := 1, ground := Ground.phase }, { on := 2, ground := Ground.phase }, { on := 3, ground := Ground.phase }, { on := 4, ground := Ground.phase }, { on := 5, ground := Ground.phase }, { on := 6, ground := Ground.phase }, { on := 7, ground := Ground.phase }, { on := 8, ground := Ground.phase }, { on := 9, ground := Ground.phase }, { on := 10, ground := Ground.phase }], guard := none }) (v := ?_) rfl (by kernel_rfl) (by kernel_rfl) (by kernel_rfl) (fun _ _ _ h => h) (Or.inl ⟨by rfl, ?_⟩) (by assumption) ?_
  rotate_left
  · intro w' hSw; (try dsimp only at hSw); first | (go_simp; done) | (go_simp; with_reducible rfl)
  (try simp only [Act.put, List.setIfInBounds_toArray, List.set_cons_zero, List.set_cons_succ])
  refine wpAnyH_done (by kernel_rfl) ?_ _
  exact NoPanic.normal (HQ.out _ _ _ _ _ _ _ _ _ _ _  _  BB.out)

set_option maxRecDepth 100000 in
set_option maxHeartbeats 4000000 in
theorem verspec1 {Q : Exit → Act → World → Prop} {v1 v2 v4 v5 v6 v7 v8 v9 v10 v11 v12 v13 v14 v15 : Value} {w : World} {p na ca nb cb nc cc : Nat} {xa xb xc : Option Addr} {f s t : Int} {la lc : List ByteArray} {lb : List Int} {M : Int} {z : Bool} (HS : Hid (Num.inB t 1 2147483646 = true)) (HD : Hid (DHold w (.slice xa na ca) (.slice xb nb cb) (.slice xc nc cc) (la, lb, lc, f, s))) (HBY : Hid (Sl.Byt lb)) (HL : Hid (smD (la, lb, lc, f, s))) (HM : Hid (Seal.mac t (portD (la, lb, lc, f, s)) = M)) (HZ : Hid ((s == M) = z)) (K0 : Hid (w.cell? ⟨p, 0, none⟩ = some (.slice xa na ca))) (K1 : Hid (w.cell? ⟨p, 1, none⟩ = some (.slice xb nb cb))) (K2 : Hid (w.cell? ⟨p, 2, none⟩ = some (.slice xc nc cc))) (K3 : Hid (w.cell? ⟨p, 3, none⟩ = some (.int .i64 f))) (K4 : Hid (w.cell? ⟨p, 4, none⟩ = some (.int .i64 s)))
    (hQ : ∀ (u5 u6 u7 u8 u9 u10 u11 u12 u13 u14 u15 : Value)  (wx : World), Below w.heap.size w wx → Q .normal ⟨#[.int .i64 t, v1, v2, .pointer (some ⟨p, 0, none⟩), .bool z, u5, u6, u7, u8, u9, u10, u11, u12, u13, u14, u15], []⟩ wx) :
    (Code.region 1 #[{ dst := some 5, op := Op.move (Operand.tmp 0), type := 3, pos := "l08_thing.go:21", after := #[], guard := none },
      { dst := some 6, op := Op.call { callee := Callee.value (Operand.func 146), args := #[Operand.tmp 5], argTypes := #[3] }, type := 4, pos := "l08_thing.go:21", after := #[{ on := 0, ground := Ground.data }], guard := none },
      { dst := some 7, op := Op.move (Operand.tmp 6), type := 4, pos := "l08_thing.go:21", after := #[{ on := 1, ground := Ground.data }, { on := 1, ground := Ground.chain }], guard := none },
      { dst := some 8, op := Op.fieldAddr 34 (Operand.tmp 3) 4, type := 0, pos := "l08_thing.go:21", after := #[{ on := 2, ground := Ground.guard }], guard := some (2, true) },
      { dst := some 9, op := Op.load 3 (Operand.tmp 8), type := 3, pos := "l08_thing.go:21", after := #[{ on := 3, ground := Ground.data }, { on := 2, ground := Ground.guard }], guard := some (2, true) },
      { dst := some 10, op := Op.move (Operand.tmp 0), type := 3, pos := "l08_thing.go:21", after := #[{ on := 2, ground := Ground.guard }], guard := some (2, true) },
      { dst := some 11, op := Op.load 34 (Operand.tmp 3), type := 34, pos := "l08_thing.go:21", after := #[{ on := 2, ground := Ground.guard }], guard := some (2, true) },
      { dst := some 12, op := Op.call { callee := Callee.value (Operand.func 178), args := #[Operand.tmp 11], argTypes := #[34] }, type := 97, pos := "l08_thing.go:21", after := #[{ on := 6, ground := Ground.data }, { on := 2, ground := Ground.chain }, { on := 2, ground := Ground.guard }], guard := some (2, true) },
      { dst := some 13, op := Op.call { callee := Callee.value (Operand.func 177), args := #[Operand.tmp 10, Operand.tmp 12], argTypes := #[3, 97] }, type := 3, pos := "l08_thing.go:21", after := #[{ on := 5, ground := Ground.data }, { on := 7, ground := Ground.data }, { on := 7, ground := Ground.chain }, { on := 2, ground := Ground.guard }], guard := some (2, true) },
      { dst := some 14, op := Op.binOp BinOp.eql 3 (Operand.tmp 9) (Operand.tmp 13) 3, type := 4, pos := "l08_thing.go:21", after := #[{ on := 4, ground := Ground.data }, { on := 8, ground := Ground.data }, { on := 2, ground := Ground.guard }], guard := some (2, true) },
      { dst := some 15, op := Op.pick (Operand.tmp 7) (Operand.tmp 14) (Operand.const (Value.bool false)), type := 4, pos := "l08_thing.go:21", after := #[{ on := 2, ground := Ground.data }, { on := 9, ground := Ground.data }], guard := none },
      { dst := some 4, op := Op.assign (Operand.tmp 15), type := 4, pos := "l08_thing.go:21", after := #[{ on := 10, ground := Ground.data }, { on := 8, ground := Ground.chain }, { on := 0, ground := Ground.phase }, { on := 1, ground := Ground.phase }, { on := 2, ground := Ground.phase }, { on := 3, ground := Ground.phase }, { on := 4, ground := Ground.phase }, { on := 5, ground := Ground.phase }, { on := 6, ground := Ground.phase }, { on := 7, ground := Ground.phase }, { on := 8, ground := Ground.phase }, { on := 9, ground := Ground.phase }, { on := 10, ground := Ground.phase }], guard := none }] true).wp Tryz.prog Q ⟨#[.int .i64 t, v1, v2, .pointer (some ⟨p, 0, none⟩), v4, v5, v6, v7, v8, v9, v10, v11, v12, v13, v14, v15], []⟩ w := by
  have HQ := Lib.hid hQ; clear hQ
  have hdr : Below w.heap.size w w.drew := (Below.refl _ _).drew
  have tz := HZ.out
  have BB := Lib.hid hdr
  refine wp_region_noPanic ?_
  refine wp_region_held_drew (S := (fun w' => w'.cell? ⟨p, 0, none⟩ = some (.slice xa na ca) ∧ w'.cell? ⟨p, 1, none⟩ = some (.slice xb nb cb) ∧ w'.cell? ⟨p, 2, none⟩ = some (.slice xc nc cc) ∧ w'.cell? ⟨p, 3, none⟩ = some (.int .i64 f) ∧ w'.cell? ⟨p, 4, none⟩ = some (.int .i64 s))) (by kernel_rfl) ?_ (fun hHeld => ?_)
  · exact ⟨kc K0.out BB.out, kc K1.out BB.out, kc K2.out BB.out, kc K3.out BB.out, kc K4.out BB.out⟩
  clear hdr
  generalize w.drew = wd at *
  refine wpAnyH_take (i := 0) (oi := { dst := some 5, op := Op.move (Operand.tmp 0), type := 3, pos := "l08_thing.go:21", after := #[], guard := none }) (v := ?_) rfl (by kernel_rfl) (by kernel_rfl) (by kernel_rfl) (fun _ _ _ h => h) (Or.inl ⟨by rfl, ?_⟩) (by assumption) ?_
  rotate_left
  · intro w' hSw; (try dsimp only at hSw); first | (go_simp; done) | (go_simp; with_reducible rfl)
  (try simp only [Act.put, List.setIfInBounds_toArray, List.set_cons_zero, List.set_cons_succ])
  refine wpAnyH_ready (rs := [1]) (by kernel_rfl) (by simp) ?_
  refine AllReadyH.cons (o := { dst := some 6, op := Op.call { callee := Callee.value (Operand.func 146), args := #[Operand.tmp 5], argTypes := #[3] }, type := 4, pos := "l08_thing.go:21", after := #[{ on := 0, ground := Ground.data }], guard := none }) rfl (fun K hK => ?_) AllReadyH.nil
  go_simp
  refine (sSecV true HS.out).mono ?_
  rintro e wn1 ⟨rfl, hb⟩
  replace BB := Lib.hid (BB.out.trans (hb.mono BB.out.size))
  clear hb
  (try go_wp2_with fail)
  clear hHeld
  refine hK.out _ _ ?_ (fun hHeld => ?_)
  · (try dsimp only); exact ⟨kc K0.out BB.out, kc K1.out BB.out, kc K2.out BB.out, kc K3.out BB.out, kc K4.out BB.out⟩
  clear hK K
  (try simp only [Act.put, List.setIfInBounds_toArray, List.set_cons_zero, List.set_cons_succ])
  refine wpAnyH_take (i := 2) (oi := { dst := some 7, op := Op.move (Operand.tmp 6), type := 4, pos := "l08_thing.go:21", after := #[{ on := 1, ground := Ground.data }, { on := 1, ground := Ground.chain }], guard := none }) (v := ?_) rfl (by kernel_rfl) (by kernel_rfl) (by kernel_rfl) (fun _ _ _ h => h) (Or.inl ⟨by rfl, ?_⟩) (by assumption) ?_
  rotate_left
  · intro w' hSw; (try dsimp only at hSw); first | (go_simp; done) | (go_simp; with_reducible rfl)
  (try simp only [Act.put, List.setIfInBounds_toArray, List.set_cons_zero, List.set_cons_succ])
  refine wpAnyH_take (i := 3) (oi := { dst := some 8, op := Op.fieldAddr 34 (Operand.tmp 3) 4, type := 0, pos := "l08_thing.go:21", after := #[{ on := 2, ground := Ground.guard }], guard := some (2, true) }) (v := ?_) rfl (by kernel_rfl) (by kernel_rfl) (by kernel_rfl) (fun _ _ _ h => h) (Or.inl ⟨by rfl, ?_⟩) (by assumption) ?_
  rotate_left
  · intro w' hSw; (try dsimp only at hSw); first | (go_simp; done) | (go_simp; with_reducible rfl)
  (try simp only [Act.put, List.setIfInBounds_toArray, List.set_cons_zero, List.set_cons_succ])
  refine wpAnyH_take (i := 4) (oi := { dst := some 9, op := Op.load 3 (Operand.tmp 8), type := 3, pos := "l08_thing.go:21", after := #[{ on := 3, ground := Ground.data }, { on := 2, ground := Ground.guard }], guard := some (2, true) }) (v := ?_) rfl (by kernel_rfl) (by kernel_rfl) (by kernel_rfl) (fun _ _ _ h => h) (Or.inl ⟨by rfl, ?_⟩) (by assumption) ?_
  rotate_left
  · intro w' hSw; (try dsimp only at hSw); first | (go_simp; done) | (go_simp; with_reducible rfl)
  (try simp only [Act.put, List.setIfInBounds_toArray, List.set_cons_zero, List.set_cons_succ])
  refine wpAnyH_take (i := 5) (oi := { dst := some 10, op := Op.move (Operand.tmp 0), type := 3, pos := "l08_thing.go:21", after := #[{ on := 2, ground := Ground.guard }], guard := some (2, true) }) (v := ?_) rfl (by kernel_rfl) (by kernel_rfl) (by kernel_rfl) (fun _ _ _ h => h) (Or.inl ⟨by rfl, ?_⟩) (by assumption) ?_
  rotate_left
  · intro w' hSw; (try dsimp only at hSw); first | (go_simp; done) | (go_simp; with_reducible rfl)
  (try simp only [Act.put, List.setIfInBounds_toArray, List.set_cons_zero, List.set_cons_succ])
  refine wpAnyH_take (i := 6) (oi := { dst := some 11, op := Op.load 34 (Operand.tmp 3), type := 34, pos := "l08_thing.go:21", after := #[{ on := 2, ground := Ground.guard }], guard := some (2, true) }) (v := ?_) rfl (by kernel_rfl) (by kernel_rfl) (by kernel_rfl) (fun _ _ _ h => h) (Or.inl ⟨by rfl, ?_⟩) (by assumption) ?_
  rotate_left
  · intro w' hSw; (try dsimp only at hSw); first | (go_simp; done) | (go_simp; with_reducible rfl)
  (try simp only [Act.put, List.setIfInBounds_toArray, List.set_cons_zero, List.set_cons_succ])
  refine wpAnyH_ready (rs := [7]) (by kernel_rfl) (by simp) ?_
  refine AllReadyH.cons (o := { dst := some 12, op := Op.call { callee := Callee.value (Operand.func 178), args := #[Operand.tmp 11], argTypes := #[34] }, type := 97, pos := "l08_thing.go:21", after := #[{ on := 6, ground := Ground.data }, { on := 2, ground := Ground.chain }, { on := 2, ground := Ground.guard }], guard := some (2, true) }) rfl (fun K hK => ?_) AllReadyH.nil
  go_simp
  refine (specSignedPortion _ _ _ (la, lb, lc, f, s) _ (HD.out.on BB.out) HBY.out HL.out).mono ?_
  rintro e wn2 ⟨v12, rfl, ho, hb⟩
  have H_v12 := Lib.hid ho.holds; clear ho
  replace BB := Lib.hid (BB.out.trans (hb.mono BB.out.size))
  clear hb
  (try go_wp2_with fail)
  clear hHeld
  refine hK.out _ _ ?_ (fun hHeld => ?_)
  · (try dsimp only); exact ⟨kc K0.out BB.out, kc K1.out BB.out, kc K2.out BB.out, kc K3.out BB.out, kc K4.out BB.out⟩
  clear hK K
  (try simp only [Act.put, List.setIfInBounds_toArray, List.set_cons_zero, List.set_cons_succ])
  refine wpAnyH_ready (rs := [8]) (by kernel_rfl) (by simp) ?_
  refine AllReadyH.cons (o := { dst := some 13, op := Op.call { callee := Callee.value (Operand.func 177), args := #[Operand.tmp 10, Operand.tmp 12], argTypes := #[3, 97] }, type := 3, pos := "l08_thing.go:21", after := #[{ on := 5, ground := Ground.data }, { on := 7, ground := Ground.data }, { on := 7, ground := Ground.chain }, { on := 2, ground := Ground.guard }], guard := some (2, true) }) rfl (fun K hK => ?_) AllReadyH.nil
  go_simp
  refine (sMacV M HM.out H_v12.out (Nat.le_trans (portD_small _) (by have := HL.out.2.1; simp only at this ⊢; omega))).mono ?_
  rintro e wn3 ⟨rfl, hb⟩
  replace H_v12 := Lib.hid (H_v12.out.on hb)
  replace BB := Lib.hid (BB.out.trans (hb.mono BB.out.size))
  clear hb
  (try go_wp2_with fail)
  clear hHeld
  refine hK.out _ _ ?_ (fun hHeld => ?_)
  · (try dsimp only); exact ⟨kc K0.out BB.out, kc K1.out BB.out, kc K2.out BB.out, kc K3.out BB.out, kc K4.out BB.out⟩
  clear hK K
  (try simp only [Act.put, List.setIfInBounds_toArray, List.set_cons_zero, List.set_cons_succ])
  refine wpAnyH_take (i := 9) (oi := { dst := some 14, op := Op.binOp BinOp.eql 3 (Operand.tmp 9) (Operand.tmp 13) 3, type := 4, pos := "l08_thing.go:21", after := #[{ on := 4, ground := Ground.data }, { on := 8, ground := Ground.data }, { on := 2, ground := Ground.guard }], guard := some (2, true) }) (v := ?_) rfl (by kernel_rfl) (by kernel_rfl) (by kernel_rfl) (fun _ _ _ h => h) (Or.inl ⟨by rfl, ?_⟩) (by assumption) ?_
  rotate_left
  · intro w' hSw; (try dsimp only at hSw); first | (go_simp; done) | (go_simp; with_reducible rfl)
  (try simp only [Act.put, List.setIfInBounds_toArray, List.set_cons_zero, List.set_cons_succ])
  refine wpAnyH_take (i := 10) (oi := { dst := some 15, op := Op.pick (Operand.tmp 7) (Operand.tmp 14) (Operand.const (Value.bool false)), type := 4, pos := "l08_thing.go:21", after := #[{ on := 2, ground := Ground.data }, { on := 9, ground := Ground.data }], guard := none }) (v := ?_) rfl (by kernel_rfl) (by kernel_rfl) (by kernel_rfl) (fun _ _ _ h => h) (Or.inl ⟨by rfl, ?_⟩) (by assumption) ?_
  rotate_left
  · intro w' hSw; (try dsimp only at hSw); first | (go_simp; done) | (go_simp; with_reducible rfl)
  (try simp only [Act.put, List.setIfInBounds_toArray, List.set_cons_zero, List.set_cons_succ])
  refine wpAnyH_take (i := 11) (oi := { dst := some 4, op := Op.assign (Operand.tmp 15), type := 4, pos := "l08_thing.go:21", after := #[{ on := 10, ground := Ground.data }, { on := 8, ground := Ground.chain }, { on := 0, ground := Ground.phase }, { on := 1, ground := Ground.phase }, { on := 2, ground := Ground.phase }, { on := 3, ground := Ground.phase }, { on := 4, ground := Ground.phase }, { on := 5, ground := Ground.phase }, { on := 6, ground := Ground.phase }, { on := 7, ground := Ground.phase }, { on := 8, ground := Ground.phase }, { on := 9, ground := Ground.phase }, { on := 10, ground := Ground.phase }], guard := none }) (v := ?_) rfl (by kernel_rfl) (by kernel_rfl) (by kernel_rfl) (fun _ _ _ h => h) (Or.inl ⟨by rfl, ?_⟩) (by assumption) ?_
  rotate_left
  · intro w' hSw; (try dsimp only at hSw); first | (go_simp; done) | (go_simp; with_reducible rfl)
  (try simp only [Act.put, List.setIfInBounds_toArray, List.set_cons_zero, List.set_cons_succ])
  refine wpAnyH_done (by kernel_rfl) ?_ _
  exact NoPanic.normal (HQ.out _ _ _ _ _ _ _ _ _ _ _  _  BB.out)

set_option maxRecDepth 100000 in
set_option maxHeartbeats 4000000 in
theorem verimpl0 {Q : Exit → Act → World → Prop} {v1 v2 v4 v5 v6 v7 v8 v9 v10 v11 v12 v13 : Value} {w : World} {p : Nat} {t : Int} (HS : Hid (Num.inB t 1 2147483646 = false)) 
    (hQ : ∀ (u5 u6 u7 u8 u9 u10 u11 u12 u13 : Value)  (wx : World), Below w.heap.size w wx → Q .normal ⟨#[.int .i64 t, v1, v2, .pointer (some ⟨p, 0, none⟩), .bool false, u5, u6, u7, u8, u9, u10, u11, u12, u13], []⟩ wx) :
    (Code.region 1 #[{ dst := some 5, op := Op.move (Operand.tmp 0), type := 3, pos := "l08_thing.go:60", after := #[], guard := none },
      { dst := some 6, op := Op.call { callee := Callee.value (Operand.func 155), args := #[Operand.tmp 5], argTypes := #[3] }, type := 4, pos := "l08_thing.go:60", after := #[{ on := 0, ground := Ground.data }], guard := none },
      { dst := some 7, op := Op.move (Operand.tmp 6), type := 4, pos := "l08_thing.go:60", after := #[{ on := 1, ground := Ground.data }, { on := 1, ground := Ground.chain }], guard := none },
      { dst := some 8, op := Op.fieldAddr 34 (Operand.tmp 3) 4, type := 0, pos := "l08_thing.go:60", after := #[{ on := 2, ground := Ground.guard }], guard := some (2, true) },
      { dst := some 9, op := Op.load 3 (Operand.tmp 8), type := 3, pos := "l08_thing.go:60", after := #[{ on := 3, ground := Ground.data }, { on := 2, ground := Ground.guard }], guard := some (2, true) },
      { dst := some 10, op := Op.move (Operand.tmp 0), type := 3, pos := "l08_thing.go:60", after := #[{ on := 2, ground := Ground.guard }], guard := some (2, true) },
      { dst := some 11, op := Op.call { callee := Callee.value (Operand.func 156), args := #[Operand.tmp 3, Operand.tmp 10], argTypes := #[34, 3] }, type := 3, pos := "l08_thing.go:60", after := #[{ on := 5, ground := Ground.data }, { on := 2, ground := Ground.chain }, { on := 2, ground := Ground.guard }], guard := some (2, true) },
      { dst := some 12, op := Op.binOp BinOp.eql 3 (Operand.tmp 9) (Operand.tmp 11) 3, type := 4, pos := "l08_thing.go:60", after := #[{ on := 4, ground := Ground.data }, { on := 6, ground := Ground.data }, { on := 2, ground := Ground.guard }], guard := some (2, true) },
      { dst := some 13, op := Op.pick (Operand.tmp 7) (Operand.tmp 12) (Operand.const (Value.bool false)), type := 4, pos := "l08_thing.go:60", after := #[{ on := 2, ground := Ground.data }, { on := 7, ground := Ground.data }], guard := none },
      { dst := some 4, op := Op.assign (Operand.tmp 13), type := 4, pos := "l08_thing.go:60", after := #[{ on := 8, ground := Ground.data }, { on := 6, ground := Ground.chain }, { on := 0, ground := Ground.phase }, { on := 1, ground := Ground.phase }, { on := 2, ground := Ground.phase }, { on := 3, ground := Ground.phase }, { on := 4, ground := Ground.phase }, { on := 5, ground := Ground.phase }, { on := 6, ground := Ground.phase }, { on := 7, ground := Ground.phase }, { on := 8, ground := Ground.phase }], guard := none }] true).wp Tryz.prog Q ⟨#[.int .i64 t, v1, v2, .pointer (some ⟨p, 0, none⟩), v4, v5, v6, v7, v8, v9, v10, v11, v12, v13], []⟩ w := by
  have HQ := Lib.hid hQ; clear hQ
  have hdr : Below w.heap.size w w.drew := (Below.refl _ _).drew
  have BB := Lib.hid hdr
  refine wp_region_noPanic ?_
  refine wp_region_held_drew (S := (fun w' => True)) (by kernel_rfl) ?_ (fun hHeld => ?_)
  · trivial
  clear hdr
  generalize w.drew = wd at *
  refine wpAnyH_take (i := 0) (oi := { dst := some 5, op := Op.move (Operand.tmp 0), type := 3, pos := "l08_thing.go:60", after := #[], guard := none }) (v := ?_) rfl (by kernel_rfl) (by kernel_rfl) (by kernel_rfl) (fun _ _ _ h => h) (Or.inl ⟨by rfl, ?_⟩) (by assumption) ?_
  rotate_left
  · intro w' hSw; (try dsimp only at hSw); first | (go_simp; done) | (go_simp; with_reducible rfl)
  (try simp only [Act.put, List.setIfInBounds_toArray, List.set_cons_zero, List.set_cons_succ])
  refine wpAnyH_ready (rs := [1]) (by kernel_rfl) (by simp) ?_
  refine AllReadyH.cons (o := { dst := some 6, op := Op.call { callee := Callee.value (Operand.func 155), args := #[Operand.tmp 5], argTypes := #[3] }, type := 4, pos := "l08_thing.go:60", after := #[{ on := 0, ground := Ground.data }], guard := none }) rfl (fun K hK => ?_) AllReadyH.nil
  go_simp
  refine (iSecV false HS.out).mono ?_
  rintro e wn1 ⟨rfl, hb⟩
  replace BB := Lib.hid (BB.out.trans (hb.mono BB.out.size))
  clear hb
  (try go_wp2_with fail)
  clear hHeld
  refine hK.out _ _ ?_ (fun hHeld => ?_)
  · trivial
  clear hK K
  (try simp only [Act.put, List.setIfInBounds_toArray, List.set_cons_zero, List.set_cons_succ])
  refine wpAnyH_take (i := 2) (oi := { dst := some 7, op := Op.move (Operand.tmp 6), type := 4, pos := "l08_thing.go:60", after := #[{ on := 1, ground := Ground.data }, { on := 1, ground := Ground.chain }], guard := none }) (v := ?_) rfl (by kernel_rfl) (by kernel_rfl) (by kernel_rfl) (fun _ _ _ h => h) (Or.inl ⟨by rfl, ?_⟩) (by assumption) ?_
  rotate_left
  · intro w' hSw; (try dsimp only at hSw); first | (go_simp; done) | (go_simp; with_reducible rfl)
  (try simp only [Act.put, List.setIfInBounds_toArray, List.set_cons_zero, List.set_cons_succ])
  refine wpAnyH_take (i := 3) (oi := { dst := some 8, op := Op.fieldAddr 34 (Operand.tmp 3) 4, type := 0, pos := "l08_thing.go:60", after := #[{ on := 2, ground := Ground.guard }], guard := some (2, true) }) (v := undef) rfl (by kernel_rfl) (by kernel_rfl) (by kernel_rfl) (fun _ _ _ h => h) (Or.inr ⟨by rfl, rfl⟩) (by assumption) ?_
  (try simp only [Act.put, List.setIfInBounds_toArray, List.set_cons_zero, List.set_cons_succ])
  refine wpAnyH_take (i := 4) (oi := { dst := some 9, op := Op.load 3 (Operand.tmp 8), type := 3, pos := "l08_thing.go:60", after := #[{ on := 3, ground := Ground.data }, { on := 2, ground := Ground.guard }], guard := some (2, true) }) (v := undef) rfl (by kernel_rfl) (by kernel_rfl) (by kernel_rfl) (fun _ _ _ h => h) (Or.inr ⟨by rfl, rfl⟩) (by assumption) ?_
  (try simp only [Act.put, List.setIfInBounds_toArray, List.set_cons_zero, List.set_cons_succ])
  refine wpAnyH_take (i := 5) (oi := { dst := some 10, op := Op.move (Operand.tmp 0), type := 3, pos := "l08_thing.go:60", after := #[{ on := 2, ground := Ground.guard }], guard := some (2, true) }) (v := undef) rfl (by kernel_rfl) (by kernel_rfl) (by kernel_rfl) (fun _ _ _ h => h) (Or.inr ⟨by rfl, rfl⟩) (by assumption) ?_
  (try simp only [Act.put, List.setIfInBounds_toArray, List.set_cons_zero, List.set_cons_succ])
  refine wpAnyH_take (i := 6) (oi := { dst := some 11, op := Op.call { callee := Callee.value (Operand.func 156), args := #[Operand.tmp 3, Operand.tmp 10], argTypes := #[34, 3] }, type := 3, pos := "l08_thing.go:60", after := #[{ on := 5, ground := Ground.data }, { on := 2, ground := Ground.chain }, { on := 2, ground := Ground.guard }], guard := some (2, true) }) (v := undef) rfl (by kernel_rfl) (by kernel_rfl) (by kernel_rfl) (fun _ _ _ h => h) (Or.inr ⟨by rfl, rfl⟩) (by assumption) ?_
  (try simp only [Act.put, List.setIfInBounds_toArray, List.set_cons_zero, List.set_cons_succ])
  refine wpAnyH_take (i := 7) (oi := { dst := some 12, op := Op.binOp BinOp.eql 3 (Operand.tmp 9) (Operand.tmp 11) 3, type := 4, pos := "l08_thing.go:60", after := #[{ on := 4, ground := Ground.data }, { on := 6, ground := Ground.data }, { on := 2, ground := Ground.guard }], guard := some (2, true) }) (v := undef) rfl (by kernel_rfl) (by kernel_rfl) (by kernel_rfl) (fun _ _ _ h => h) (Or.inr ⟨by rfl, rfl⟩) (by assumption) ?_
  (try simp only [Act.put, List.setIfInBounds_toArray, List.set_cons_zero, List.set_cons_succ])
  refine wpAnyH_take (i := 8) (oi := { dst := some 13, op := Op.pick (Operand.tmp 7) (Operand.tmp 12) (Operand.const (Value.bool false)), type := 4, pos := "l08_thing.go:60", after := #[{ on := 2, ground := Ground.data }, { on := 7, ground := Ground.data }], guard := none }) (v := ?_) rfl (by kernel_rfl) (by kernel_rfl) (by kernel_rfl) (fun _ _ _ h => h) (Or.inl ⟨by rfl, ?_⟩) (by assumption) ?_
  rotate_left
  · intro w' hSw; (try dsimp only at hSw); first | (go_simp; done) | (go_simp; with_reducible rfl)
  (try simp only [Act.put, List.setIfInBounds_toArray, List.set_cons_zero, List.set_cons_succ])
  refine wpAnyH_take (i := 9) (oi := { dst := some 4, op := Op.assign (Operand.tmp 13), type := 4, pos := "l08_thing.go:60", after := #[{ on := 8, ground := Ground.data }, { on := 6, ground := Ground.chain }, { on := 0, ground := Ground.phase }, { on := 1, ground := Ground.phase }, { on := 2, ground := Ground.phase }, { on := 3, ground := Ground.phase }, { on := 4, ground := Ground.phase }, { on := 5, ground := Ground.phase }, { on := 6, ground := Ground.phase }, { on := 7, ground := Ground.phase }, { on := 8, ground := Ground.phase }], guard := none }) (v := ?_) rfl (by kernel_rfl) (by kernel_rfl) (by kernel_rfl) (fun _ _ _ h => h) (Or.inl ⟨by rfl, ?_⟩) (by assumption) ?_
  rotate_left
  · intro w' hSw; (try dsimp only at hSw); first | (go_simp; done) | (go_simp; with_reducible rfl)
  (try simp only [Act.put, List.setIfInBounds_toArray, List.set_cons_zero, List.set_cons_succ])
  refine wpAnyH_done (by kernel_rfl) ?_ _
  exact NoPanic.normal (HQ.out _ _ _ _ _ _ _ _ _  _  BB.out)

set_option maxRecDepth 100000 in
set_option maxHeartbeats 4000000 in
theorem verimpl1 {Q : Exit → Act → World → Prop} {v1 v2 v4 v5 v6 v7 v8 v9 v10 v11 v12 v13 : Value} {w : World} {p na ca nb cb nc cc : Nat} {xa xb xc : Option Addr} {f s t : Int} {la lc : List ByteArray} {lb : List Int} {M : Int} {z : Bool} (HS : Hid (Num.inB t 1 2147483646 = true)) (HD : Hid (DHold w (.slice xa na ca) (.slice xb nb cb) (.slice xc nc cc) (la, lb, lc, f, s))) (HBY : Hid (Sl.Byt lb)) (HL : Hid (smD (la, lb, lc, f, s))) (HM : Hid (Seal.mac t (portD (la, lb, lc, f, s)) = M)) (HZ : Hid ((s == M) = z)) (HK : Hid (Ret.Blk w p (dc (.slice xa na ca) (.slice xb nb cb) (.slice xc nc cc) f s) 34)) (K4 : Hid (w.cell? ⟨p, 4, none⟩ = some (.int .i64 s)))
    (hQ : ∀ (u5 u6 u7 u8 u9 u10 u11 u12 u13 : Value)  (wx : World), Below w.heap.size w wx → Q .normal ⟨#[.int .i64 t, v1, v2, .pointer (some ⟨p, 0, none⟩), .bool z, u5, u6, u7, u8, u9, u10, u11, u12, u13], []⟩ wx) :
    (Code.region 1 #[{ dst := some 5, op := Op.move (Operand.tmp 0), type := 3, pos := "l08_thing.go:60", after := #[], guard := none },
      { dst := some 6, op := Op.call { callee := Callee.value (Operand.func 155), args := #[Operand.tmp 5], argTypes := #[3] }, type := 4, pos := "l08_thing.go:60", after := #[{ on := 0, ground := Ground.data }], guard := none },
      { dst := some 7, op := Op.move (Operand.tmp 6), type := 4, pos := "l08_thing.go:60", after := #[{ on := 1, ground := Ground.data }, { on := 1, ground := Ground.chain }], guard := none },
      { dst := some 8, op := Op.fieldAddr 34 (Operand.tmp 3) 4, type := 0, pos := "l08_thing.go:60", after := #[{ on := 2, ground := Ground.guard }], guard := some (2, true) },
      { dst := some 9, op := Op.load 3 (Operand.tmp 8), type := 3, pos := "l08_thing.go:60", after := #[{ on := 3, ground := Ground.data }, { on := 2, ground := Ground.guard }], guard := some (2, true) },
      { dst := some 10, op := Op.move (Operand.tmp 0), type := 3, pos := "l08_thing.go:60", after := #[{ on := 2, ground := Ground.guard }], guard := some (2, true) },
      { dst := some 11, op := Op.call { callee := Callee.value (Operand.func 156), args := #[Operand.tmp 3, Operand.tmp 10], argTypes := #[34, 3] }, type := 3, pos := "l08_thing.go:60", after := #[{ on := 5, ground := Ground.data }, { on := 2, ground := Ground.chain }, { on := 2, ground := Ground.guard }], guard := some (2, true) },
      { dst := some 12, op := Op.binOp BinOp.eql 3 (Operand.tmp 9) (Operand.tmp 11) 3, type := 4, pos := "l08_thing.go:60", after := #[{ on := 4, ground := Ground.data }, { on := 6, ground := Ground.data }, { on := 2, ground := Ground.guard }], guard := some (2, true) },
      { dst := some 13, op := Op.pick (Operand.tmp 7) (Operand.tmp 12) (Operand.const (Value.bool false)), type := 4, pos := "l08_thing.go:60", after := #[{ on := 2, ground := Ground.data }, { on := 7, ground := Ground.data }], guard := none },
      { dst := some 4, op := Op.assign (Operand.tmp 13), type := 4, pos := "l08_thing.go:60", after := #[{ on := 8, ground := Ground.data }, { on := 6, ground := Ground.chain }, { on := 0, ground := Ground.phase }, { on := 1, ground := Ground.phase }, { on := 2, ground := Ground.phase }, { on := 3, ground := Ground.phase }, { on := 4, ground := Ground.phase }, { on := 5, ground := Ground.phase }, { on := 6, ground := Ground.phase }, { on := 7, ground := Ground.phase }, { on := 8, ground := Ground.phase }], guard := none }] true).wp Tryz.prog Q ⟨#[.int .i64 t, v1, v2, .pointer (some ⟨p, 0, none⟩), v4, v5, v6, v7, v8, v9, v10, v11, v12, v13], []⟩ w := by
  have HQ := Lib.hid hQ; clear hQ
  have hdr : Below w.heap.size w w.drew := (Below.refl _ _).drew
  have tz := HZ.out
  have BB := Lib.hid hdr
  refine wp_region_noPanic ?_
  refine wp_region_held_drew (S := (fun w' => w'.cell? ⟨p, 4, none⟩ = some (.int .i64 s))) (by kernel_rfl) ?_ (fun hHeld => ?_)
  · exact kc K4.out BB.out
  clear hdr
  generalize w.drew = wd at *
  refine wpAnyH_take (i := 0) (oi := { dst := some 5, op := Op.move (Operand.tmp 0), type := 3, pos := "l08_thing.go:60", after := #[], guard := none }) (v := ?_) rfl (by kernel_rfl) (by kernel_rfl) (by kernel_rfl) (fun _ _ _ h => h) (Or.inl ⟨by rfl, ?_⟩) (by assumption) ?_
  rotate_left
  · intro w' hSw; (try dsimp only at hSw); first | (go_simp; done) | (go_simp; with_reducible rfl)
  (try simp only [Act.put, List.setIfInBounds_toArray, List.set_cons_zero, List.set_cons_succ])
  refine wpAnyH_ready (rs := [1]) (by kernel_rfl) (by simp) ?_
  refine AllReadyH.cons (o := { dst := some 6, op := Op.call { callee := Callee.value (Operand.func 155), args := #[Operand.tmp 5], argTypes := #[3] }, type := 4, pos := "l08_thing.go:60", after := #[{ on := 0, ground := Ground.data }], guard := none }) rfl (fun K hK => ?_) AllReadyH.nil
  go_simp
  refine (iSecV true HS.out).mono ?_
  rintro e wn1 ⟨rfl, hb⟩
  replace BB := Lib.hid (BB.out.trans (hb.mono BB.out.size))
  clear hb
  (try go_wp2_with fail)
  clear hHeld
  refine hK.out _ _ ?_ (fun hHeld => ?_)
  · (try dsimp only); exact kc K4.out BB.out
  clear hK K
  (try simp only [Act.put, List.setIfInBounds_toArray, List.set_cons_zero, List.set_cons_succ])
  refine wpAnyH_take (i := 2) (oi := { dst := some 7, op := Op.move (Operand.tmp 6), type := 4, pos := "l08_thing.go:60", after := #[{ on := 1, ground := Ground.data }, { on := 1, ground := Ground.chain }], guard := none }) (v := ?_) rfl (by kernel_rfl) (by kernel_rfl) (by kernel_rfl) (fun _ _ _ h => h) (Or.inl ⟨by rfl, ?_⟩) (by assumption) ?_
  rotate_left
  · intro w' hSw; (try dsimp only at hSw); first | (go_simp; done) | (go_simp; with_reducible rfl)
  (try simp only [Act.put, List.setIfInBounds_toArray, List.set_cons_zero, List.set_cons_succ])
  refine wpAnyH_take (i := 3) (oi := { dst := some 8, op := Op.fieldAddr 34 (Operand.tmp 3) 4, type := 0, pos := "l08_thing.go:60", after := #[{ on := 2, ground := Ground.guard }], guard := some (2, true) }) (v := ?_) rfl (by kernel_rfl) (by kernel_rfl) (by kernel_rfl) (fun _ _ _ h => h) (Or.inl ⟨by rfl, ?_⟩) (by assumption) ?_
  rotate_left
  · intro w' hSw; (try dsimp only at hSw); first | (go_simp; done) | (go_simp; with_reducible rfl)
  (try simp only [Act.put, List.setIfInBounds_toArray, List.set_cons_zero, List.set_cons_succ])
  refine wpAnyH_take (i := 4) (oi := { dst := some 9, op := Op.load 3 (Operand.tmp 8), type := 3, pos := "l08_thing.go:60", after := #[{ on := 3, ground := Ground.data }, { on := 2, ground := Ground.guard }], guard := some (2, true) }) (v := ?_) rfl (by kernel_rfl) (by kernel_rfl) (by kernel_rfl) (fun _ _ _ h => h) (Or.inl ⟨by rfl, ?_⟩) (by assumption) ?_
  rotate_left
  · intro w' hSw; (try dsimp only at hSw); first | (go_simp; done) | (go_simp; with_reducible rfl)
  (try simp only [Act.put, List.setIfInBounds_toArray, List.set_cons_zero, List.set_cons_succ])
  refine wpAnyH_take (i := 5) (oi := { dst := some 10, op := Op.move (Operand.tmp 0), type := 3, pos := "l08_thing.go:60", after := #[{ on := 2, ground := Ground.guard }], guard := some (2, true) }) (v := ?_) rfl (by kernel_rfl) (by kernel_rfl) (by kernel_rfl) (fun _ _ _ h => h) (Or.inl ⟨by rfl, ?_⟩) (by assumption) ?_
  rotate_left
  · intro w' hSw; (try dsimp only at hSw); first | (go_simp; done) | (go_simp; with_reducible rfl)
  (try simp only [Act.put, List.setIfInBounds_toArray, List.set_cons_zero, List.set_cons_succ])
  refine wpAnyH_ready (rs := [6]) (by kernel_rfl) (by simp) ?_
  refine AllReadyH.cons (o := { dst := some 11, op := Op.call { callee := Callee.value (Operand.func 156), args := #[Operand.tmp 3, Operand.tmp 10], argTypes := #[34, 3] }, type := 3, pos := "l08_thing.go:60", after := #[{ on := 5, ground := Ground.data }, { on := 2, ground := Ground.chain }, { on := 2, ground := Ground.guard }], guard := some (2, true) }) rfl (fun K hK => ?_) AllReadyH.nil
  go_simp
  refine (iMacV (x := (la, lb, lc, f, s)) M HM.out (HK.out.on BB.out) (HD.out.on BB.out) HBY.out HL.out).mono ?_
  rintro e wn2 ⟨rfl, hb⟩
  replace BB := Lib.hid (BB.out.trans (hb.mono BB.out.size))
  clear hb
  (try go_wp2_with fail)
  clear hHeld
  refine hK.out _ _ ?_ (fun hHeld => ?_)
  · (try dsimp only); exact kc K4.out BB.out
  clear hK K
  (try simp only [Act.put, List.setIfInBounds_toArray, List.set_cons_zero, List.set_cons_succ])
  refine wpAnyH_take (i := 7) (oi := { dst := some 12, op := Op.binOp BinOp.eql 3 (Operand.tmp 9) (Operand.tmp 11) 3, type := 4, pos := "l08_thing.go:60", after := #[{ on := 4, ground := Ground.data }, { on := 6, ground := Ground.data }, { on := 2, ground := Ground.guard }], guard := some (2, true) }) (v := ?_) rfl (by kernel_rfl) (by kernel_rfl) (by kernel_rfl) (fun _ _ _ h => h) (Or.inl ⟨by rfl, ?_⟩) (by assumption) ?_
  rotate_left
  · intro w' hSw; (try dsimp only at hSw); first | (go_simp; done) | (go_simp; with_reducible rfl)
  (try simp only [Act.put, List.setIfInBounds_toArray, List.set_cons_zero, List.set_cons_succ])
  refine wpAnyH_take (i := 8) (oi := { dst := some 13, op := Op.pick (Operand.tmp 7) (Operand.tmp 12) (Operand.const (Value.bool false)), type := 4, pos := "l08_thing.go:60", after := #[{ on := 2, ground := Ground.data }, { on := 7, ground := Ground.data }], guard := none }) (v := ?_) rfl (by kernel_rfl) (by kernel_rfl) (by kernel_rfl) (fun _ _ _ h => h) (Or.inl ⟨by rfl, ?_⟩) (by assumption) ?_
  rotate_left
  · intro w' hSw; (try dsimp only at hSw); first | (go_simp; done) | (go_simp; with_reducible rfl)
  (try simp only [Act.put, List.setIfInBounds_toArray, List.set_cons_zero, List.set_cons_succ])
  refine wpAnyH_take (i := 9) (oi := { dst := some 4, op := Op.assign (Operand.tmp 13), type := 4, pos := "l08_thing.go:60", after := #[{ on := 8, ground := Ground.data }, { on := 6, ground := Ground.chain }, { on := 0, ground := Ground.phase }, { on := 1, ground := Ground.phase }, { on := 2, ground := Ground.phase }, { on := 3, ground := Ground.phase }, { on := 4, ground := Ground.phase }, { on := 5, ground := Ground.phase }, { on := 6, ground := Ground.phase }, { on := 7, ground := Ground.phase }, { on := 8, ground := Ground.phase }], guard := none }) (v := ?_) rfl (by kernel_rfl) (by kernel_rfl) (by kernel_rfl) (fun _ _ _ h => h) (Or.inl ⟨by rfl, ?_⟩) (by assumption) ?_
  rotate_left
  · intro w' hSw; (try dsimp only at hSw); first | (go_simp; done) | (go_simp; with_reducible rfl)
  (try simp only [Act.put, List.setIfInBounds_toArray, List.set_cons_zero, List.set_cons_succ])
  refine wpAnyH_done (by kernel_rfl) ?_ _
  exact NoPanic.normal (HQ.out _ _ _ _ _ _ _ _ _  _  BB.out)

set_option maxHeartbeats 4000000 in
theorem specVerifyData (a b c : Value) (x : Dt) (t : Int) (w : World) (h : DHold w a b c x) (hB : Sl.Byt x.2.1) (hl : smD x) :
    Calls Tryz.prog 123 #[.int .i64 t, .agg (dc a b c x.2.2.2.1 x.2.2.2.2)] w fun e w' => e = .returned (.bool (verD t x)) ∧ Below w.heap.size w w' := by
  obtain ⟨l, m, k, f, s⟩ := x
  simp only at hB ⊢
  obtain ⟨xa, na, ca, xb, nb, cb, xc, nc, cc, rfl, rfl, rfl⟩ := h.shape
  obtain ⟨M, hM⟩ : ∃ M, Seal.mac t (portD (l, m, k, f, s)) = M := ⟨_, rfl⟩
  obtain ⟨q, hq⟩ : ∃ q, verD t (l, m, k, f, s) = q := ⟨_, rfl⟩
  rw [hq]
  have HQ := Lib.hid hq
  have HM := Lib.hid hM; have HY := Lib.hid hB; have HLB := Lib.hid hl
  have HB := Lib.hid ((Below.refl w.heap.size w).alloc (Nat.le_refl _) (.cells (dc (.slice xa na ca) (.slice xb nb cb) (.slice xc nc cc) f s) 34))
  have H0 := Lib.hid (h.on HB.out)
  have HX := Lib.hid (Ret.Blk.new w (dc (.slice xa na ca) (.slice xb nb cb) (.slice xc nc cc) f s) 34)
  clear h hB hl hM hq
  go_enter Tryz.func123, Tryz.ntmps123
  go_wp2_with fail
  cases hs : Num.inB t 1 2147483646 with
  | false =>
    have HE : Hid (q = false) := Lib.hid (by rw [← HQ.out]; unfold verD; rw [hs]; rfl)
    refine verspec0 (Lib.hid hs) ?_
    intro u5 u6 u7 u8 u9 u10 u11 u12 u13 u14 u15 wx hb
    have HB2 := Lib.hid (HB.out.trans (hb.mono HB.out.size))
    clear hb hs
    go_wp2_with fail
    go_ret
    exact ⟨ret_bool HE.out.symm, HB2.out⟩
  | true =>
    obtain ⟨z, hz⟩ : ∃ z, (s == M) = z := ⟨_, rfl⟩
    have HE : Hid (q = z) := Lib.hid (by rw [← HQ.out]; unfold verD; rw [hs, HM.out, ← hz]; rfl)
    refine verspec1 (Lib.hid hs) H0 HY HLB HM (Lib.hid hz) (Lib.hid (HX.out.cell 0)) (Lib.hid (HX.out.cell 1)) (Lib.hid (HX.out.cell 2)) (Lib.hid (HX.out.cell 3)) (Lib.hid (HX.out.cell 4)) ?_
    intro u5 u6 u7 u8 u9 u10 u11 u12 u13 u14 u15 wx hb
    have HB2 := Lib.hid (HB.out.trans (hb.mono HB.out.size))
    clear hb hs hz
    go_wp2_with fail
    go_ret
    exact ⟨ret_bool HE.out.symm, HB2.out⟩

set_option maxHeartbeats 4000000 in
theorem implVerifyData (a b c : Value) (x : Dt) (t : Int) (w : World) (h : DHold w a b c x) (hB : Sl.Byt x.2.1) (hl : smD x) :
    Calls Tryz.prog 89 #[.int .i64 t, .agg (dc a b c x.2.2.2.1 x.2.2.2.2)] w fun e w' => e = .returned (.bool (verD t x)) ∧ Below w.heap.size w w' := by
  obtain ⟨l, m, k, f, s⟩ := x
  simp only at hB ⊢
  obtain ⟨xa, na, ca, xb, nb, cb, xc, nc, cc, rfl, rfl, rfl⟩ := h.shape
  obtain ⟨M, hM⟩ : ∃ M, Seal.mac t (portD (l, m, k, f, s)) = M := ⟨_, rfl⟩
  obtain ⟨q, hq⟩ : ∃ q, verD t (l, m, k, f, s) = q := ⟨_, rfl⟩
  rw [hq]
  have HQ := Lib.hid hq
  have HM := Lib.hid hM; have HY := Lib.hid hB; have HLB := Lib.hid hl
  have HB := Lib.hid ((Below.refl w.heap.size w).alloc (Nat.le_refl _) (.cells (dc (.slice xa na ca) (.slice xb nb cb) (.slice xc nc cc) f s) 34))
  have H0 := Lib.hid (h.on HB.out)
  have HX := Lib.hid (Ret.Blk.new w (dc (.slice xa na ca) (.slice xb nb cb) (.slice xc nc cc) f s) 34)
  clear h hB hl hM hq
  go_enter Tryz.func89, Tryz.ntmps89
  go_wp2_with fail
  cases hs : Num.inB t 1 2147483646 with
  | false =>
    have HE : Hid (q = false) := Lib.hid (by rw [← HQ.out]; unfold verD; rw [hs]; rfl)
    refine verimpl0 (Lib.hid hs) ?_
    intro u5 u6 u7 u8 u9 u10 u11 u12 u13 wx hb
    have HB2 := Lib.hid (HB.out.trans (hb.mono HB.out.size))
    clear hb hs
    go_wp2_with fail
    go_ret
    exact ⟨ret_bool HE.out.symm, HB2.out⟩
  | true =>
    obtain ⟨z, hz⟩ : ∃ z, (s == M) = z := ⟨_, rfl⟩
    have HE : Hid (q = z) := Lib.hid (by rw [← HQ.out]; unfold verD; rw [hs, HM.out, ← hz]; rfl)
    refine verimpl1 (Lib.hid hs) H0 HY HLB HM (Lib.hid hz) HX (Lib.hid (HX.out.cell 4)) ?_
    intro u5 u6 u7 u8 u9 u10 u11 u12 u13 wx hb
    have HB2 := Lib.hid (HB.out.trans (hb.mono HB.out.size))
    clear hb hs hz
    go_wp2_with fail
    go_ret
    exact ⟨ret_bool HE.out.symm, HB2.out⟩
end Go.Proofs.YtcidfmmeonhkhaaGreatDoor.Row
