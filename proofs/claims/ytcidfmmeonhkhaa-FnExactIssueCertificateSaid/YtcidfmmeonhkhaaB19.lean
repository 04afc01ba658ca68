/- Contracts and mathematics, joined: RingG, RingH. No conditions but those that each states. -/
import Derived.Test.YtcidfmmeonhkhaaB18
/- Contracts of the model's AddKey, and of SignWithKey, the model's and the program's. No conditions but that lengths fit. -/
namespace Go.Proofs.Ytcidfmmeonhkhaa.Row.Ring
open Go.ChangeShapes Go.WideShapes Go.ChangeAt Go.RowKit Go.Instr
set_option linter.unusedVariables false
set_option maxRecDepth 100000

/-! ### SignWithKey -/
end Go.Proofs.Ytcidfmmeonhkhaa.Row.Ring
namespace Go.Proofs.Ytcidfmmeonhkhaa.Row
open Go.ChangeShapes Go.WideShapes Go.ChangeAt Go.RowKit Go.Instr
set_option linter.unusedVariables false
set_option maxRecDepth 100000
theorem own_ne9 {α : Type} [Inhabited α] {enc : α → Value} {e t : TypeId} {B g : Nat} {w : World} {v : Value} {l : List α} {cs : Array Value} (h : Row.Own e enc B w v l) (hb : Ret.Blk w g cs t) (hne : e ≠ t) : v.ownBlock = none ∨ v.ownBlock ≠ some g := by
  rcases h.2 with ⟨rfl, -⟩ | ⟨g2, cap, cur, rfl, -, hh, -⟩
  · exact Or.inl rfl
  · refine Or.inr fun e1 => ?_
    have e2 : g2 = g := by simpa [Value.ownBlock] using e1
    rw [e2, show w.heap[g]? = some (.cells cs t) from hb] at hh
    cases hh
    exact hne rfl
theorem own_setT9 {α : Type} [Inhabited α] {enc : α → Value} {e t : TypeId} {B g i : Nat} {w : World} {v u : Value} {l : List α} {cs : Array Value} (h : Row.Own e enc B w v l) (hb : Ret.Blk w g cs t) (hne : e ≠ t) : Row.Own e enc B (w.setCell ⟨g, i, none⟩ u) v l := h.grown (Ret.grownBy_set w ⟨g, i, none⟩ u) (own_ne9 h hb hne)
theorem DOwn.setT {B g i : Nat} {w : World} {a b c u : Value} {x : Dt} {cs : Array Value} (h : DOwn B w a b c x) (hb : Ret.Blk w g cs 61) : DOwn B (w.setCell ⟨g, i, none⟩ u) a b c x := ⟨own_setT9 h.1 hb (by decide), own_setT9 (enc := Value.int .u8) h.2.1 hb (by decide), own_setT9 h.2.2.1 hb (by decide), h.2.2.2⟩
theorem DOwn.five {B g : Nat} {w : World} {a b c a1 b1 c1 : Value} {f s : Int} {x : Dt} {cs : Array Value} (h : DOwn B w a1 b1 c1 x) (hb : Ret.Blk w g cs 61) : DOwn B (((((((w).setCell ⟨g, 0, none⟩ (a)).setCell ⟨g, 1, none⟩ (b)).setCell ⟨g, 2, none⟩ (c)).setCell ⟨g, 3, none⟩ (.int .i64 f)).setCell ⟨g, 4, none⟩ (.int .i64 s))) a1 b1 c1 x := ((((h.setT hb).setT (hb.set 0 a)).setT ((hb.set 0 a).set 1 b)).setT (((hb.set 0 a).set 1 b).set 2 c)).setT ((((hb.set 0 a).set 1 b).set 2 c).set 3 (.int .i64 f))
theorem DOwn.mono {B B' : Nat} {w : World} {a b c : Value} {x : Dt} (h : DOwn B w a b c x) (hB : B' ≤ B) : DOwn B' w a b c x := ⟨h.1.mono hB, Sl.Own.mono h.2.1 hB, h.2.2.1.mono hB, h.2.2.2⟩
end Go.Proofs.Ytcidfmmeonhkhaa.Row
namespace Go.Proofs.Ytcidfmmeonhkhaa.Row.Ring
open Go.ChangeShapes Go.WideShapes Go.ChangeAt Go.RowKit Go.Instr
set_option linter.unusedVariables false
set_option maxRecDepth 100000
theorem blk_five {g : Nat} {w : World} {a b c a0 b0 c0 : Value} {f s f0 s0 : Int} (hb : Ret.Blk w g (dc a0 b0 c0 f0 s0) 61) : Ret.Blk (((((((w).setCell ⟨g, 0, none⟩ (a)).setCell ⟨g, 1, none⟩ (b)).setCell ⟨g, 2, none⟩ (c)).setCell ⟨g, 3, none⟩ (.int .i64 f)).setCell ⟨g, 4, none⟩ (.int .i64 s))) g (dc a b c f s) 61 := ((((hb.set 0 a).set 1 b).set 2 c).set 3 (.int .i64 f)).set 4 (.int .i64 s)
theorem below_five {X g : Nat} {w0 w : World} {a b c : Value} {f s : Int} (h : Below X w0 w) (hX : X ≤ g) : Below X w0 (((((((w).setCell ⟨g, 0, none⟩ (a)).setCell ⟨g, 1, none⟩ (b)).setCell ⟨g, 2, none⟩ (c)).setCell ⟨g, 3, none⟩ (.int .i64 f)).setCell ⟨g, 4, none⟩ (.int .i64 s))) := by
  have st : ∀ {w1 : World} (i : Nat) (u : Value), Below X w0 w1 → Below X w0 (w1.setCell ⟨g, i, none⟩ u) := fun {w1} i u h1 => h1.trans ⟨rfl, rfl, rfl, by simp [World.setCell], fun k hk => Go.RowKit.Below.heap_setCell _ _ _ _ (by simp; omega)⟩
  exact st 4 _ (st 3 _ (st 2 _ (st 1 _ (st 0 _ h))))
theorem box_five {g p : Nat} {w : World} {a b c u : Value} {f s : Int} {t : TypeId} (h : Ret.Box w p u t) (hne : p ≠ g) : Ret.Box (((((((w).setCell ⟨g, 0, none⟩ (a)).setCell ⟨g, 1, none⟩ (b)).setCell ⟨g, 2, none⟩ (c)).setCell ⟨g, 3, none⟩ (.int .i64 f)).setCell ⟨g, 4, none⟩ (.int .i64 s))) p u t := by
  have st : ∀ {w1 : World} (i : Nat) (y : Value), Ret.Box w1 p u t → Ret.Box (w1.setCell ⟨g, i, none⟩ y) p u t := fun {w1} i y h1 => h1.grown (Ret.grownBy_set w1 ⟨g, i, none⟩ y) (by simpa using hne)
  exact st 4 _ (st 3 _ (st 2 _ (st 1 _ (st 0 _ h))))
theorem blk_five_other {g p : Nat} {w : World} {a b c : Value} {f s : Int} {cs : Array Value} {t : TypeId} (h : Ret.Blk w p cs t) (hne : p ≠ g) : Ret.Blk (((((((w).setCell ⟨g, 0, none⟩ (a)).setCell ⟨g, 1, none⟩ (b)).setCell ⟨g, 2, none⟩ (c)).setCell ⟨g, 3, none⟩ (.int .i64 f)).setCell ⟨g, 4, none⟩ (.int .i64 s))) p cs t :=
  ((((h.other (a := ⟨g, 0, none⟩) (Ne.symm hne) a).other (a := ⟨g, 1, none⟩) (Ne.symm hne) b).other (a := ⟨g, 2, none⟩) (Ne.symm hne) c).other (a := ⟨g, 3, none⟩) (Ne.symm hne) (.int .i64 f)).other (a := ⟨g, 4, none⟩) (Ne.symm hne) (.int .i64 s)
theorem cell_five {g p i : Nat} {w : World} {a b c u : Value} {f s : Int} (h : w.cell? ⟨p, i, none⟩ = some u) (hne : p ≠ g) : (((((((w).setCell ⟨g, 0, none⟩ (a)).setCell ⟨g, 1, none⟩ (b)).setCell ⟨g, 2, none⟩ (c)).setCell ⟨g, 3, none⟩ (.int .i64 f)).setCell ⟨g, 4, none⟩ (.int .i64 s))).cell? ⟨p, i, none⟩ = some u := by
  have st : ∀ {w1 : World} (j : Nat) (y : Value), w1.cell? ⟨p, i, none⟩ = some u → (w1.setCell ⟨g, j, none⟩ y).cell? ⟨p, i, none⟩ = some u := fun {w1} j y h1 => (Ret.grownBy_set w1 ⟨g, j, none⟩ y).cell h1 (by simpa using hne)
  exact st 4 _ (st 3 _ (st 2 _ (st 1 _ (st 0 _ h))))
theorem cells5 {W : World} {g : Nat} {a b c : Value} {f s : Int} {t : TypeId} (h : Ret.Blk W g (dc a b c f s) t) : W.cell? ⟨g, 0, none⟩ = some a ∧ W.cell? ⟨g, 1, none⟩ = some b ∧ W.cell? ⟨g, 2, none⟩ = some c ∧ W.cell? ⟨g, 3, none⟩ = some (.int .i64 f) ∧ W.cell? ⟨g, 4, none⟩ = some (.int .i64 s) := ⟨h.cell 0, h.cell 1, h.cell 2, h.cell 3, h.cell 4⟩
theorem froz5 {W : World} {g : Nat} {cs : Array Value} {t : TypeId} (h : Ret.Blk W g cs t) : W.frozen? ⟨g, 0, none⟩ = false ∧ W.frozen? ⟨g, 1, none⟩ = false ∧ W.frozen? ⟨g, 2, none⟩ = false ∧ W.frozen? ⟨g, 3, none⟩ = false ∧ W.frozen? ⟨g, 4, none⟩ = false := ⟨h.frozen 0, h.frozen 1, h.frozen 2, h.frozen 3, h.frozen 4⟩
theorem dOwn_zero (B : Nat) (w : World) : DOwn B w nil nil nil ([], [], [], 0, 0) := ⟨Own.nil _ _ _ _, Own.nil _ (Value.int .u8) _ _, Own.nil _ _ _ _, (fun g h => by cases h), (fun g h => by cases h), (fun g h => by cases h)⟩
def zD : Dt := ([], [], [], 0, 0)
/-- What SignWithKey signs. -/
def sgX (T : List (List ByteArray × Int)) (key n : List ByteArray) (b : List Int) (u : Int) : Dt := sgD (lkN T key) (n, b, key, u, 0)
def sgOk (T : List (List ByteArray × Int)) (key n : List ByteArray) (b : List Int) (u : Int) : Bool := !(lkN T key == 0) && validD (sgX T key n b u)
def sgK (T : List (List ByteArray × Int)) (key n : List ByteArray) (b : List Int) (u : Int) : Dt := if sgOk T key n b u then sgX T key n b u else zD
theorem secV {v u : Value} {T : List (List ByteArray × Int)} {m : List ByteArray} {w : World} (r : Int) (hr : lkN T m = r) (h : TabHolds w v T) (g : Holds Value.string w u m) (hl : T.length ≤ 4000000) (hT : smT T) (hm : bulk m ≤ 9000000) :
    Calls Try.prog 54 #[v, .agg #[u]] w fun e w' => e = .returned (.int .i64 r) ∧ Below w.heap.size w w' := hr ▸ specSecretOf v u T m w h g hl hT hm
theorem isecV {v u : Value} {T : List (List ByteArray × Int)} {m : List ByteArray} {w : World} (r : Int) (hr : lkN T m = r) (h : TabHolds w v T) (g : Holds Value.string w u m) (hl : T.length ≤ 4000000) (hT : smT T) (hm : bulk m ≤ 9000000) :
    Calls Try.prog 59 #[v, .agg #[u]] w fun e w' => e = .returned (.int .i64 r) ∧ Below w.heap.size w w' := hr ▸ implSecretOf v u T m w h g hl hT hm
/-- A signed packet: its cells in letters. -/
def GivesX (w : World) (ln : List ByteArray) (lb : List Int) (lk : List ByteArray) (u M : Int) (e : Ending) (w' : World) : Prop :=
  ∃ xa na ca xb nb cb xc nc cc, e = .returned (.agg #[.slice xa na ca, .slice xb nb cb, .slice xc nc cc, .int .i64 u, .int .i64 M]) ∧ DOwn w.heap.size w' (.slice xa na ca) (.slice xb nb cb) (.slice xc nc cc) (ln, lb, lk, u, M) ∧ Below w.heap.size w w'
theorem specSignV {a b c : Value} {ln lk : List ByteArray} {lb : List Int} {u r : Int} {w : World} (M : Int) (hM : Seal.mac r (portD (ln, lb, lk, u, 0)) = M) (h : DHold w a b c (ln, lb, lk, u, 0)) (hB : Sl.Byt lb) (hl : smD (ln, lb, lk, u, 0)) :
    Calls Try.prog 108 #[.int .i64 r, .agg #[a, b, c, .int .i64 u, .int .i64 0]] w (GivesX w ln lb lk u M) := by
  refine (specSignData a b c (ln, lb, lk, u, 0) r w h hB hl).mono ?_
  rintro e w' ⟨a1, b1, c1, rfl, hd, hb⟩
  obtain ⟨xa, na, ca, xb, nb, cb, xc, nc, cc, rfl, rfl, rfl⟩ := hd.hold.shape
  have e1 : sgD r (ln, lb, lk, u, 0) = (ln, lb, lk, u, M) := by unfold sgD; rw [hM]
  rw [e1] at hd ⊢
  exact ⟨_, _, _, _, _, _, _, _, _, rfl, hd, hb⟩
theorem implSignV {a b c : Value} {ln lk : List ByteArray} {lb : List Int} {u r : Int} {w : World} (M : Int) (hM : Seal.mac r (portD (ln, lb, lk, u, 0)) = M) (h : DHold w a b c (ln, lb, lk, u, 0)) (hB : Sl.Byt lb) (hl : smD (ln, lb, lk, u, 0)) :
    Calls Try.prog 109 #[.int .i64 r, .agg #[a, b, c, .int .i64 u, .int .i64 0]] w (GivesX w ln lb lk u M) := by
  refine (implSignData a b c (ln, lb, lk, u, 0) r w h hB hl).mono ?_
  rintro e w' ⟨a1, b1, c1, rfl, hd, hb⟩
  obtain ⟨xa, na, ca, xb, nb, cb, xc, nc, cc, rfl, rfl, rfl⟩ := hd.hold.shape
  have e1 : sgD r (ln, lb, lk, u, 0) = (ln, lb, lk, u, M) := by unfold sgD; rw [hM]
  rw [e1] at hd ⊢
  exact ⟨_, _, _, _, _, _, _, _, _, rfl, hd, hb⟩

set_option maxRecDepth 100000 in
set_option maxHeartbeats 4000000 in
theorem signR1 {Q : Exit → Act → World → Prop} {v1 v2 v5 v8 v9 v10 v11 v12 v13 v14 v15 v16 v17 v18 v19 v20 v21 v22 v23 v24 v25 v26 v27 v28 v29 v30 v31 v32 : Value} {w : World} {p q nl cl nk ck nn cn nb cb : Nat} {xl xk xn xb : Option Addr} {u r M : Int} {ML : List Ent} {lk ln : List ByteArray} {lb : List Int} (HT : Hid (TabH w (.slice xl nl cl) ML)) (HK : Hid (Holds Value.string w (.slice xk nk ck) lk)) (HN : Hid (Holds Value.string w (.slice xn nn cn) ln)) (HB : Hid (Sl.Holds .u8 w (.slice xb nb cb) lb)) (HLM : Hid ((strip ML).length ≤ 4000000)) (HTS : Hid (smT (strip ML))) (HKB : Hid (bulk lk ≤ 9000000)) (HBY : Hid (Sl.Byt lb)) (HSM : Hid (smD (ln, lb, lk, u, 0))) (HR : Hid (lkN (strip ML) lk = r)) (HM : Hid (Seal.mac r (portD (ln, lb, lk, u, 0)) = M)) (KK : Hid (w.cell? ⟨p, 0, none⟩ = some (.slice xk nk ck))) (KN : Hid (w.cell? ⟨q, 0, none⟩ = some (.slice xn nn cn)))
    (hQ : ∀ (u13 u14 u15 u16 u17 u18 u19 u20 u21 : Value) (gD ma da mb db mc dc_ : Nat) (ya yb yc : Option Addr)  (wx : World), w.heap.size ≤ gD → Ret.Blk wx gD (dc (.slice none 0 0) (.slice none 0 0) (.slice none 0 0) 0 0) 61 → DOwn w.heap.size wx (.slice ya ma da) (.slice yb mb db) (.slice yc mc dc_) (ln, lb, lk, u, M) → Below w.heap.size w wx → Q .normal ⟨#[.slice xl nl cl, v1, v2, .slice xb nb cb, .int .i64 u, v5, .pointer (some ⟨p, 0, none⟩), .pointer (some ⟨q, 0, none⟩), v8, v9, v10, v11, .pointer (some ⟨gD, 0, none⟩), u13, u14, u15, u16, u17, u18, u19, u20, u21, v22, v23, v24, v25, v26, v27, v28, v29, v30, v31, v32], []⟩ ((((((wx).setCell ⟨gD, 0, none⟩ (.slice ya ma da)).setCell ⟨gD, 1, none⟩ (.slice yb mb db)).setCell ⟨gD, 2, none⟩ (.slice yc mc dc_)).setCell ⟨gD, 3, none⟩ (.int .i64 u)).setCell ⟨gD, 4, none⟩ (.int .i64 M))) :
    (Code.region 1 #[{ dst := some 13, op := Op.move (Operand.tmp 0), type := 30, pos := "l09_key.go:37", after := #[], guard := none },
      { dst := some 14, op := Op.load 47 (Operand.tmp 6), type := 47, pos := "l09_key.go:37", after := #[], guard := none },
      { dst := some 15, op := Op.call { callee := Callee.value (Operand.func 54), args := #[Operand.tmp 13, Operand.tmp 14], argTypes := #[30, 47] }, type := 3, pos := "l09_key.go:37", after := #[{ on := 0, ground := Ground.data }, { on := 1, ground := Ground.data }], guard := none },
      { dst := some 16, op := Op.load 47 (Operand.tmp 7), type := 47, pos := "l09_key.go:37", after := #[], guard := none },
      { dst := some 17, op := Op.move (Operand.tmp 3), type := 44, pos := "l09_key.go:37", after := #[], guard := none },
      { dst := some 18, op := Op.load 47 (Operand.tmp 6), type := 47, pos := "l09_key.go:37", after := #[], guard := none },
      { dst := some 19, op := Op.move (Operand.tmp 4), type := 3, pos := "l09_key.go:37", after := #[], guard := none },
      { dst := some 20, op := Op.build 61 #[(0, Operand.tmp 16), (1, Operand.tmp 17), (2, Operand.tmp 18), (3, Operand.tmp 19)], type := 61, pos := "l09_key.go:37", after := #[{ on := 3, ground := Ground.data }, { on := 4, ground := Ground.data }, { on := 5, ground := Ground.data }, { on := 6, ground := Ground.data }], guard := none },
      { dst := some 21, op := Op.call { callee := Callee.value (Operand.func 108), args := #[Operand.tmp 15, Operand.tmp 20], argTypes := #[3, 61] }, type := 61, pos := "l09_key.go:37", after := #[{ on := 2, ground := Ground.data }, { on := 7, ground := Ground.data }, { on := 2, ground := Ground.chain }], guard := none },
      { dst := some 12, op := Op.alloc 61, type := 0, pos := "l09_key.go:37", after := #[], guard := none },
      { dst := none, op := Op.store 61 (Operand.tmp 12) (Operand.tmp 21), type := 0, pos := "l09_key.go:37", after := #[{ on := 9, ground := Ground.data }, { on := 8, ground := Ground.data }, { on := 8, ground := Ground.chain }, { on := 0, ground := Ground.phase }, { on := 1, ground := Ground.phase }, { on := 2, ground := Ground.phase }, { on := 3, ground := Ground.phase }, { on := 4, ground := Ground.phase }, { on := 5, ground := Ground.phase }, { on := 6, ground := Ground.phase }, { on := 7, ground := Ground.phase }, { on := 8, ground := Ground.phase }, { on := 9, ground := Ground.phase }], guard := none }] true).wp Try.prog Q ⟨#[.slice xl nl cl, v1, v2, .slice xb nb cb, .int .i64 u, v5, .pointer (some ⟨p, 0, none⟩), .pointer (some ⟨q, 0, none⟩), v8, v9, v10, v11, v12, v13, v14, v15, v16, v17, v18, v19, v20, v21, v22, v23, v24, v25, v26, v27, v28, v29, v30, v31, v32], []⟩ w := by
  have HQ := Lib.hid hQ; clear hQ
  have hdr : Below w.heap.size w w.drew := (Below.refl _ _).drew
  have BB := Lib.hid hdr
  refine wp_region_noPanic ?_
  refine wp_region_held_drew (S := (fun w' => w'.cell? ⟨p, 0, none⟩ = some (.slice xk nk ck) ∧ w'.cell? ⟨q, 0, none⟩ = some (.slice xn nn cn))) (by kernel_rfl) ?_ (fun hHeld => ?_)
  · exact ⟨kc KK.out BB.out, kc KN.out BB.out⟩
  clear hdr
  generalize w.drew = wd at *
  refine wpAnyH_take (i := 0) (oi := { dst := some 13, op := Op.move (Operand.tmp 0), type := 30, pos := "l09_key.go:37", after := #[], guard := none }) (v := ?_) rfl (by kernel_rfl) (by kernel_rfl) (by kernel_rfl) (fun _ _ _ h => h) (Or.inl ⟨by rfl, ?_⟩) (by assumption) ?_
  rotate_left
  · intro w' hSw; (try dsimp only at hSw); first | (go_simp; done) | (go_simp; with_reducible rfl)
  (try simp only [Act.put, List.setIfInBounds_toArray, List.set_cons_zero, List.set_cons_succ])
  refine wpAnyH_take (i := 1) (oi := { dst := some 14, op := Op.load 47 (Operand.tmp 6), type := 47, pos := "l09_key.go:37", after := #[], guard := none }) (v := ?_) rfl (by kernel_rfl) (by kernel_rfl) (by kernel_rfl) (fun _ _ _ h => h) (Or.inl ⟨by rfl, ?_⟩) (by assumption) ?_
  rotate_left
  · intro w' hSw; (try dsimp only at hSw); first | (go_simp; done) | (go_simp; with_reducible rfl)
  (try simp only [Act.put, List.setIfInBounds_toArray, List.set_cons_zero, List.set_cons_succ])
  refine wpAnyH_take (i := 3) (oi := { dst := some 16, op := Op.load 47 (Operand.tmp 7), type := 47, pos := "l09_key.go:37", after := #[], guard := none }) (v := ?_) rfl (by kernel_rfl) (by kernel_rfl) (by kernel_rfl) (fun _ _ _ h => h) (Or.inl ⟨by rfl, ?_⟩) (by assumption) ?_
  rotate_left
  · intro w' hSw; (try dsimp only at hSw); first | (go_simp; done) | (go_simp; with_reducible rfl)
  (try simp only [Act.put, List.setIfInBounds_toArray, List.set_cons_zero, List.set_cons_succ])
  refine wpAnyH_take (i := 4) (oi := { dst := some 17, op := Op.move (Operand.tmp 3), type := 44, pos := "l09_key.go:37", after := #[], guard := none }) (v := ?_) rfl (by kernel_rfl) (by kernel_rfl) (by kernel_rfl) (fun _ _ _ h => h) (Or.inl ⟨by rfl, ?_⟩) (by assumption) ?_
  rotate_left
  · intro w' hSw; (try dsimp only at hSw); first | (go_simp; done) | (go_simp; with_reducible rfl)
  (try simp only [Act.put, List.setIfInBounds_toArray, List.set_cons_zero, List.set_cons_succ])
  refine wpAnyH_take (i := 5) (oi := { dst := some 18, op := Op.load 47 (Operand.tmp 6), type := 47, pos := "l09_key.go:37", after := #[], guard := none }) (v := ?_) rfl (by kernel_rfl) (by kernel_rfl) (by kernel_rfl) (fun _ _ _ h => h) (Or.inl ⟨by rfl, ?_⟩) (by assumption) ?_
  rotate_left
  · intro w' hSw; (try dsimp only at hSw); first | (go_simp; done) | (go_simp; with_reducible rfl)
  (try simp only [Act.put, List.setIfInBounds_toArray, List.set_cons_zero, List.set_cons_succ])
  refine wpAnyH_take (i := 6) (oi := { dst := some 19, op := Op.move (Operand.tmp 4), type := 3, pos := "l09_key.go:37", after := #[], guard := none }) (v := ?_) rfl (by kernel_rfl) (by kernel_rfl) (by kernel_rfl) (fun _ _ _ h => h) (Or.inl ⟨by rfl, ?_⟩) (by assumption) ?_
  rotate_left
  · intro w' hSw; (try dsimp only at hSw); first | (go_simp; done) | (go_simp; with_reducible rfl)
  (try simp only [Act.put, List.setIfInBounds_toArray, List.set_cons_zero, List.set_cons_succ])
  refine wpAnyH_take (i := 7) (oi := { dst := some 20, op := Op.build 61 #[(0, Operand.tmp 16), (1, Operand.tmp 17), (2, Operand.tmp 18), (3, Operand.tmp 19)], type := 61, pos := "l09_key.go:37", after := #[{ on := 3, ground := Ground.data }, { on := 4, ground := Ground.data }, { on := 5, ground := Ground.data }, { on := 6, ground := Ground.data }], guard := none }) (v := ?_) rfl (by kernel_rfl) (by kernel_rfl) (by kernel_rfl) (fun _ _ _ h => h) (Or.inl ⟨by rfl, ?_⟩) (by assumption) ?_
  rotate_left
  · intro w' hSw; (try dsimp only at hSw); first | (go_simp; done) | (go_simp; with_reducible rfl)
  (try simp only [Act.put, List.setIfInBounds_toArray, List.set_cons_zero, List.set_cons_succ])
  refine wpAnyH_ready (rs := [2, 9]) (by kernel_rfl) (by simp) ?_
  refine AllReadyH.cons (o := { dst := some 15, op := Op.call { callee := Callee.value (Operand.func 54), args := #[Operand.tmp 13, Operand.tmp 14], argTypes := #[30, 47] }, type := 3, pos := "l09_key.go:37", after := #[{ on := 0, ground := Ground.data }, { on := 1, ground := Ground.data }], guard := none }) rfl (fun K hK => ?_) ?_
  ·
    go_simp
    refine (secV r HR.out ⟨ML, rfl, HT.out.on BB.out⟩ (HK.out.on BB.out) HLM.out HTS.out HKB.out).mono ?_
    rintro e wn1 ⟨rfl, hb⟩
    replace BB := Lib.hid (BB.out.trans (hb.mono BB.out.size))
    clear hb
    (try go_wp2_with fail)
    clear hHeld
    refine hK.out _ _ ?_ (fun hHeld => ?_)
    · (try dsimp only); exact ⟨kc KK.out BB.out, kc KN.out BB.out⟩
    clear hK K
    (try simp only [Act.put, List.setIfInBounds_toArray, List.set_cons_zero, List.set_cons_succ])
    refine wpAnyH_ready (rs := [8, 9]) (by kernel_rfl) (by simp) ?_
    refine AllReadyH.cons (o := { dst := some 21, op := Op.call { callee := Callee.value (Operand.func 108), args := #[Operand.tmp 15, Operand.tmp 20], argTypes := #[3, 61] }, type := 61, pos := "l09_key.go:37", after := #[{ on := 2, ground := Ground.data }, { on := 7, ground := Ground.data }, { on := 2, ground := Ground.chain }], guard := none }) rfl (fun K hK => ?_) ?_
    ·
      go_simp
      refine (specSignV M HM.out ⟨HN.out.on BB.out, HB.out.on BB.out, HK.out.on BB.out⟩ HBY.out HSM.out).mono ?_
      rintro e wn2 ⟨ya, ma, da, yb, mb, db, yc, mc, dc_, rfl, hd, hb⟩
      have HD := Lib.hid (hd.mono BB.out.size); clear hd
      replace BB := Lib.hid (BB.out.trans (hb.mono BB.out.size))
      clear hb
      (try go_wp2_with fail)
      clear hHeld
      refine hK.out _ _ ?_ (fun hHeld => ?_)
      · (try dsimp only); exact ⟨kc KK.out BB.out, kc KN.out BB.out⟩
      clear hK K
      (try simp only [Act.put, List.setIfInBounds_toArray, List.set_cons_zero, List.set_cons_succ])
      refine wpAnyH_ready (rs := [9]) (by kernel_rfl) (by simp) ?_
      refine AllReadyH.cons (o := { dst := some 12, op := Op.alloc 61, type := 0, pos := "l09_key.go:37", after := #[], guard := none }) rfl (fun K hK => ?_) AllReadyH.nil
      go_simp
      have hb : Below wn2.heap.size wn2 (wn2.alloc (.cells #[.slice none 0 0, .slice none 0 0, .slice none 0 0, .int .i64 0, .int .i64 0] 61)) := (Below.refl _ _).alloc (Nat.le_refl _) _
      obtain ⟨gD, hgD⟩ : ∃ g, g = wn2.heap.size := ⟨_, rfl⟩
      have XD := Lib.hid (show Ret.Blk (wn2.alloc (.cells #[.slice none 0 0, .slice none 0 0, .slice none 0 0, .int .i64 0, .int .i64 0] 61)) gD (dc (.slice none 0 0) (.slice none 0 0) (.slice none 0 0) 0 0) 61 from by rw [hgD]; exact Ret.Blk.new wn2 _ _)
      have HDW := Lib.hid (show w.heap.size ≤ gD from by rw [hgD]; exact BB.out.size)
      rw [← hgD]
      clear hgD
      replace HD := Lib.hid (HD.out.on hb)
      replace BB := Lib.hid (BB.out.trans (hb.mono BB.out.size))
      clear hb
      generalize wn2.alloc (.cells #[.slice none 0 0, .slice none 0 0, .slice none 0 0, .int .i64 0, .int .i64 0] 61) = wn3 at *
      clear hHeld
      refine hK.out _ _ ?_ (fun hHeld => ?_)
      · (try dsimp only); exact ⟨kc KK.out BB.out, kc KN.out BB.out⟩
      clear hK K
      (try simp only [Act.put, List.setIfInBounds_toArray, List.set_cons_zero, List.set_cons_succ])
      refine wpAnyH_ready (rs := [10]) (by kernel_rfl) (by simp) ?_
      refine AllReadyH.cons (o := { dst := none, op := Op.store 61 (Operand.tmp 12) (Operand.tmp 21), type := 0, pos := "l09_key.go:37", after := #[{ on := 9, ground := Ground.data }, { on := 8, ground := Ground.data }, { on := 8, ground := Ground.chain }, { on := 0, ground := Ground.phase }, { on := 1, ground := Ground.phase }, { on := 2, ground := Ground.phase }, { on := 3, ground := Ground.phase }, { on := 4, ground := Ground.phase }, { on := 5, ground := Ground.phase }, { on := 6, ground := Ground.phase }, { on := 7, ground := Ground.phase }, { on := 8, ground := Ground.phase }, { on := 9, ground := Ground.phase }], guard := none }) rfl (fun K hK => ?_) AllReadyH.nil
      obtain ⟨r0, r1, r2, r3, r4⟩ := cells5 XD.out
      obtain ⟨t0, t1, t2, t3, t4⟩ := froz5 XD.out
      go_simp
      clear hHeld
      refine hK.out _ _ ?_ (fun hHeld => ?_)
      · (try dsimp only); exact ⟨cell_five (kc KK.out BB.out) (by have h1 : p < w.heap.size := cell_lt KK.out; have h2 := HDW.out; omega), cell_five (kc KN.out BB.out) (by have h1 : q < w.heap.size := cell_lt KN.out; have h2 := HDW.out; omega)⟩
      clear hK K
      (try simp only [Act.put, List.setIfInBounds_toArray, List.set_cons_zero, List.set_cons_succ])
      refine wpAnyH_done (by kernel_rfl) ?_ _
      exact NoPanic.normal (HQ.out _ _ _ _ _ _ _ _ _ gD ma da mb db mc dc_ ya yb yc _ HDW.out XD.out HD.out BB.out)
    refine AllReadyH.cons (o := { dst := some 12, op := Op.alloc 61, type := 0, pos := "l09_key.go:37", after := #[], guard := none }) rfl (fun K hK => ?_) AllReadyH.nil
    go_simp
    have hb : Below wn1.heap.size wn1 (wn1.alloc (.cells #[.slice none 0 0, .slice none 0 0, .slice none 0 0, .int .i64 0, .int .i64 0] 61)) := (Below.refl _ _).alloc (Nat.le_refl _) _
    obtain ⟨gD, hgD⟩ : ∃ g, g = wn1.heap.size := ⟨_, rfl⟩
    have XD := Lib.hid (show Ret.Blk (wn1.alloc (.cells #[.slice none 0 0, .slice none 0 0, .slice none 0 0, .int .i64 0, .int .i64 0] 61)) gD (dc (.slice none 0 0) (.slice none 0 0) (.slice none 0 0) 0 0) 61 from by rw [hgD]; exact Ret.Blk.new wn1 _ _)
    have HDW := Lib.hid (show w.heap.size ≤ gD from by rw [hgD]; exact BB.out.size)
    rw [← hgD]
    clear hgD
    replace BB := Lib.hid (BB.out.trans (hb.mono BB.out.size))
    clear hb
    generalize wn1.alloc (.cells #[.slice none 0 0, .slice none 0 0, .slice none 0 0, .int .i64 0, .int .i64 0] 61) = wn5 at *
    clear hHeld
    refine hK.out _ _ ?_ (fun hHeld => ?_)
    · (try dsimp only); exact ⟨kc KK.out BB.out, kc KN.out BB.out⟩
    clear hK K
    (try simp only [Act.put, List.setIfInBounds_toArray, List.set_cons_zero, List.set_cons_succ])
    refine wpAnyH_ready (rs := [8]) (by kernel_rfl) (by simp) ?_
    refine AllReadyH.cons (o := { dst := some 21, op := Op.call { callee := Callee.value (Operand.func 108), args := #[Operand.tmp 15, Operand.tmp 20], argTypes := #[3, 61] }, type := 61, pos := "l09_key.go:37", after := #[{ on := 2, ground := Ground.data }, { on := 7, ground := Ground.data }, { on := 2, ground := Ground.chain }], guard := none }) rfl (fun K hK => ?_) AllReadyH.nil
    go_simp
    refine (specSignV M HM.out ⟨HN.out.on BB.out, HB.out.on BB.out, HK.out.on BB.out⟩ HBY.out HSM.out).mono ?_
    rintro e wn6 ⟨ya, ma, da, yb, mb, db, yc, mc, dc_, rfl, hd, hb⟩
    have HD := Lib.hid (hd.mono BB.out.size); clear hd
    replace XD := Lib.hid (XD.out.on hb)
    replace BB := Lib.hid (BB.out.trans (hb.mono BB.out.size))
    clear hb
    (try go_wp2_with fail)
    clear hHeld
    refine hK.out _ _ ?_ (fun hHeld => ?_)
    · (try dsimp only); exact ⟨kc KK.out BB.out, kc KN.out BB.out⟩
    clear hK K
    (try simp only [Act.put, List.setIfInBounds_toArray, List.set_cons_zero, List.set_cons_succ])
    refine wpAnyH_ready (rs := [10]) (by kernel_rfl) (by simp) ?_
    refine AllReadyH.cons (o := { dst := none, op := Op.store 61 (Operand.tmp 12) (Operand.tmp 21), type := 0, pos := "l09_key.go:37", after := #[{ on := 9, ground := Ground.data }, { on := 8, ground := Ground.data }, { on := 8, ground := Ground.chain }, { on := 0, ground := Ground.phase }, { on := 1, ground := Ground.phase }, { on := 2, ground := Ground.phase }, { on := 3, ground := Ground.phase }, { on := 4, ground := Ground.phase }, { on := 5, ground := Ground.phase }, { on := 6, ground := Ground.phase }, { on := 7, ground := Ground.phase }, { on := 8, ground := Ground.phase }, { on := 9, ground := Ground.phase }], guard := none }) rfl (fun K hK => ?_) AllReadyH.nil
    obtain ⟨r0, r1, r2, r3, r4⟩ := cells5 XD.out
    obtain ⟨t0, t1, t2, t3, t4⟩ := froz5 XD.out
    go_simp
    clear hHeld
    refine hK.out _ _ ?_ (fun hHeld => ?_)
    · (try dsimp only); exact ⟨cell_five (kc KK.out BB.out) (by have h1 : p < w.heap.size := cell_lt KK.out; have h2 := HDW.out; omega), cell_five (kc KN.out BB.out) (by have h1 : q < w.heap.size := cell_lt KN.out; have h2 := HDW.out; omega)⟩
    clear hK K
    (try simp only [Act.put, List.setIfInBounds_toArray, List.set_cons_zero, List.set_cons_succ])
    refine wpAnyH_done (by kernel_rfl) ?_ _
    exact NoPanic.normal (HQ.out _ _ _ _ _ _ _ _ _ gD ma da mb db mc dc_ ya yb yc _ HDW.out XD.out HD.out BB.out)
  refine AllReadyH.cons (o := { dst := some 12, op := Op.alloc 61, type := 0, pos := "l09_key.go:37", after := #[], guard := none }) rfl (fun K hK => ?_) AllReadyH.nil
  go_simp
  have hb : Below wd.heap.size wd (wd.alloc (.cells #[.slice none 0 0, .slice none 0 0, .slice none 0 0, .int .i64 0, .int .i64 0] 61)) := (Below.refl _ _).alloc (Nat.le_refl _) _
  obtain ⟨gD, hgD⟩ : ∃ g, g = wd.heap.size := ⟨_, rfl⟩
  have XD := Lib.hid (show Ret.Blk (wd.alloc (.cells #[.slice none 0 0, .slice none 0 0, .slice none 0 0, .int .i64 0, .int .i64 0] 61)) gD (dc (.slice none 0 0) (.slice none 0 0) (.slice none 0 0) 0 0) 61 from by rw [hgD]; exact Ret.Blk.new wd _ _)
  have HDW := Lib.hid (show w.heap.size ≤ gD from by rw [hgD]; exact BB.out.size)
  rw [← hgD]
  clear hgD
  replace BB := Lib.hid (BB.out.trans (hb.mono BB.out.size))
  clear hb
  generalize wd.alloc (.cells #[.slice none 0 0, .slice none 0 0, .slice none 0 0, .int .i64 0, .int .i64 0] 61) = wn8 at *
  clear hHeld
  refine hK.out _ _ ?_ (fun hHeld => ?_)
  · (try dsimp only); exact ⟨kc KK.out BB.out, kc KN.out BB.out⟩
  clear hK K
  (try simp only [Act.put, List.setIfInBounds_toArray, List.set_cons_zero, List.set_cons_succ])
  refine wpAnyH_ready (rs := [2]) (by kernel_rfl) (by simp) ?_
  refine AllReadyH.cons (o := { dst := some 15, op := Op.call { callee := Callee.value (Operand.func 54), args := #[Operand.tmp 13, Operand.tmp 14], argTypes := #[30, 47] }, type := 3, pos := "l09_key.go:37", after := #[{ on := 0, ground := Ground.data }, { on := 1, ground := Ground.data }], guard := none }) rfl (fun K hK => ?_) AllReadyH.nil
  go_simp
  refine (secV r HR.out ⟨ML, rfl, HT.out.on BB.out⟩ (HK.out.on BB.out) HLM.out HTS.out HKB.out).mono ?_
  rintro e wn9 ⟨rfl, hb⟩
  replace XD := Lib.hid (XD.out.on hb)
  replace BB := Lib.hid (BB.out.trans (hb.mono BB.out.size))
  clear hb
  (try go_wp2_with fail)
  clear hHeld
  refine hK.out _ _ ?_ (fun hHeld => ?_)
  · (try dsimp only); exact ⟨kc KK.out BB.out, kc KN.out BB.out⟩
  clear hK K
  (try simp only [Act.put, List.setIfInBounds_toArray, List.set_cons_zero, List.set_cons_succ])
  refine wpAnyH_ready (rs := [8]) (by kernel_rfl) (by simp) ?_
  refine AllReadyH.cons (o := { dst := some 21, op := Op.call { callee := Callee.value (Operand.func 108), args := #[Operand.tmp 15, Operand.tmp 20], argTypes := #[3, 61] }, type := 61, pos := "l09_key.go:37", after := #[{ on := 2, ground := Ground.data }, { on := 7, ground := Ground.data }, { on := 2, ground := Ground.chain }], guard := none }) rfl (fun K hK => ?_) AllReadyH.nil
  go_simp
  refine (specSignV M HM.out ⟨HN.out.on BB.out, HB.out.on BB.out, HK.out.on BB.out⟩ HBY.out HSM.out).mono ?_
  rintro e wn10 ⟨ya, ma, da, yb, mb, db, yc, mc, dc_, rfl, hd, hb⟩
  have HD := Lib.hid (hd.mono BB.out.size); clear hd
  replace XD := Lib.hid (XD.out.on hb)
  replace BB := Lib.hid (BB.out.trans (hb.mono BB.out.size))
  clear hb
  (try go_wp2_with fail)
  clear hHeld
  refine hK.out _ _ ?_ (fun hHeld => ?_)
  · (try dsimp only); exact ⟨kc KK.out BB.out, kc KN.out BB.out⟩
  clear hK K
  (try simp only [Act.put, List.setIfInBounds_toArray, List.set_cons_zero, List.set_cons_succ])
  refine wpAnyH_ready (rs := [10]) (by kernel_rfl) (by simp) ?_
  refine AllReadyH.cons (o := { dst := none, op := Op.store 61 (Operand.tmp 12) (Operand.tmp 21), type := 0, pos := "l09_key.go:37", after := #[{ on := 9, ground := Ground.data }, { on := 8, ground := Ground.data }, { on := 8, ground := Ground.chain }, { on := 0, ground := Ground.phase }, { on := 1, ground := Ground.phase }, { on := 2, ground := Ground.phase }, { on := 3, ground := Ground.phase }, { on := 4, ground := Ground.phase }, { on := 5, ground := Ground.phase }, { on := 6, ground := Ground.phase }, { on := 7, ground := Ground.phase }, { on := 8, ground := Ground.phase }, { on := 9, ground := Ground.phase }], guard := none }) rfl (fun K hK => ?_) AllReadyH.nil
  obtain ⟨r0, r1, r2, r3, r4⟩ := cells5 XD.out
  obtain ⟨t0, t1, t2, t3, t4⟩ := froz5 XD.out
  go_simp
  clear hHeld
  refine hK.out _ _ ?_ (fun hHeld => ?_)
  · (try dsimp only); exact ⟨cell_five (kc KK.out BB.out) (by have h1 : p < w.heap.size := cell_lt KK.out; have h2 := HDW.out; omega), cell_five (kc KN.out BB.out) (by have h1 : q < w.heap.size := cell_lt KN.out; have h2 := HDW.out; omega)⟩
  clear hK K
  (try simp only [Act.put, List.setIfInBounds_toArray, List.set_cons_zero, List.set_cons_succ])
  refine wpAnyH_done (by kernel_rfl) ?_ _
  exact NoPanic.normal (HQ.out _ _ _ _ _ _ _ _ _ gD ma da mb db mc dc_ ya yb yc _ HDW.out XD.out HD.out BB.out)

end Go.Proofs.Ytcidfmmeonhkhaa.Row.Ring
/- Contracts of SignWithKey, the model's and the program's. No conditions but that lengths fit. -/
namespace Go.Proofs.Ytcidfmmeonhkhaa.Row.Ring
open Go.ChangeShapes Go.WideShapes Go.ChangeAt Go.RowKit Go.Instr
set_option linter.unusedVariables false
set_option maxRecDepth 100000

theorem sgOk_zero {T : List (List ByteArray × Int)} {key n : List ByteArray} {b : List Int} {u r : Int} (hr : lkN T key = r) (h : (r == 0) = true) : sgOk T key n b u = false := by unfold sgOk; rw [hr, h]; rfl
theorem sgOk_val {T : List (List ByteArray × Int)} {key n : List ByteArray} {b : List Int} {u r M : Int} {z : Bool} (hr : lkN T key = r) (h : (r == 0) = false) (hM : Seal.mac r (portD (n, b, key, u, 0)) = M) (hz : validD (n, b, key, u, M) = z) : sgOk T key n b u = z ∧ sgX T key n b u = (n, b, key, u, M) := by
  have e : sgX T key n b u = (n, b, key, u, M) := by unfold sgX sgD; rw [hr, hM]
  refine ⟨?_, e⟩
  unfold sgOk
  rw [hr, h, e, hz]; rfl
theorem sgK_no {T : List (List ByteArray × Int)} {key n : List ByteArray} {b : List Int} {u : Int} (h : sgOk T key n b u = false) : sgK T key n b u = zD := by unfold sgK; rw [h]; rfl
theorem sgK_yes {T : List (List ByteArray × Int)} {key n : List ByteArray} {b : List Int} {u : Int} (h : sgOk T key n b u = true) : sgK T key n b u = sgX T key n b u := by unfold sgK; rw [h]; rfl

set_option maxHeartbeats 8000000 in
theorem specSignWithKey (v uk un vb : Value) (T : List (List ByteArray × Int)) (lk ln : List ByteArray) (lb : List Int) (u : Int) (w : World) (h : TabHolds w v T) (gk : Holds Value.string w uk lk) (gn : Holds Value.string w un ln) (gb : Sl.Holds .u8 w vb lb) (hB : Sl.Byt lb) (hl : T.length ≤ 4000000) (hT : smT T) (hk : bulk lk ≤ 1200000) (hn : bulk ln ≤ 1200000) (hlb : lb.length ≤ 1200000) :
    Calls Try.prog 77 #[v, .agg #[uk], .agg #[un], vb, .int .i64 u] w (GivesDB w (sgK T lk ln lb u) (sgOk T lk ln lb u)) := by
  obtain ⟨L, rfl, h⟩ := h
  obtain ⟨xl, nl, cl, rfl, -, -, hh⟩ := h.shapeN
  obtain ⟨xk, nk, ck, rfl, -, -, hk1⟩ := gk.shapeN
  obtain ⟨xn, nn, cn, rfl, -, -, hn1⟩ := gn.shapeN
  obtain ⟨xb, nb, cb, rfl, -, -, hb1⟩ := Holds.shapeN (enc := Value.int .u8) gb
  replace hb1 : Sl.Holds .u8 w (.slice xb nb cb) lb := hb1
  have ha := (Below.refl w.heap.size w).alloc (Nat.le_refl _) (.cells #[.slice xk nk ck] 47)
  have hb := ha.alloc (by simp) (.cells #[.slice xn nn cn] 47)
  have hc := hb.alloc (by simp <;> omega) (.cells (dc (.slice none 0 0) (.slice none 0 0) (.slice none 0 0) 0 0) 61)
  have HB := Lib.hid hc
  have HXK := Lib.hid (((Ret.Box.new w (.slice xk nk ck) 47).on ((Below.refl _ _).alloc (Nat.le_refl _) (.cells #[.slice xn nn cn] 47))).on ((Below.refl _ _).alloc (Nat.le_refl _) (.cells (dc (.slice none 0 0) (.slice none 0 0) (.slice none 0 0) 0 0) 61)))
  have HXN := Lib.hid ((Ret.Box.new' (w := w.alloc (.cells #[.slice xk nk ck] 47)) (.slice xn nn cn) 47 (n := w.heap.size + 1) (by simp)).on ((Below.refl _ _).alloc (Nat.le_refl _) (.cells (dc (.slice none 0 0) (.slice none 0 0) (.slice none 0 0) 0 0) 61)))
  have HR := Lib.hid (Ret.Blk.new' (w := (w.alloc (.cells #[.slice xk nk ck] 47)).alloc (.cells #[.slice xn nn cn] 47)) (n := w.heap.size + 2) (dc (.slice none 0 0) (.slice none 0 0) (.slice none 0 0) 0 0) 61 (by simp))
  have HS := Lib.hid (show (((w.alloc (.cells #[.slice xk nk ck] 47)).alloc (.cells #[.slice xn nn cn] 47)).alloc (.cells (dc (.slice none 0 0) (.slice none 0 0) (.slice none 0 0) 0 0) 61)).heap.size = w.heap.size + 3 by simp)
  have HH := Lib.hid (hh.on hc); have HK := Lib.hid (hk1.on hc); have HN := Lib.hid (hn1.on hc); have HBB := Lib.hid (hb1.on hc)
  have HL := Lib.hid (show (strip L).length ≤ 4000000 from hl); have HT := Lib.hid hT; have HKB := Lib.hid (show bulk lk ≤ 9000000 by omega); have HBY := Lib.hid hB
  have HSM := Lib.hid (show smD (ln, lb, lk, u, 0) from ⟨hn, hlb, hk⟩)
  have HK1 := Lib.hid hk; have HN1 := Lib.hid hn
  obtain ⟨r, hr⟩ : ∃ r, lkN (strip L) lk = r := ⟨_, rfl⟩
  obtain ⟨M, hM⟩ : ∃ M, Seal.mac r (portD (ln, lb, lk, u, 0)) = M := ⟨_, rfl⟩
  obtain ⟨z, hz⟩ : ∃ z, validD (ln, lb, lk, u, M) = z := ⟨_, rfl⟩
  have HRR := Lib.hid hr; have HM := Lib.hid hM; have HZ := Lib.hid hz
  clear ha hb hc hh hk1 hn1 hb1 h gk gn gb hB hl hT hk hn hlb hr hM hz
  go_enter Try.func77, Try.ntmps77
  go_wp2_with fail
  refine signR1 HH HK HN HBB HL HT HKB HBY HSM HRR HM (Lib.hid HXK.out.cell) (Lib.hid HXN.out.cell) ?_
  intro u13 u14 u15 u16 u17 u18 u19 u20 u21 gD ma da mb db mc dc_ ya yb yc w2 hgd hxd hd hb2
  have hs0 : (((w.alloc (.cells #[.slice xk nk ck] 47)).alloc (.cells #[.slice xn nn cn] 47)).alloc (.cells (#[.slice none 0 0, .slice none 0 0, .slice none 0 0, .int .i64 0, .int .i64 0]) 61)).heap.size = w.heap.size + 3 := by simp
  have hs2 := hb2.size
  have hg3 : w.heap.size + 3 ≤ gD := by omega
  have HX := Lib.hid (show Ret.Blk ((((((w2).setCell ⟨gD, 0, none⟩ (.slice ya ma da)).setCell ⟨gD, 1, none⟩ (.slice yb mb db)).setCell ⟨gD, 2, none⟩ (.slice yc mc dc_)).setCell ⟨gD, 3, none⟩ (.int .i64 u)).setCell ⟨gD, 4, none⟩ (.int .i64 M)) gD (dc (.slice ya ma da) (.slice yb mb db) (.slice yc mc dc_) u M) 61 from blk_five hxd)
  have HD := Lib.hid (show DOwn w.heap.size ((((((w2).setCell ⟨gD, 0, none⟩ (.slice ya ma da)).setCell ⟨gD, 1, none⟩ (.slice yb mb db)).setCell ⟨gD, 2, none⟩ (.slice yc mc dc_)).setCell ⟨gD, 3, none⟩ (.int .i64 u)).setCell ⟨gD, 4, none⟩ (.int .i64 M)) (.slice ya ma da) (.slice yb mb db) (.slice yc mc dc_) (ln, lb, lk, u, M) from (hd.mono (by omega)).five hxd)
  replace HXK := Lib.hid (show Ret.Box ((((((w2).setCell ⟨gD, 0, none⟩ (.slice ya ma da)).setCell ⟨gD, 1, none⟩ (.slice yb mb db)).setCell ⟨gD, 2, none⟩ (.slice yc mc dc_)).setCell ⟨gD, 3, none⟩ (.int .i64 u)).setCell ⟨gD, 4, none⟩ (.int .i64 M)) w.heap.size (.slice xk nk ck) 47 from box_five (HXK.out.on hb2) (by omega))
  replace HR := Lib.hid (show Ret.Blk ((((((w2).setCell ⟨gD, 0, none⟩ (.slice ya ma da)).setCell ⟨gD, 1, none⟩ (.slice yb mb db)).setCell ⟨gD, 2, none⟩ (.slice yc mc dc_)).setCell ⟨gD, 3, none⟩ (.int .i64 u)).setCell ⟨gD, 4, none⟩ (.int .i64 M)) (w.heap.size + 2) (dc (.slice none 0 0) (.slice none 0 0) (.slice none 0 0) 0 0) 61 from blk_five_other (HR.out.on hb2) (by omega))
  have HBW := Lib.hid (show Below (((w.alloc (.cells #[.slice xk nk ck] 47)).alloc (.cells #[.slice xn nn cn] 47)).alloc (.cells (#[.slice none 0 0, .slice none 0 0, .slice none 0 0, .int .i64 0, .int .i64 0]) 61)).heap.size (((w.alloc (.cells #[.slice xk nk ck] 47)).alloc (.cells #[.slice xn nn cn] 47)).alloc (.cells (#[.slice none 0 0, .slice none 0 0, .slice none 0 0, .int .i64 0, .int .i64 0]) 61)) ((((((w2).setCell ⟨gD, 0, none⟩ (.slice ya ma da)).setCell ⟨gD, 1, none⟩ (.slice yb mb db)).setCell ⟨gD, 2, none⟩ (.slice yc mc dc_)).setCell ⟨gD, 3, none⟩ (.int .i64 u)).setCell ⟨gD, 4, none⟩ (.int .i64 M)) from below_five hb2 hgd)
  have HSZ := Lib.hid (show w.heap.size + 3 ≤ ((((((w2).setCell ⟨gD, 0, none⟩ (.slice ya ma da)).setCell ⟨gD, 1, none⟩ (.slice yb mb db)).setCell ⟨gD, 2, none⟩ (.slice yc mc dc_)).setCell ⟨gD, 3, none⟩ (.int .i64 u)).setCell ⟨gD, 4, none⟩ (.int .i64 M)).heap.size from by have h1 := HBW.out.size; omega)
  replace HB := Lib.hid (HB.out.trans (HBW.out.mono (by omega)))
  replace HH := Lib.hid (HH.out.on HBW.out); replace HK := Lib.hid (HK.out.on HBW.out)
  clear hgd hxd hd hb2 hs0 hs2 hg3 HBW HS HN HBB HXN
  generalize ((((((w2).setCell ⟨gD, 0, none⟩ (.slice ya ma da)).setCell ⟨gD, 1, none⟩ (.slice yb mb db)).setCell ⟨gD, 2, none⟩ (.slice yc mc dc_)).setCell ⟨gD, 3, none⟩ (.int .i64 u)).setCell ⟨gD, 4, none⟩ (.int .i64 M)) = w3 at *
  have hxk := HXK.out.cell
  go_wp2_with fail
  refine (secV r HRR.out ⟨L, rfl, HH.out⟩ HK.out HL.out HT.out HKB.out).mono ?_
  rintro e w4 ⟨rfl, hb4⟩
  have HSZ4 := Lib.hid (show w.heap.size + 3 ≤ w4.heap.size from by have h1 := HSZ.out; have h2 := hb4.size; omega)
  replace HX := Lib.hid (HX.out.on hb4); replace HD := Lib.hid (HD.out.on hb4); replace HR := Lib.hid (HR.out.on hb4)
  replace HB := Lib.hid (HB.out.trans (hb4.mono HB.out.size))
  clear hb4 hxk HSZ HXK HH HK
  by_cases hr0 : r = 0
  · have ht : (r == 0) = true := by simpa using hr0
    have HOK := Lib.hid (sgOk_zero (n := ln) (b := lb) (u := u) HRR.out ht)
    clear hr0
    obtain ⟨r0, r1, r2, r3, r4⟩ := cells5 HR.out
    obtain ⟨t0, t1, t2, t3, t4⟩ := froz5 HR.out
    have Z1 := Lib.hid (show Ret.Blk ((((((w4).setCell ⟨w.heap.size + 2, 0, none⟩ (.slice none 0 0)).setCell ⟨w.heap.size + 2, 1, none⟩ (.slice none 0 0)).setCell ⟨w.heap.size + 2, 2, none⟩ (.slice none 0 0)).setCell ⟨w.heap.size + 2, 3, none⟩ (.int .i64 0)).setCell ⟨w.heap.size + 2, 4, none⟩ (.int .i64 0)) (w.heap.size + 2) (dc (.slice none 0 0) (.slice none 0 0) (.slice none 0 0) 0 0) 61 from blk_five HR.out)
    have Z2 := Lib.hid (show Below w.heap.size w ((((((w4).setCell ⟨w.heap.size + 2, 0, none⟩ (.slice none 0 0)).setCell ⟨w.heap.size + 2, 1, none⟩ (.slice none 0 0)).setCell ⟨w.heap.size + 2, 2, none⟩ (.slice none 0 0)).setCell ⟨w.heap.size + 2, 3, none⟩ (.int .i64 0)).setCell ⟨w.heap.size + 2, 4, none⟩ (.int .i64 0)) from below_five HB.out (by omega))
    clear HR
    go_wp2_with fail
    refine bodyPost_ret (Ret.results_ct rfl _ _ (w.heap.size + 2) (dc (.slice none 0 0) (.slice none 0 0) (.slice none 0 0) 0 0).toList rfl aggD Z1.out.cells) rfl ?_
    rw [HOK.out, sgK_no HOK.out]
    exact ⟨nil, nil, nil, rfl, dOwn_zero _ _, Z2.out⟩
  · have ht : (r == 0) = false := by simpa using hr0
    have HOKX := Lib.hid (sgOk_val HRR.out ht HM.out HZ.out)
    obtain ⟨s0, s1, s2, s3, s4⟩ := cells5 HX.out
    clear hr0
    go_wp2_with fail
    refine (specValidData _ _ _ (ln, lb, lk, u, M) _ HD.out.hold (Nat.le_trans HN1.out (by decide)) (Nat.le_trans HK1.out (by decide))).mono ?_
    rintro e w5 ⟨rfl, hb5⟩
    rw [HZ.out]
    replace HX := Lib.hid (HX.out.on hb5); replace HD := Lib.hid (HD.out.on hb5); replace HR := Lib.hid (HR.out.on hb5)
    replace HB := Lib.hid (HB.out.trans (hb5.mono HB.out.size))
    clear hb5 s0 s1 s2 s3 s4
    cases z with
    | false =>
      have HOK := Lib.hid HOKX.out.1
      obtain ⟨r0, r1, r2, r3, r4⟩ := cells5 HR.out
      obtain ⟨t0, t1, t2, t3, t4⟩ := froz5 HR.out
      have Z1 := Lib.hid (show Ret.Blk ((((((w5).setCell ⟨w.heap.size + 2, 0, none⟩ (.slice none 0 0)).setCell ⟨w.heap.size + 2, 1, none⟩ (.slice none 0 0)).setCell ⟨w.heap.size + 2, 2, none⟩ (.slice none 0 0)).setCell ⟨w.heap.size + 2, 3, none⟩ (.int .i64 0)).setCell ⟨w.heap.size + 2, 4, none⟩ (.int .i64 0)) (w.heap.size + 2) (dc (.slice none 0 0) (.slice none 0 0) (.slice none 0 0) 0 0) 61 from blk_five HR.out)
      have Z2 := Lib.hid (show Below w.heap.size w ((((((w5).setCell ⟨w.heap.size + 2, 0, none⟩ (.slice none 0 0)).setCell ⟨w.heap.size + 2, 1, none⟩ (.slice none 0 0)).setCell ⟨w.heap.size + 2, 2, none⟩ (.slice none 0 0)).setCell ⟨w.heap.size + 2, 3, none⟩ (.int .i64 0)).setCell ⟨w.heap.size + 2, 4, none⟩ (.int .i64 0)) from below_five HB.out (by omega))
      clear HR
      go_wp2_with fail
      refine bodyPost_ret (Ret.results_ct rfl _ _ (w.heap.size + 2) (dc (.slice none 0 0) (.slice none 0 0) (.slice none 0 0) 0 0).toList rfl aggD Z1.out.cells) rfl ?_
      rw [HOK.out, sgK_no HOK.out]
      exact ⟨nil, nil, nil, rfl, dOwn_zero _ _, Z2.out⟩
    | true =>
      have HOK := Lib.hid HOKX.out.1; have HSX := Lib.hid HOKX.out.2
      obtain ⟨r0, r1, r2, r3, r4⟩ := cells5 HR.out
      obtain ⟨t0, t1, t2, t3, t4⟩ := froz5 HR.out
      have Z1 := Lib.hid (show Ret.Blk ((((((w5).setCell ⟨w.heap.size + 2, 0, none⟩ (.slice ya ma da)).setCell ⟨w.heap.size + 2, 1, none⟩ (.slice yb mb db)).setCell ⟨w.heap.size + 2, 2, none⟩ (.slice yc mc dc_)).setCell ⟨w.heap.size + 2, 3, none⟩ (.int .i64 u)).setCell ⟨w.heap.size + 2, 4, none⟩ (.int .i64 M)) (w.heap.size + 2) (dc (.slice ya ma da) (.slice yb mb db) (.slice yc mc dc_) u M) 61 from blk_five HR.out)
      have Z2 := Lib.hid (show Below w.heap.size w ((((((w5).setCell ⟨w.heap.size + 2, 0, none⟩ (.slice ya ma da)).setCell ⟨w.heap.size + 2, 1, none⟩ (.slice yb mb db)).setCell ⟨w.heap.size + 2, 2, none⟩ (.slice yc mc dc_)).setCell ⟨w.heap.size + 2, 3, none⟩ (.int .i64 u)).setCell ⟨w.heap.size + 2, 4, none⟩ (.int .i64 M)) from below_five HB.out (by omega))
      have Z3 := Lib.hid (show DOwn w.heap.size ((((((w5).setCell ⟨w.heap.size + 2, 0, none⟩ (.slice ya ma da)).setCell ⟨w.heap.size + 2, 1, none⟩ (.slice yb mb db)).setCell ⟨w.heap.size + 2, 2, none⟩ (.slice yc mc dc_)).setCell ⟨w.heap.size + 2, 3, none⟩ (.int .i64 u)).setCell ⟨w.heap.size + 2, 4, none⟩ (.int .i64 M)) (.slice ya ma da) (.slice yb mb db) (.slice yc mc dc_) (ln, lb, lk, u, M) from HD.out.five HR.out)
      obtain ⟨s0, s1, s2, s3, s4⟩ := cells5 HX.out
      clear HR
      clear HX
      go_wp2_with fail
      refine bodyPost_ret (Ret.results_ct rfl _ _ (w.heap.size + 2) (dc (.slice ya ma da) (.slice yb mb db) (.slice yc mc dc_) u M).toList rfl aggD Z1.out.cells) rfl ?_
      rw [HOK.out, sgK_yes HOK.out, HSX.out]
      exact ⟨_, _, _, rfl, Z3.out, Z2.out⟩

set_option maxHeartbeats 8000000 in
theorem implSignWithKey (v uk un vb : Value) (T : List (List ByteArray × Int)) (lk ln : List ByteArray) (lb : List Int) (u : Int) (w : World) (h : TabHolds w v T) (gk : Holds Value.string w uk lk) (gn : Holds Value.string w un ln) (gb : Sl.Holds .u8 w vb lb) (hB : Sl.Byt lb) (hl : T.length ≤ 4000000) (hT : smT T) (hk : bulk lk ≤ 1200000) (hn : bulk ln ≤ 1200000) (hlb : lb.length ≤ 1200000) :
    Calls Try.prog 78 #[v, .agg #[uk], .agg #[un], vb, .int .i64 u] w (GivesDB w (sgK T lk ln lb u) (sgOk T lk ln lb u)) := by
  obtain ⟨L, rfl, h⟩ := h
  obtain ⟨xl, nl, cl, rfl, -, -, hh⟩ := h.shapeN
  obtain ⟨xk, nk, ck, rfl, -, -, hk1⟩ := gk.shapeN
  obtain ⟨xn, nn, cn, rfl, -, -, hn1⟩ := gn.shapeN
  obtain ⟨xb, nb, cb, rfl, -, -, hb1⟩ := Holds.shapeN (enc := Value.int .u8) gb
  replace hb1 : Sl.Holds .u8 w (.slice xb nb cb) lb := hb1
  have ha := (Below.refl w.heap.size w).alloc (Nat.le_refl _) (.cells #[.slice xk nk ck] 47)
  have hb := ha.alloc (by simp) (.cells #[.slice xn nn cn] 47)
  have hc := hb.alloc (by simp <;> omega) (.cells (dc (.slice none 0 0) (.slice none 0 0) (.slice none 0 0) 0 0) 61)
  have HB := Lib.hid hc
  have HXK := Lib.hid (((Ret.Box.new w (.slice xk nk ck) 47).on ((Below.refl _ _).alloc (Nat.le_refl _) (.cells #[.slice xn nn cn] 47))).on ((Below.refl _ _).alloc (Nat.le_refl _) (.cells (dc (.slice none 0 0) (.slice none 0 0) (.slice none 0 0) 0 0) 61)))
  have HXN := Lib.hid ((Ret.Box.new' (w := w.alloc (.cells #[.slice xk nk ck] 47)) (.slice xn nn cn) 47 (n := w.heap.size + 1) (by simp)).on ((Below.refl _ _).alloc (Nat.le_refl _) (.cells (dc (.slice none 0 0) (.slice none 0 0) (.slice none 0 0) 0 0) 61)))
  have HR := Lib.hid (Ret.Blk.new' (w := (w.alloc (.cells #[.slice xk nk ck] 47)).alloc (.cells #[.slice xn nn cn] 47)) (n := w.heap.size + 2) (dc (.slice none 0 0) (.slice none 0 0) (.slice none 0 0) 0 0) 61 (by simp))
  have HS := Lib.hid (show (((w.alloc (.cells #[.slice xk nk ck] 47)).alloc (.cells #[.slice xn nn cn] 47)).alloc (.cells (dc (.slice none 0 0) (.slice none 0 0) (.slice none 0 0) 0 0) 61)).heap.size = w.heap.size + 3 by simp)
  have HH := Lib.hid (hh.on hc); have HK := Lib.hid (hk1.on hc); have HN := Lib.hid (hn1.on hc); have HBB := Lib.hid (hb1.on hc)
  have HL := Lib.hid (show (strip L).length ≤ 4000000 from hl); have HT := Lib.hid hT; have HKB := Lib.hid (show bulk lk ≤ 9000000 by omega); have HBY := Lib.hid hB
  have HSM := Lib.hid (show smD (ln, lb, lk, u, 0) from ⟨hn, hlb, hk⟩)
  have HK1 := Lib.hid hk; have HN1 := Lib.hid hn
  obtain ⟨r, hr⟩ : ∃ r, lkN (strip L) lk = r := ⟨_, rfl⟩
  obtain ⟨M, hM⟩ : ∃ M, Seal.mac r (portD (ln, lb, lk, u, 0)) = M := ⟨_, rfl⟩
  obtain ⟨z, hz⟩ : ∃ z, validD (ln, lb, lk, u, M) = z := ⟨_, rfl⟩
  have HRR := Lib.hid hr; have HM := Lib.hid hM; have HZ := Lib.hid hz
  clear ha hb hc hh hk1 hn1 hb1 h gk gn gb hB hl hT hk hn hlb hr hM hz
  go_enter Try.func78, Try.ntmps78
  have hxk := HXK.out.cell
  go_wp2_with fail
  refine (isecV r HRR.out ⟨L, rfl, HH.out⟩ HK.out HL.out HT.out HKB.out).mono ?_
  rintro e w1 ⟨rfl, hb1⟩
  have HSZ1 := Lib.hid (show w.heap.size + 3 ≤ w1.heap.size from by have h1 := HS.out; have h2 := hb1.size; omega)
  replace HXK := Lib.hid (HXK.out.on hb1); replace HXN := Lib.hid (HXN.out.on hb1); replace HR := Lib.hid (HR.out.on hb1)
  have HD0 := Lib.hid (show DHold w1 (.slice xn nn cn) (.slice xb nb cb) (.slice xk nk ck) (ln, lb, lk, u, 0) from ⟨HN.out.on hb1, HBB.out.on hb1, HK.out.on hb1⟩)
  replace HB := Lib.hid (HB.out.trans (hb1.mono HB.out.size))
  clear hb1 hxk HS HH HK HN HBB
  by_cases hr0 : r = 0
  · have ht : (r == 0) = true := by simpa using hr0
    have HOK := Lib.hid (sgOk_zero (n := ln) (b := lb) (u := u) HRR.out ht)
    clear hr0
    obtain ⟨r0, r1, r2, r3, r4⟩ := cells5 HR.out
    obtain ⟨t0, t1, t2, t3, t4⟩ := froz5 HR.out
    have Z1 := Lib.hid (show Ret.Blk ((((((w1).setCell ⟨w.heap.size + 2, 0, none⟩ (.slice none 0 0)).setCell ⟨w.heap.size + 2, 1, none⟩ (.slice none 0 0)).setCell ⟨w.heap.size + 2, 2, none⟩ (.slice none 0 0)).setCell ⟨w.heap.size + 2, 3, none⟩ (.int .i64 0)).setCell ⟨w.heap.size + 2, 4, none⟩ (.int .i64 0)) (w.heap.size + 2) (dc (.slice none 0 0) (.slice none 0 0) (.slice none 0 0) 0 0) 61 from blk_five HR.out)
    have Z2 := Lib.hid (show Below w.heap.size w ((((((w1).setCell ⟨w.heap.size + 2, 0, none⟩ (.slice none 0 0)).setCell ⟨w.heap.size + 2, 1, none⟩ (.slice none 0 0)).setCell ⟨w.heap.size + 2, 2, none⟩ (.slice none 0 0)).setCell ⟨w.heap.size + 2, 3, none⟩ (.int .i64 0)).setCell ⟨w.heap.size + 2, 4, none⟩ (.int .i64 0)) from below_five HB.out (by omega))
    clear HR
    go_wp2_with fail
    refine bodyPost_ret (Ret.results_ct rfl _ _ (w.heap.size + 2) (dc (.slice none 0 0) (.slice none 0 0) (.slice none 0 0) 0 0).toList rfl aggD Z1.out.cells) rfl ?_
    rw [HOK.out, sgK_no HOK.out]
    exact ⟨nil, nil, nil, rfl, dOwn_zero _ _, Z2.out⟩
  · have ht : (r == 0) = false := by simpa using hr0
    have HOKX := Lib.hid (sgOk_val HRR.out ht HM.out HZ.out)
    have hxk := HXK.out.cell; have hxn := HXN.out.cell
    clear hr0
    go_wp2_with fail
    refine (implSignV M HM.out HD0.out HBY.out HSM.out).mono ?_
    rintro e w2 ⟨ya, ma, da, yb, mb, db, yc, mc, dc_, rfl, hd, hb2⟩
    have hal := (Below.refl w2.heap.size w2).alloc (Nat.le_refl _) (.cells (dc (.slice ya ma da) (.slice yb mb db) (.slice yc mc dc_) u M) 61)
    have HSZ2 := Lib.hid (show w.heap.size + 3 ≤ w2.heap.size from by have h1 := HSZ1.out; have h2 := hb2.size; omega)
    have HX := Lib.hid (Ret.Blk.new w2 (dc (.slice ya ma da) (.slice yb mb db) (.slice yc mc dc_) u M) 61)
    have HD := Lib.hid (show DOwn w.heap.size (w2.alloc (.cells (dc (.slice ya ma da) (.slice yb mb db) (.slice yc mc dc_) u M) 61)) (.slice ya ma da) (.slice yb mb db) (.slice yc mc dc_) (ln, lb, lk, u, M) from (hd.mono (by have h1 := HSZ1.out; omega)).on hal)
    replace HR := Lib.hid ((HR.out.on hb2).on hal)
    replace HB := Lib.hid ((HB.out.trans (hb2.mono HB.out.size)).trans (hal.mono (by have h1 := HSZ2.out; omega)))
    have HSZ3 := Lib.hid (show w.heap.size + 3 ≤ (w2.alloc (.cells (dc (.slice ya ma da) (.slice yb mb db) (.slice yc mc dc_) u M) 61)).heap.size from by rw [World.size_alloc]; have h1 := HSZ2.out; omega)
    obtain ⟨s0, s1, s2, s3, s4⟩ := cells5 HX.out
    clear hd hb2 hal hxk hxn HD0 HXK HXN HSZ1
    go_wp2_with fail
    refine (implValidData _ _ _ (ln, lb, lk, u, M) _ HD.out.hold (Nat.le_trans HN1.out (by decide)) (Nat.le_trans HK1.out (by decide))).mono ?_
    rintro e w5 ⟨rfl, hb5⟩
    rw [HZ.out]
    replace HX := Lib.hid (HX.out.on hb5); replace HD := Lib.hid (HD.out.on hb5); replace HR := Lib.hid (HR.out.on hb5)
    replace HB := Lib.hid (HB.out.trans (hb5.mono HB.out.size))
    clear hb5 s0 s1 s2 s3 s4
    cases z with
    | false =>
      have HOK := Lib.hid HOKX.out.1
      obtain ⟨r0, r1, r2, r3, r4⟩ := cells5 HR.out
      obtain ⟨t0, t1, t2, t3, t4⟩ := froz5 HR.out
      have Z1 := Lib.hid (show Ret.Blk ((((((w5).setCell ⟨w.heap.size + 2, 0, none⟩ (.slice none 0 0)).setCell ⟨w.heap.size + 2, 1, none⟩ (.slice none 0 0)).setCell ⟨w.heap.size + 2, 2, none⟩ (.slice none 0 0)).setCell ⟨w.heap.size + 2, 3, none⟩ (.int .i64 0)).setCell ⟨w.heap.size + 2, 4, none⟩ (.int .i64 0)) (w.heap.size + 2) (dc (.slice none 0 0) (.slice none 0 0) (.slice none 0 0) 0 0) 61 from blk_five HR.out)
      have Z2 := Lib.hid (show Below w.heap.size w ((((((w5).setCell ⟨w.heap.size + 2, 0, none⟩ (.slice none 0 0)).setCell ⟨w.heap.size + 2, 1, none⟩ (.slice none 0 0)).setCell ⟨w.heap.size + 2, 2, none⟩ (.slice none 0 0)).setCell ⟨w.heap.size + 2, 3, none⟩ (.int .i64 0)).setCell ⟨w.heap.size + 2, 4, none⟩ (.int .i64 0)) from below_five HB.out (by omega))
      clear HR
      go_wp2_with fail
      refine bodyPost_ret (Ret.results_ct rfl _ _ (w.heap.size + 2) (dc (.slice none 0 0) (.slice none 0 0) (.slice none 0 0) 0 0).toList rfl aggD Z1.out.cells) rfl ?_
      rw [HOK.out, sgK_no HOK.out]
      exact ⟨nil, nil, nil, rfl, dOwn_zero _ _, Z2.out⟩
    | true =>
      have HOK := Lib.hid HOKX.out.1; have HSX := Lib.hid HOKX.out.2
      obtain ⟨r0, r1, r2, r3, r4⟩ := cells5 HR.out
      obtain ⟨t0, t1, t2, t3, t4⟩ := froz5 HR.out
      have Z1 := Lib.hid (show Ret.Blk ((((((w5).setCell ⟨w.heap.size + 2, 0, none⟩ (.slice ya ma da)).setCell ⟨w.heap.size + 2, 1, none⟩ (.slice yb mb db)).setCell ⟨w.heap.size + 2, 2, none⟩ (.slice yc mc dc_)).setCell ⟨w.heap.size + 2, 3, none⟩ (.int .i64 u)).setCell ⟨w.heap.size + 2, 4, none⟩ (.int .i64 M)) (w.heap.size + 2) (dc (.slice ya ma da) (.slice yb mb db) (.slice yc mc dc_) u M) 61 from blk_five HR.out)
      have Z2 := Lib.hid (show Below w.heap.size w ((((((w5).setCell ⟨w.heap.size + 2, 0, none⟩ (.slice ya ma da)).setCell ⟨w.heap.size + 2, 1, none⟩ (.slice yb mb db)).setCell ⟨w.heap.size + 2, 2, none⟩ (.slice yc mc dc_)).setCell ⟨w.heap.size + 2, 3, none⟩ (.int .i64 u)).setCell ⟨w.heap.size + 2, 4, none⟩ (.int .i64 M)) from below_five HB.out (by omega))
      have Z3 := Lib.hid (show DOwn w.heap.size ((((((w5).setCell ⟨w.heap.size + 2, 0, none⟩ (.slice ya ma da)).setCell ⟨w.heap.size + 2, 1, none⟩ (.slice yb mb db)).setCell ⟨w.heap.size + 2, 2, none⟩ (.slice yc mc dc_)).setCell ⟨w.heap.size + 2, 3, none⟩ (.int .i64 u)).setCell ⟨w.heap.size + 2, 4, none⟩ (.int .i64 M)) (.slice ya ma da) (.slice yb mb db) (.slice yc mc dc_) (ln, lb, lk, u, M) from HD.out.five HR.out)
      obtain ⟨s0, s1, s2, s3, s4⟩ := cells5 HX.out
      clear HR
      clear HX
      go_wp2_with fail
      refine bodyPost_ret (Ret.results_ct rfl _ _ (w.heap.size + 2) (dc (.slice ya ma da) (.slice yb mb db) (.slice yc mc dc_) u M).toList rfl aggD Z1.out.cells) rfl ?_
      rw [HOK.out, sgK_yes HOK.out, HSX.out]
      exact ⟨_, _, _, rfl, Z3.out, Z2.out⟩
end Go.Proofs.Ytcidfmmeonhkhaa.Row.Ring
