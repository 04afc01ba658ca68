/- Contracts and mathematics, joined: DrawV0. No conditions but those that each states. -/
import Derived.WalkKit
import Derived.Deep.RegionHeld3
import Derived.Test.YtcidfmmeonhkhaaGreatDoorB5
import Derived.Test.YtcidfmmeonhkhaaGreatDoorB9
import Derived.Test.YtcidfmmeonhkhaaGreatDoorB16
import Derived.Test.YtcidfmmeonhkhaaGreatDoorB17
import Derived.Test.YtcidfmmeonhkhaaGreatDoorB8
/- What a draw keeps, over a cursor: calls, stores into variables, lists that grow. No conditions. -/
namespace Go.Proofs.YtcidfmmeonhkhaaGreatDoor.Draw
open Go.ChangeShapes Go.WideShapes Go.ChangeAt Go.RowKit Go.Instr
open Go.Proofs.YtcidfmmeonhkhaaGreatDoor.Row
open Go.Proofs.YtcidfmmeonhkhaaGreatDoor.Ret (NC Blk Box)
set_option linter.unusedVariables false
set_option maxRecDepth 100000

/-- The cursor goes on; all else that was there at the call is kept. -/
structure DS (w0 : World) (p : Nat) (v : Value) (l : List UInt8) (w W : World) : Prop where
  cur : Cur w0 p v l W
  keep : Keep p w W
  h0 : w0.heap.size ≤ w.heap.size
  hp : p < w.heap.size
section
variable {w0 w W W' : World} {p g i B : Nat} {v : Value} {l : List UInt8} {u : Value}
theorem DS.start (hc : Cur w0 p v l w) : DS w0 p v l w w := ⟨hc, Keep.refl _ _, hc.below.size, hc.lt⟩
theorem DS.size (h : DS w0 p v l w W) : w.heap.size ≤ W.heap.size := h.keep.size
theorem DS.on (h : DS w0 p v l w W) (hb : Below W.heap.size W W') : DS w0 p v l w W' := ⟨h.cur.on hb, h.keep.trans (Keep.of_below hb), h.h0, h.hp⟩
theorem DS.step (h : DS w0 p v l w W) (hc : Cur w0 p v l W') (hk : Keep p W W') : DS w0 p v l w W' := ⟨hc, h.keep.trans hk, h.h0, h.hp⟩
theorem DS.set (h : DS w0 p v l w W) (hg : w.heap.size ≤ g) : DS w0 p v l w (W.setCell ⟨g, i, none⟩ u) := ⟨h.cur.setI i (by have := h.h0; omega) (by have := h.hp; omega) u, h.keep.setI i hg u, h.h0, h.hp⟩
theorem DS.grown (h : DS w0 p v l w W) {α : Type} {enc : α → List Value} {sz : Nat} {e : TypeId} {x : Value} {L : List α} (ho : OwnK e enc sz w.heap.size W x L) (hg : W.grownBy W' x.ownBlock) : DS w0 p v l w W' :=
  ⟨h.cur.grown hg (fun g e => by have h1 := (ho.lt g e).1; have h2 := h.h0; have h3 := h.hp; exact ⟨by omega, by omega⟩), h.keep.grown hg (fun g e => (ho.lt g e).1), h.h0, h.hp⟩
theorem DS.alloc (h : DS w0 p v l w W) (o : Obj) : DS w0 p v l w (W.alloc o) := h.on ((Below.refl _ _).alloc (Nat.le_refl _) o)
end
theorem blk_row {w w' : World} {g B sz : Nat} {cs : Array Value} {t e : TypeId} {α : Type} {enc : α → List Value} {x : Value} {L : List α} (h : Blk w g cs t) (hne : e ≠ t) (ho : OwnK e enc sz B w x L) (hg : w.grownBy w' x.ownBlock) : Blk w' g cs t :=
  h.grown hg (fun e1 => by
    obtain ⟨cs2, hc⟩ := ho.row e1.symm
    rw [show w.heap[g]? = some (.cells cs t) from h] at hc
    injection hc with hc
    injection hc with h3 h4
    exact hne h4.symm)
theorem blk_ty {w : World} {g : Nat} {cs cs2 : Array Value} {t t2 : TypeId} (h : Blk w g cs t) (h2 : Blk w g cs2 t2) : t = t2 := by
  have h3 : some (Obj.cells cs t) = some (Obj.cells cs2 t2) := h.symm.trans h2
  injection h3 with h3
  injection h3
theorem two_new {w : World} (cs cs2 : Array Value) (t1 t2 : TypeId) : Ret.Blk ((w.alloc (.cells cs t1)).alloc (.cells cs2 t2)) w.heap.size cs t1 ∧ Ret.Blk ((w.alloc (.cells cs t1)).alloc (.cells cs2 t2)) (w.heap.size + 1) cs2 t2 ∧ Below w.heap.size w ((w.alloc (.cells cs t1)).alloc (.cells cs2 t2)) ∧ ((w.alloc (.cells cs t1)).alloc (.cells cs2 t2)).heap.size = w.heap.size + 2 := by
  have b1 := (Below.refl w.heap.size w).alloc (Nat.le_refl _) (.cells cs t1)
  have b2 := (Below.refl (w.alloc (.cells cs t1)).heap.size (w.alloc (.cells cs t1))).alloc (Nat.le_refl _) (.cells cs2 t2)
  exact ⟨(Ret.Blk.new w cs t1).on b2, Ret.Blk.new' (w := w.alloc (.cells cs t1)) (n := w.heap.size + 1) cs2 t2 (by simp), b1.trans (b2.mono b1.size), by simp⟩
theorem kRl_strip11 (a b : Rw ByteArray) : kRl.strip (a, b) = (a.els, b.els) := by
  show (kN.strip a, kN.strip b) = _
  rw [kN_strip, kN_strip]
theorem kKy_strip11 (a : Rw ByteArray) (s : Int) : kKy.strip (a, s) = (a.els, s) := by
  show (kN.strip a, s) = _
  rw [kN_strip]
theorem kB_strip11 (m : Rw Int) : kB.strip m = m.els := by simp [kB, kS, Kd.slice, Kd.scalar]
theorem kDz_strip11 (a : Rw ByteArray) (b : Rw Int) (c : Rw ByteArray) (f s : Int) : kDz.strip (a, b, c, f, s) = (a.els, b.els, c.els, f, s) := by
  show (kN.strip a, kB.strip b, kN.strip c, f, s) = _
  rw [kN_strip, kN_strip, kB_strip11]
theorem own_four11 {α M : Type} {k : Kd α M} {B g : Nat} {ty : TypeId} {w : World} {m : M} {cs : Array Value} {a b c d : Value} (hN : k.NoRow ty) (h : k.own B w m) (hb : Blk w g cs ty) : k.own B ((((w.setCell ⟨g, 0, none⟩ a).setCell ⟨g, 1, none⟩ b).setCell ⟨g, 2, none⟩ c).setCell ⟨g, 3, none⟩ d) m :=
  Kd.own_setT hN (Kd.own_setT hN (Kd.own_setT hN (Kd.own_setT hN h hb) (hb.set 0 a)) ((hb.set 0 a).set 1 b)) (((hb.set 0 a).set 1 b).set 2 c)
theorem DS.four11 {w0 w W : World} {p g : Nat} {v : Value} {l : List UInt8} {a b c d : Value} (h : DS w0 p v l w W) (hg : w.heap.size ≤ g) : DS w0 p v l w ((((W.setCell ⟨g, 0, none⟩ a).setCell ⟨g, 1, none⟩ b).setCell ⟨g, 2, none⟩ c).setCell ⟨g, 3, none⟩ d) := (((h.set hg).set hg).set hg).set hg
theorem sDz_of_kD {B E : Nat} {w : World} {ya yb yc : Option Addr} {ma da mb db mc dc_ : Nat} {x : Dt} (h : kD.In B E w (.agg #[.slice ya ma da, .slice yb mb db, .slice yc mc dc_, .int .i64 x.2.2.2.1, .int .i64 x.2.2.2.2]) x) : sDz.own B w (⟨ya, ma, da, x.1⟩, ⟨yb, mb, db, x.2.1⟩, ⟨yc, mc, dc_, x.2.2.1⟩, x.2.2.2.1, x.2.2.2.2) := by
  obtain ⟨a, b, c, e, ho, -⟩ := kD_in h
  have e2 := congrArg (fun v => match v with | Value.agg cs => cs.toList | _ => []) e
  simp only [List.cons.injEq, and_true] at e2
  obtain ⟨rfl, rfl, rfl⟩ := e2
  exact sDz_own ⟨kN_own2 ho.1, ⟨ownK_single.2 ho.2.1, fun _ _ => trivial⟩, kN_own2 ho.2.2.1, trivial, trivial⟩
theorem okN_bulk {l : List ByteArray} {n : Nat} (h : bulk l ≤ n) (hn : n ≤ 9000000) : okN l := by
  have h1 := bulk_len l
  refine ⟨by omega, fun x hx => ?_⟩
  obtain ⟨j, hj, rfl⟩ := List.getElem_of_mem hx
  have h2 := size_nth (Nat.le_trans h (Nat.le_trans hn (by decide : 9000000 ≤ 100000000))) hj
  rw [nth_eq hj] at h2
  unfold maxLen
  omega
theorem digK_wf (T : Ring.Kt) (m : List ByteArray) : ∀ y ∈ digK T m, (Lit.int .u8 y).wf = true := wfB (digK_byt T m)
def smD11 (x : Dzt) : Prop := bulk x.1 ≤ 1000 ∧ x.2.1.length ≤ 100 ∧ bulk x.2.2.1 ≤ 1000 ∧ inDz x
theorem smD11_zero : smD11 ([], [], [], 0, 0) := ⟨by simp [bulk_nil], by simp, by simp [bulk_nil], ⟨by simp, by simp⟩, ⟨by simp [okB], by simp⟩, ⟨by simp, by simp⟩, by decide, by decide⟩
theorem sgK_small {T : Ring.Kt} {lk ln : List ByteArray} {b : List Int} {u : Int} (h1 : bulk lk ≤ 1000) (h2 : bulk ln ≤ 1000) (h3 : b.length ≤ 100) (h4 : ∀ y ∈ b, (Lit.int .u8 y).wf = true) (h5 : (Lit.int .i64 u).wf = true) : smD11 (Ring.sgK T lk ln b u) := by
  cases h : Ring.sgOk T lk ln b u with
  | false => rw [Ring.sgK_no h]; exact smD11_zero
  | true =>
    rw [Ring.sgK_yes h]
    have hm := Seal.mac_in (Ring.lkN T lk) (portD (ln, b, lk, u, 0))
    exact ⟨h2, h3, h1, okN_bulk h2 (by decide), ⟨(show b.length ≤ 9223372036854775807 by omega), h4⟩, okN_bulk h1 (by decide), h5, wf_of (by show (-9223372036854775808 : Int) ≤ Seal.mac _ _; omega) (by show Seal.mac _ _ ≤ (9223372036854775807 : Int); omega)⟩
theorem hb_soft {w : World} {B n c : Nat} {ad : Option Addr} {l : List ByteArray} (h : HB B w (.slice ad n c) l) : sN.own B w ⟨ad, n, c, l⟩ := sN_of h
end Go.Proofs.YtcidfmmeonhkhaaGreatDoor.Draw
