/- Contracts and mathematics, joined: Soft, DrawDS, DrawB, Sign, DrawT0. No conditions but those that each states. -/
import Derived.Test.YtfglcmanmfenpaaGreatB7
import Derived.Test.YtfglcmanmfenpaaGreatB21
import Derived.Test.YtfglcmanmfenpaaGreatB3
import Derived.WalkKit
import Derived.Test.YtfglcmanmfenpaaGreatB20
import Derived.Test.YtfglcmanmfenpaaGreatB4
import Derived.Test.YtfglcmanmfenpaaGreatB6
/- Kinds whose texts and bytes lie in blocks that are known by their type alone (a name out of a text may begin anywhere, two may share one block): what keeps them: a cursor that goes on, a variable that is stored, a list that grows; names, bytes, data packets. For draws. No conditions. -/
namespace Go.Proofs.YtfglcmanmfenpaaGreat.Row
open Go.ChangeShapes Go.WideShapes Go.ChangeAt Go.RowKit Go.Instr
set_option linter.unusedVariables false
set_option maxRecDepth 100000
def adBlk : Option Addr → List Nat
  | some ⟨b, _, none⟩ => [b]
  | _ => []
theorem adBlk_some {a : Option Addr} {g : Nat} (h : g ∈ adBlk a) : ∃ off, a = some ⟨g, off, none⟩ := by
  unfold adBlk at h
  split at h
  · rename_i b off
    rw [List.mem_singleton.1 h]
    exact ⟨_, rfl⟩
  · cases h
def softS {α : Type} (e : TypeId) (enc : α → Value) (h1 : ∀ x, (enc x).oneCell' = true) : Kd (List α) (Rw α) where
  strip := (Kd.slice e (Kd.scalar enc h1)).strip
  cells := (Kd.slice e (Kd.scalar enc h1)).cells
  size := 1
  val := Rw.v
  len := fun _ => rfl
  one := (Kd.slice e (Kd.scalar enc h1)).one
  holds := (Kd.slice e (Kd.scalar enc h1)).holds
  own := fun B w r => (Kd.slice e (Kd.scalar enc h1)).holds w r ∧ ∀ b off, r.ad = some ⟨b, off, none⟩ → B ≤ b ∧ ∃ cur, w.heap[b]? = some (.cells cur e)
  blocks := fun r => adBlk r.ad
  holds_on := (Kd.slice e (Kd.scalar enc h1)).holds_on
  own_holds := fun h => h.1
  own_keep := fun {B w w' r} h hg => by
    obtain ⟨⟨⟨x, cap, hv, hc, hh⟩, -⟩, ht⟩ := h
    have hx : r.ad = x := by injection hv
    refine ⟨⟨⟨x, cap, hv, hc, ?_⟩, fun _ _ => trivial⟩, fun b off e1 => ?_⟩
    · rcases hh with h0 | ⟨b, off, rfl, hcell⟩
      · exact Or.inl h0
      · refine Or.inr ⟨b, off, rfl, fun j hj => ?_⟩
        obtain ⟨u, h2, h3⟩ := hcell j hj
        exact ⟨u, h2, by rw [World.cell?_of_block (w := w) (hg b (by rw [hx]; exact List.mem_singleton.2 rfl))]; exact h3⟩
    · obtain ⟨h2, cur, h3⟩ := ht b off e1
      exact ⟨h2, cur, by rw [hg b (by rw [e1]; exact List.mem_singleton.2 rfl)]; exact h3⟩
  own_lt := fun {B w r} h g hg => by
    obtain ⟨off, e1⟩ := adBlk_some hg
    obtain ⟨h2, cur, h3⟩ := h.2 g off e1
    exact ⟨h2, (Array.getElem?_eq_some_iff.1 h3).1⟩
  own_mono := fun {B B' w r} h hB => ⟨h.1, fun b off e1 => ⟨Nat.le_trans hB (h.2 b off e1).1, (h.2 b off e1).2⟩⟩
section
variable {α M β N : Type} {k : Kd α M} {l : Kd β N} {e e' ty : TypeId} {B B' C p g i : Nat} {w w' : World} {m : M} {r : Rw M} {x : M}
theorem noRow_soft {α : Type} {enc : α → Value} {h1 : ∀ x, (enc x).oneCell' = true} (hne : e' ≠ e) : (softS e' enc h1).NoRow e := fun B w r h g hg cs hc => by
  obtain ⟨off, e1⟩ := adBlk_some hg
  obtain ⟨-, cur, h3⟩ := h.2 g off e1
  rw [h3] at hc
  injection hc with hc
  injection hc with h4 h5
  exact hne h5
theorem Kd.own_on (h : k.own B w m) (hb : Below w.heap.size w w') : k.own B w' m := k.own_keep h fun g hg => hb.block g (k.own_lt h g hg).2
theorem Kd.own_cur (h : k.own B w m) (hk : Draw.Keep p w w') (hp : p < B) : k.own B w' m := k.own_keep h fun g hg => hk.block g (k.own_lt h g hg).2 (by have := (k.own_lt h g hg).1; omega)
theorem Kd.own_setT (hN : k.NoRow ty) {cs : Array Value} {u : Value} (h : k.own B w m) (hb : Ret.Blk w g cs ty) : k.own B (w.setCell ⟨g, i, none⟩ u) m :=
  k.own_keep h fun q hq => Go.RowKit.Below.heap_setCell w ⟨g, i, none⟩ u q (fun e1 => by
    have e2 : q = g := e1
    exact hN B w m h q hq cs (by rw [e2]; exact hb))
theorem Kd.own_rowT (hN : k.NoRow e) {v : Value} {β : Type} {enc : β → List Value} {sz C : Nat} {L : List β} (h : k.own B w m) (ho : OwnK e enc sz C w v L) (hg : w.grownBy w' v.ownBlock) : k.own B w' m :=
  k.own_keep h fun q hq => hg.block q (k.own_lt h q hq).2 (fun e1 => by
    obtain ⟨cs, hc⟩ := ho.row e1.symm
    exact hN B w m h q hq cs hc)
theorem Kd.own_push (hN : k.NoRow e) {L : List M} (h : (k.slice e).own B w r) (hx : ∀ y ∈ L, k.own B w y) {ad : Option Addr} {n cap : Nat} (ho : OwnK e k.cells k.size B w' (.slice ad n cap) (r.els ++ L)) (hg : w.grownBy w' r.v.ownBlock) : (k.slice e).own B w' ⟨ad, n, cap, r.els ++ L⟩ := by
  refine ⟨ho, fun y hy => ?_⟩
  rcases List.mem_append.1 hy with hy | hy
  · exact Kd.own_rowT hN (h.2 y hy) h.1 hg
  · exact Kd.own_rowT hN (hx y hy) h.1 hg
theorem softS_own {α : Type} {enc : α → Value} {h1 : ∀ x, (enc x).oneCell' = true} {r : Rw α} (h : (Kd.slice e (Kd.scalar enc h1)).own B w r) : (softS e enc h1).own B w r :=
  ⟨(Kd.slice e (Kd.scalar enc h1)).own_holds h, fun b off e1 => by
    have h2 := h.1.row (g := b) (by rw [show r.v = .slice r.ad r.n r.cap from rfl, e1]; rcases h.1.2 with ⟨h3, -⟩ | ⟨g2, cap, cur, h3, -⟩
                                    · rw [show r.v = .slice r.ad r.n r.cap from rfl, e1] at h3; cases h3
                                    · rfl)
    exact ⟨(h.1.lt b (by rw [show r.v = .slice r.ad r.n r.cap from rfl, e1]; rfl)).1, h2⟩⟩
end
def sN : Kd (List ByteArray) (Rw ByteArray) := (softS 9 Value.string (fun _ => rfl)).wrap
def sB : Kd (List Int) (Rw Int) := softS 5 (Value.int .u8) (fun _ => rfl)
def sDz : Kd Dzt Dzm := sN.pair (sB.pair (sN.pair (kInt.pair kInt)))
theorem noRow_sN {t : TypeId} (h : 9 ≠ t) : sN.NoRow t := (noRow_soft h).wrap
theorem noRow_sB {t : TypeId} (h : 5 ≠ t) : sB.NoRow t := noRow_soft h
theorem noRow_sDz {t : TypeId} (h : 9 ≠ t) (g : 5 ≠ t) : sDz.NoRow t := (noRow_sN h).pair ((noRow_sB g).pair ((noRow_sN h).pair (Kd.noRow_scalar.pair Kd.noRow_scalar)))
section
variable {B E : Nat} {w : World} {V : Value} {ad : Option Addr} {n c : Nat} {l : List ByteArray}
theorem sN_own {m : Rw ByteArray} (h : kN.own B w m) : sN.own B w m := softS_own h
theorem sB_own {m : Rw Int} (h : kB.own B w m) : sB.own B w m := softS_own h
theorem sDz_own {m : Dzm} (h : kDz.own B w m) : sDz.own B w m := ⟨sN_own h.1, sB_own h.2.1, sN_own h.2.2.1, h.2.2.2⟩
theorem sDz_at {m : Dzm} (h : sDz.own B w m) : kDz.At w (kDz.val m) (kDz.strip m) := Kd.at_of (k := kDz) (sDz.own_holds h)
theorem sN_at {m : Rw ByteArray} (h : sN.own B w m) : kN.At w (kN.val m) (kN.strip m) := Kd.at_of (k := kN) (sN.own_holds h)
end
end Go.Proofs.YtfglcmanmfenpaaGreat.Row
/- What a draw keeps, over a cursor: calls, stores into variables, lists that grow. No conditions. -/
namespace Go.Proofs.YtfglcmanmfenpaaGreat.Draw
open Go.ChangeShapes Go.WideShapes Go.ChangeAt Go.RowKit Go.Instr
open Go.Proofs.YtfglcmanmfenpaaGreat.Row
open Go.Proofs.YtfglcmanmfenpaaGreat.Ret (NC Blk Box)
set_option linter.unusedVariables false
set_option maxRecDepth 100000
structure DS (w0 : World) (p : Nat) (v : Value) (l : List UInt8) (w W : World) : Prop where
  cur : Cur w0 p v l W
  keep : Keep p w W
  h0 : w0.heap.size ≤ w.heap.size
  hp : p < w.heap.size
section
variable {w0 w W W' : World} {p g i B : Nat} {v : Value} {l : List UInt8} {u : Value}
theorem DS.start (hc : Cur w0 p v l w) : DS w0 p v l w w := ⟨hc, Keep.refl _ _, hc.below.size, hc.lt⟩
theorem DS.size (h : DS w0 p v l w W) : w.heap.size ≤ W.heap.size := h.keep.size
theorem DS.on (h : DS w0 p v l w W) (hb : Below W.heap.size W W') : DS w0 p v l w W' := ⟨h.cur.on hb, h.keep.trans (Keep.of_below hb), h.h0, h.hp⟩
theorem DS.step (h : DS w0 p v l w W) (hc : Cur w0 p v l W') (hk : Keep p W W') : DS w0 p v l w W' := ⟨hc, h.keep.trans hk, h.h0, h.hp⟩
theorem DS.set (h : DS w0 p v l w W) (hg : w.heap.size ≤ g) : DS w0 p v l w (W.setCell ⟨g, i, none⟩ u) := ⟨h.cur.setI i (by have := h.h0; omega) (by have := h.hp; omega) u, h.keep.setI i hg u, h.h0, h.hp⟩
theorem DS.grown (h : DS w0 p v l w W) {α : Type} {enc : α → List Value} {sz : Nat} {e : TypeId} {x : Value} {L : List α} (ho : OwnK e enc sz w.heap.size W x L) (hg : W.grownBy W' x.ownBlock) : DS w0 p v l w W' :=
  ⟨h.cur.grown hg (fun g e => by have h1 := (ho.lt g e).1; have h2 := h.h0; have h3 := h.hp; exact ⟨by omega, by omega⟩), h.keep.grown hg (fun g e => (ho.lt g e).1), h.h0, h.hp⟩
theorem DS.alloc (h : DS w0 p v l w W) (o : Obj) : DS w0 p v l w (W.alloc o) := h.on ((Below.refl _ _).alloc (Nat.le_refl _) o)
end
theorem blk_row {w w' : World} {g B sz : Nat} {cs : Array Value} {t e : TypeId} {α : Type} {enc : α → List Value} {x : Value} {L : List α} (h : Blk w g cs t) (hne : e ≠ t) (ho : OwnK e enc sz B w x L) (hg : w.grownBy w' x.ownBlock) : Blk w' g cs t :=
  h.grown hg (fun e1 => by
    obtain ⟨cs2, hc⟩ := ho.row e1.symm
    rw [show w.heap[g]? = some (.cells cs t) from h] at hc
    injection hc with hc
    injection hc with h3 h4
    exact hne h4.symm)
theorem two_new {w : World} (cs cs2 : Array Value) (t1 t2 : TypeId) : Ret.Blk ((w.alloc (.cells cs t1)).alloc (.cells cs2 t2)) w.heap.size cs t1 ∧ Ret.Blk ((w.alloc (.cells cs t1)).alloc (.cells cs2 t2)) (w.heap.size + 1) cs2 t2 ∧ Below w.heap.size w ((w.alloc (.cells cs t1)).alloc (.cells cs2 t2)) ∧ ((w.alloc (.cells cs t1)).alloc (.cells cs2 t2)).heap.size = w.heap.size + 2 := by
  have b1 := (Below.refl w.heap.size w).alloc (Nat.le_refl _) (.cells cs t1)
  have b2 := (Below.refl (w.alloc (.cells cs t1)).heap.size (w.alloc (.cells cs t1))).alloc (Nat.le_refl _) (.cells cs2 t2)
  exact ⟨(Ret.Blk.new w cs t1).on b2, Ret.Blk.new' (w := w.alloc (.cells cs t1)) (n := w.heap.size + 1) cs2 t2 (by simp), b1.trans (b2.mono b1.size), by simp⟩
end Go.Proofs.YtfglcmanmfenpaaGreat.Draw
/- Contracts of the reference model's draws of byte slices and of slices of integers: what is drawn lies in memory of the call's own; all else but the cursor is as it was. -/
namespace Go.Proofs.YtfglcmanmfenpaaGreat.Draw
open Go.ChangeShapes Go.WideShapes Go.ChangeAt Go.RowKit Go.Instr
open Sl (Holds Own Byt nth wpList_app holds_one own_empty elemBYTE elemINT)
set_option linter.unusedVariables false
set_option maxRecDepth 100000
theorem own_keep {e : TypeId} {k : IntKind} {B p : Nat} {w w' : World} {x : Value} {m : List Int} (h : Own e k B w x m) (hk : Keep p w w') (hp : p < B) : Own e k B w' x m := by
  refine ⟨h.1, ?_⟩
  rcases h.2 with h2 | ⟨g, cap, cur, hv, hg, hh, r⟩
  · exact Or.inl h2
  · exact Or.inr ⟨g, cap, cur, hv, hg, by rw [hk.block g (Array.getElem?_eq_some_iff.1 hh).1 (by omega)]; exact hh, r⟩
theorem byt_nil : Byt [] := fun x hx => by simp at hx
theorem byt_app {a b : List Int} (h : Byt a) (k : Byt b) : Byt (a ++ b) := fun x hx => by
  rcases List.mem_append.1 hx with h1 | h1
  · exact h x h1
  · exact k x h1
theorem byt_one {x : Int} (h0 : 0 ≤ x) (h1 : x ≤ 255) : Byt [x] := fun y hy => by
  obtain rfl : y = x := by simpa using hy
  exact ⟨h0, h1⟩
def BytesIn (B a b : Nat) (x : Value) (w : World) : Prop := ∃ m, Own 5 .u8 B w x m ∧ Byt m ∧ a ≤ m.length ∧ m.length ≤ b
set_option maxHeartbeats 1000000 in
theorem bytes (w0 : World) (p : Nat) (v : Value) (l : List UInt8) (w : World) (n : Nat) (hn : n ≤ 100000) (hc : Cur w0 p v l w) :
    Calls Tryz.prog 86 #[.pointer (some ⟨p, 0, none⟩), .int .i64 n] w (DrawnW w0 p v l w (BytesIn w.heap.size n n)) := by
  have hpl := hc.lt
  have HC := Lib.hid hc
  have H0 := Lib.hid (own_empty .u8 5 w)
  have C0 := Lib.hid (And.intro (hc.alloc (.cells #[] 5)) (keep_alloc p w (.cells #[] 5)))
  clear hc
  go_enter Tryz.func86, Tryz.ntmps86
  go_wp2_with fail
  go_loopw [5, 6] (fun ov iv wr => ∃ (k : Nat) (m : List Int), k ≤ n ∧ iv = .int .i64 k ∧ m.length = k ∧ Hid (Byt m) ∧ Hid (Own 5 .u8 w.heap.size wr ov m) ∧ Hid (Cur w0 p v l wr ∧ Keep p w wr)) (fun _ iv _ => n - (intOf iv).toNat)
  case atStart => exact ⟨0, [], Nat.zero_le _, rfl, rfl, Lib.hid byt_nil, H0, C0⟩
  case round =>
    obtain ⟨k, m, hk, rfl, hm, hB, ho, hcu⟩ := hrel
    have HM := Lib.hid hm; clear hm
    by_cases hlt : k < n
    · have hb := byte w0 p v l wr hcu.out.1
      have HB := Lib.hid hb; clear hb
      go_wp2_with fail
      refine HB.out.mono ?_
      rintro e w1 ⟨y, rfl, ⟨a, rfl, a0, a1⟩, hc1, hk1⟩
      have O1 := Lib.hid (own_keep ho.out hk1 hpl)
      have C1 := Lib.hid (And.intro hc1 (hcu.out.2.trans hk1))
      clear hc1 hk1
      go_wp2_with (at_builtin; refine wpList_app (k := .u8) (B := w.heap.size) (l := m) (m := [a]) rfl _ _ rfl Tryz.underlying22 elemBYTE rfl rfl rfl (O1.out.on ((Below.refl _ _).alloc (Nat.le_refl _) _)) (holds_one .u8 _ _ _) ?_ (by decide) ?_ ?_)
      · have := HM.out; simp; omega
      · have := C1.out.2.size; simp; omega
      intro v2 w2 ho2 hg
      have hlt2 := fun g hh => (O1.out.lt g hh).1
      have hc2 := (C1.out.1.alloc (.cells #[.int .u8 a] 5)).grown hg (fun g hh => ⟨by have := hlt2 g hh; have := HC.out.below.size; omega, by have := hlt2 g hh; omega⟩)
      have hk2 := (C1.out.2.trans (keep_alloc p w1 (.cells #[.int .u8 a] 5))).grown hg hlt2
      have HO2 := Lib.hid ho2; have C2 := Lib.hid (And.intro hc2 hk2)
      clear ho2 hg hc2 hk2 hlt2
      go_wp2_with fail
      go_roundw
      case rel => exact ⟨k + 1, m ++ [a], by omega, by go_num, by rw [List.length_append, HM.out]; rfl, Lib.hid (byt_app hB.out (byt_one a0 a1)), HO2, C2⟩
      case measure => simp [intOf]; omega
    · obtain rfl : k = n := by omega
      clear hlt
      go_wp2_with fail
      go_ret
      exact ⟨_, rfl, ⟨m, ho.out, hB.out, by rw [HM.out]; omega, by rw [HM.out]; omega⟩, hcu.out.1, hcu.out.2⟩
def IntsIn (B b : Nat) (x : Value) (w : World) : Prop := ∃ m, Own 3 .i64 B w x m ∧ (∀ y ∈ m, (Lit.int .i64 y).wf = true) ∧ m.length ≤ b
theorem intLit2 (w0 : World) (p : Nat) (v : Value) (l : List UInt8) (w : World) (hc : Cur w0 p v l w) (xs : List Int) (C : Array Value) (hC : C = (xs.map (Value.int .i64)).toArray) (n : Nat) (hn : xs.length = n) (hx : 0 < n) (hbig : n < 1000) (a b : Int) (hab : ∀ x ∈ xs, a ≤ x ∧ x ≤ b) :
    Calls Tryz.prog 49 #[.pointer (some ⟨p, 0, none⟩), .slice (some ⟨w.heap.size, 0, none⟩) n n] (w.alloc (.cells C 3)) (Drawn w0 p v l w (IntIn a b)) :=
  intLit w0 p v l w hc xs C hC n hn hx hbig (IntIn a b) (fun x hx => ⟨x, rfl, hab x hx⟩)
end Go.Proofs.YtfglcmanmfenpaaGreat.Draw
/- SignData and VerifyData, model and program. No conditions but that lengths fit. -/
namespace Go.Proofs.YtfglcmanmfenpaaGreat.Row
open Go.ChangeShapes Go.WideShapes Go.ChangeAt Go.RowKit Go.Instr
set_option linter.unusedVariables false
set_option maxRecDepth 100000
def sgD (t : Int) (x : Dt) : Dt := (x.1, x.2.1, x.2.2.1, x.2.2.2.1, Seal.mac t (portD x))
def verD (t : Int) (x : Dt) : Bool := Num.inB t 1 2147483646 && (x.2.2.2.2 == Seal.mac t (portD x))
theorem sMacV {t : Int} (M : Int) {l : List Int} (hM : Seal.mac t l = M) {v : Value} {w : World} (h : Sl.Holds .i64 w v l) (hl : l.length ≤ 9000000) : Calls Tryz.prog 99 #[.int .i64 t, v] w fun e w' => e = .returned (.int .i64 M) ∧ Below w.heap.size w w' := (Sl.specComputeMAC t v l w h (by omega)).mono fun e w' ⟨p, q⟩ => ⟨by rw [p, hM], q⟩
theorem own_row {α : Type} [Inhabited α] {enc : α → Value} {e : TypeId} {B g : Nat} {w w' : World} {v : Value} {l : List α} (h : Own e enc B w v l) (hg : w.grownBy w' (some g)) (hn : w.heap.size ≤ g ∨ ∀ q, v.ownBlock = some q → q ≠ g) : Own e enc B w' v l := by
  refine h.grown hg ?_
  cases hv : v.ownBlock with
  | none => exact Or.inl rfl
  | some q =>
    refine Or.inr fun e => ?_
    have h1 := (h.lt q hv).2
    have h2 : q = g := Option.some.inj e
    rcases hn with hn | hn
    · omega
    · exact hn q hv h2
theorem sl_own_row {k : IntKind} {e : TypeId} {B g : Nat} {w w' : World} {v : Value} {l : List Int} (h : Sl.Own e k B w v l) (hg : w.grownBy w' (some g)) (hn : w.heap.size ≤ g ∨ ∀ q, v.ownBlock = some q → q ≠ g) : Sl.Own e k B w' v l := own_row (enc := Value.int k) h hg hn
set_option maxHeartbeats 4000000 in
theorem specSignData (a b c : Value) (x : Dt) (t : Int) (w : World) (h : DHold w a b c x) (hB : Sl.Byt x.2.1) (hl : smD x) :
    Calls Tryz.prog 89 #[.int .i64 t, .agg (dc a b c x.2.2.2.1 x.2.2.2.2)] w (GivesD w (sgD t x)) := by
  obtain ⟨l, m, k, f, s⟩ := x
  unfold GivesD
  simp only [sgD] at hB ⊢
  have hl1 : bulk l ≤ 1200000 := hl.1
  have hl2 : m.length ≤ 1200000 := hl.2.1
  have hl3 : bulk k ≤ 1200000 := hl.2.2
  have hq1 : l.length ≤ 9000000 := by have := bulk_len l; omega
  have hq3 : k.length ≤ 9000000 := by have := bulk_len k; omega
  obtain ⟨xa, na, ca, xb, nb, cb, xc, nc, cc, rfl, rfl, rfl⟩ := h.shape
  obtain ⟨M, hM⟩ : ∃ M, Seal.mac t (portD (l, m, k, f, s)) = M := ⟨_, rfl⟩
  rw [hM]
  have HM := Lib.hid hM; have HY := Lib.hid hB; have HLB := Lib.hid hl
  have hb0 := (Below.refl w.heap.size w).alloc (Nat.le_refl _) (.cells (dc (.slice xa na ca) (.slice xb nb cb) (.slice xc nc cc) f s) 31)
  have HB := Lib.hid (hb0.alloc (by simp) (.cells (dc nil nil nil 0 0) 31))
  have H0 := Lib.hid (h.on HB.out)
  have HX := Lib.hid ((Ret.Blk.new w (dc (.slice xa na ca) (.slice xb nb cb) (.slice xc nc cc) f s) 31).on ((Below.refl _ _).alloc (Nat.le_refl _) (.cells (dc nil nil nil 0 0) 31)))
  have HR := Lib.hid (Ret.Blk.new' (w := w.alloc (.cells (dc (.slice xa na ca) (.slice xb nb cb) (.slice xc nc cc) f s) 31)) (n := w.heap.size + 1) (dc nil nil nil 0 0) 31 (by simp))
  have hz0 : ((w.alloc (.cells (dc (.slice xa na ca) (.slice xb nb cb) (.slice xc nc cc) f s) 31)).alloc (.cells (dc nil nil nil 0 0) 31)).heap.size = w.heap.size + 2 := by simp
  clear h hB hl hl1 hl3 hM hb0
  go_enter Tryz.func89, Tryz.ntmps89
  go_wp2_with fail
  refine (l8Copy _ _ _ (l, m, k, f, s) _ H0.out (by simp only; omega) (by simp only; omega) (by simp only; omega)).mono ?_
  rintro e w1 ⟨a1, b1, c1, rfl, hd1, hb1⟩
  obtain ⟨oa, ob, oc, pab, pac, pbc⟩ := hd1
  obtain ⟨ya, ma, da, rfl, -, -, oa⟩ := oa.shapeN
  obtain ⟨yb, mb, db, rfl, -, -, ob⟩ := Own.shapeN (enc := Value.int .u8) ob
  replace ob : Sl.Own 5 .u8 _ w1 (.slice yb mb db) m := ob
  obtain ⟨yc, mc, dc_, rfl, -, -, oc⟩ := oc.shapeN
  have hs1 := hb1.size
  rw [hz0] at hs1 oa ob oc
  have hal := (Below.refl w1.heap.size w1).alloc (Nat.le_refl _) (.cells (dc (.slice ya ma da) (.slice yb mb db) (.slice yc mc dc_) f s) 31)
  replace HB := Lib.hid ((HB.out.trans (hb1.mono HB.out.size)).trans (hal.mono (by omega)))
  have HB1 := Lib.hid (hb1.trans (hal.mono (by simp; omega)))
  replace HX := Lib.hid ((HX.out.on hb1).on hal); replace HR := Lib.hid ((HR.out.on hb1).on hal)
  have HL := Lib.hid (Ret.Blk.new w1 (dc (.slice ya ma da) (.slice yb mb db) (.slice yc mc dc_) f s) 31)
  have OA := Lib.hid (oa.on hal); have OB := Lib.hid (ob.on hal); have OC := Lib.hid (oc.on hal)
  have AP := Lib.hid (show Apart (.slice ya ma da) (.slice yb mb db) ∧ Apart (.slice ya ma da) (.slice yc mc dc_) ∧ Apart (.slice yb mb db) (.slice yc mc dc_) from ⟨pab, pac, pbc⟩)
  have hla : ∀ q, (.slice ya ma da : Value).ownBlock = some q → q < w1.heap.size := fun q e => (oa.lt q e).2
  have hlb : ∀ q, (.slice yb mb db : Value).ownBlock = some q → q < w1.heap.size := fun q e => (Sl.Own.lt ob q e).2
  have hlc : ∀ q, (.slice yc mc dc_ : Value).ownBlock = some q → q < w1.heap.size := fun q e => (oc.lt q e).2
  have HLA := Lib.hid hla; have HLBB := Lib.hid hlb; have HLC := Lib.hid hlc
  have hsz : (w1.alloc (.cells (dc (.slice ya ma da) (.slice yb mb db) (.slice yc mc dc_) f s) 31)).heap.size = w1.heap.size + 1 := by simp
  clear oa ob oc pab pac pbc hb1 hal hz0 hla hlb hlc
  have H1 := Lib.hid (H0.out.on HB1.out)
  have q0 : (w1.alloc (.cells (dc (.slice ya ma da) (.slice yb mb db) (.slice yc mc dc_) f s) 31)).cell? ⟨w.heap.size, 0, none⟩ = some (.slice xa na ca) := HX.out.cell 0
  have q1 : (w1.alloc (.cells (dc (.slice ya ma da) (.slice yb mb db) (.slice yc mc dc_) f s) 31)).cell? ⟨w.heap.size, 1, none⟩ = some (.slice xb nb cb) := HX.out.cell 1
  have q2 : (w1.alloc (.cells (dc (.slice ya ma da) (.slice yb mb db) (.slice yc mc dc_) f s) 31)).cell? ⟨w.heap.size, 2, none⟩ = some (.slice xc nc cc) := HX.out.cell 2
  have q3 : (w1.alloc (.cells (dc (.slice ya ma da) (.slice yb mb db) (.slice yc mc dc_) f s) 31)).cell? ⟨w.heap.size, 3, none⟩ = some (.int .i64 f) := HX.out.cell 3
  have q4 : (w1.alloc (.cells (dc (.slice ya ma da) (.slice yb mb db) (.slice yc mc dc_) f s) 31)).cell? ⟨w.heap.size, 4, none⟩ = some (.int .i64 s) := HX.out.cell 4
  go_wp2_with fail
  clear q0 q1 q2 q3 q4
  refine (specSignedPortion _ _ _ (l, m, k, f, s) _ H1.out HY.out HLB.out).mono ?_
  rintro e w2 ⟨v2, rfl, ho, hb⟩
  have HO := Lib.hid ho.holds
  have hs2 := hb.size
  rw [hsz] at hs2
  replace HX := Lib.hid (HX.out.on hb); replace HR := Lib.hid (HR.out.on hb); replace HL := Lib.hid (HL.out.on hb)
  replace OA := Lib.hid (OA.out.on hb); replace OB := Lib.hid (OB.out.on hb); replace OC := Lib.hid (OC.out.on hb)
  replace HB := Lib.hid (HB.out.trans (hb.mono HB.out.size))
  have HLN := Lib.hid (show (portD (l, m, k, f, s)).length ≤ 9000000 from Nat.le_trans (portD_small _) (by have := HLB.out.2.1; first | omega | (show 1000 + m.length ≤ _; simp only at this; omega)))
  clear ho hb
  go_wp2_with fail
  refine (sMacV M HM.out HO.out HLN.out).mono ?_
  rintro e w3 ⟨rfl, hb⟩
  have hs3 := hb.size
  replace HX := Lib.hid (HX.out.on hb); replace HR := Lib.hid (HR.out.on hb); replace HL := Lib.hid (HL.out.on hb)
  replace OA := Lib.hid (OA.out.on hb); replace OB := Lib.hid (OB.out.on hb); replace OC := Lib.hid (OC.out.on hb)
  replace HB := Lib.hid (HB.out.trans (hb.mono HB.out.size))
  clear hb
  have p0 : w3.cell? ⟨w1.heap.size, 0, none⟩ = some (.slice ya ma da) := HL.out.cell 0
  have p1 : w3.cell? ⟨w1.heap.size, 1, none⟩ = some (.slice yb mb db) := HL.out.cell 1
  have p2 : w3.cell? ⟨w1.heap.size, 2, none⟩ = some (.slice yc mc dc_) := HL.out.cell 2
  have p3 : w3.cell? ⟨w1.heap.size, 3, none⟩ = some (.int .i64 f) := HL.out.cell 3
  have p4 : w3.cell? ⟨w1.heap.size, 4, none⟩ = some (.int .i64 s) := HL.out.cell 4
  have t0 := HL.out.frozen 0; have t1 := HL.out.frozen 1; have t2 := HL.out.frozen 2; have t3 := HL.out.frozen 3; have t4 := HL.out.frozen 4
  have r0 : w3.cell? ⟨w.heap.size + 1, 0, none⟩ = some (.slice none 0 0) := HR.out.cell 0
  have r1 : w3.cell? ⟨w.heap.size + 1, 1, none⟩ = some (.slice none 0 0) := HR.out.cell 1
  have r2 : w3.cell? ⟨w.heap.size + 1, 2, none⟩ = some (.slice none 0 0) := HR.out.cell 2
  have r3 : w3.cell? ⟨w.heap.size + 1, 3, none⟩ = some (.int .i64 0) := HR.out.cell 3
  have r4 : w3.cell? ⟨w.heap.size + 1, 4, none⟩ = some (.int .i64 0) := HR.out.cell 4
  have z0 := HR.out.frozen 0; have z1 := HR.out.frozen 1; have z2 := HR.out.frozen 2; have z3 := HR.out.frozen 3; have z4 := HR.out.frozen 4
  have Z1 := Lib.hid ((((((HR.out.other (a := ⟨w1.heap.size, 4, none⟩) (by show w1.heap.size ≠ w.heap.size + 1; omega) (.int .i64 M)).set 0 (.slice ya ma da)).set 1 (.slice yb mb db)).set 2 (.slice yc mc dc_)).set 3 (.int .i64 f)).set 4 (.int .i64 M))
  have Z2 := Lib.hid (own_set (g := w.heap.size + 1) (i := 4) (u := .int .i64 M) (own_set (g := w.heap.size + 1) (i := 3) (u := .int .i64 f) (own_set (g := w.heap.size + 1) (i := 2) (u := .slice yc mc dc_) (own_set (g := w.heap.size + 1) (i := 1) (u := .slice yb mb db) (own_set (g := w.heap.size + 1) (i := 0) (u := .slice ya ma da) (own_row OA.out (Ret.grownBy_set _ ⟨w1.heap.size, 4, none⟩ (.int .i64 M)) (Or.inr fun q e e6 => by have h5 := HLA.out q e; have e7 : q = w1.heap.size := e6; omega)) (by omega)) (by omega)) (by omega)) (by omega)) (by omega))
  have Z3 := Lib.hid (sl_own_set (g := w.heap.size + 1) (i := 4) (u := .int .i64 M) (sl_own_set (g := w.heap.size + 1) (i := 3) (u := .int .i64 f) (sl_own_set (g := w.heap.size + 1) (i := 2) (u := .slice yc mc dc_) (sl_own_set (g := w.heap.size + 1) (i := 1) (u := .slice yb mb db) (sl_own_set (g := w.heap.size + 1) (i := 0) (u := .slice ya ma da) (sl_own_row OB.out (Ret.grownBy_set _ ⟨w1.heap.size, 4, none⟩ (.int .i64 M)) (Or.inr fun q e e6 => by have h5 := HLBB.out q e; have e7 : q = w1.heap.size := e6; omega)) (by omega)) (by omega)) (by omega)) (by omega)) (by omega))
  have Z4 := Lib.hid (own_set (g := w.heap.size + 1) (i := 4) (u := .int .i64 M) (own_set (g := w.heap.size + 1) (i := 3) (u := .int .i64 f) (own_set (g := w.heap.size + 1) (i := 2) (u := .slice yc mc dc_) (own_set (g := w.heap.size + 1) (i := 1) (u := .slice yb mb db) (own_set (g := w.heap.size + 1) (i := 0) (u := .slice ya ma da) (own_row OC.out (Ret.grownBy_set _ ⟨w1.heap.size, 4, none⟩ (.int .i64 M)) (Or.inr fun q e e6 => by have h5 := HLC.out q e; have e7 : q = w1.heap.size := e6; omega)) (by omega)) (by omega)) (by omega)) (by omega)) (by omega))
  have Z5 := Lib.hid ((((((HB.out.setCell (p := ⟨w1.heap.size, 4, none⟩) (by show w.heap.size ≤ w1.heap.size; omega) (.int .i64 M)).setCell (p := ⟨w.heap.size + 1, 0, none⟩) (by show w.heap.size ≤ w.heap.size + 1; omega) (.slice ya ma da)).setCell (p := ⟨w.heap.size + 1, 1, none⟩) (by show w.heap.size ≤ w.heap.size + 1; omega) (.slice yb mb db)).setCell (p := ⟨w.heap.size + 1, 2, none⟩) (by show w.heap.size ≤ w.heap.size + 1; omega) (.slice yc mc dc_)).setCell (p := ⟨w.heap.size + 1, 3, none⟩) (by show w.heap.size ≤ w.heap.size + 1; omega) (.int .i64 f)).setCell (p := ⟨w.heap.size + 1, 4, none⟩) (by show w.heap.size ≤ w.heap.size + 1; omega) (.int .i64 M))
  go_wp2_with fail
  refine bodyPost_ret (Ret.results_c rfl _ _ (w.heap.size + 1) (dc (.slice ya ma da) (.slice yb mb db) (.slice yc mc dc_) f M).toList rfl aggD Z1.out.cells) rfl ?_
  exact ⟨_, _, _, rfl, ⟨Z2.out.mono (by omega), Sl.Own.mono Z3.out (by omega), Z4.out.mono (by omega), AP.out⟩, Z5.out⟩
end Go.Proofs.YtfglcmanmfenpaaGreat.Row
/- Helpers for the model's draws of data packets. What was in memory stays as it was, but for the cursor. -/
namespace Go.Proofs.YtfglcmanmfenpaaGreat.Draw
open Go.ChangeShapes Go.WideShapes Go.ChangeAt Go.RowKit Go.Instr
open Go.Proofs.YtfglcmanmfenpaaGreat.Row (bulk bulk_append bulk_one bulk_nil bulk_cons Dt dc aggD bulkD advD WfD DHold DOwn)
open Go.Proofs.YtfglcmanmfenpaaGreat.Ret (NC Blk Box)
set_option linter.unusedVariables false
set_option maxRecDepth 100000
section
variable {W : World} {g q p : Nat} {a b c : Value} {f s : Int} {t : TypeId} {w0 w : World} {v0 : Value} {l0 : List UInt8}
theorem blk5 {cs : Array Value} (h : Blk W g cs t) (hne : g ≠ q) : Blk (((((W.setCell ⟨q, 0, none⟩ (a)).setCell ⟨q, 1, none⟩ (b)).setCell ⟨q, 2, none⟩ (c)).setCell ⟨q, 3, none⟩ (.int .i64 f)).setCell ⟨q, 4, none⟩ (.int .i64 s)) g cs t := (((((h.other (a := ⟨q, 0, none⟩) (fun e => hne e.symm) (a)).other (a := ⟨q, 1, none⟩) (fun e => hne e.symm) (b)).other (a := ⟨q, 2, none⟩) (fun e => hne e.symm) (c)).other (a := ⟨q, 3, none⟩) (fun e => hne e.symm) (.int .i64 f)).other (a := ⟨q, 4, none⟩) (fun e => hne e.symm) (.int .i64 s))
theorem box5 {u : Value} (h : Box W g u t) (hne : g ≠ q) : Box (((((W.setCell ⟨q, 0, none⟩ (a)).setCell ⟨q, 1, none⟩ (b)).setCell ⟨q, 2, none⟩ (c)).setCell ⟨q, 3, none⟩ (.int .i64 f)).setCell ⟨q, 4, none⟩ (.int .i64 s)) g u t := blk5 h hne
theorem set5 {a1 b1 c1 : Value} {f1 s1 : Int} (h : Blk W q (dc a1 b1 c1 f1 s1) t) : Blk (((((W.setCell ⟨q, 0, none⟩ (a)).setCell ⟨q, 1, none⟩ (b)).setCell ⟨q, 2, none⟩ (c)).setCell ⟨q, 3, none⟩ (.int .i64 f)).setCell ⟨q, 4, none⟩ (.int .i64 s)) q (dc a b c f s) t := (((((h.set 0 (a)).set 1 (b)).set 2 (c)).set 3 (.int .i64 f)).set 4 (.int .i64 s))
theorem cur5 (h : Cur w0 p v0 l0 W) (hg : w0.heap.size ≤ q) (hp : q ≠ p) : Cur w0 p v0 l0 (((((W.setCell ⟨q, 0, none⟩ (a)).setCell ⟨q, 1, none⟩ (b)).setCell ⟨q, 2, none⟩ (c)).setCell ⟨q, 3, none⟩ (.int .i64 f)).setCell ⟨q, 4, none⟩ (.int .i64 s)) := (((((h.setI 0 hg hp (a)).setI 1 hg hp (b)).setI 2 hg hp (c)).setI 3 hg hp (.int .i64 f)).setI 4 hg hp (.int .i64 s))
theorem keep5 (h : Keep p w W) (hq : w.heap.size ≤ q) : Keep p w (((((W.setCell ⟨q, 0, none⟩ (a)).setCell ⟨q, 1, none⟩ (b)).setCell ⟨q, 2, none⟩ (c)).setCell ⟨q, 3, none⟩ (.int .i64 f)).setCell ⟨q, 4, none⟩ (.int .i64 s)) := (((((h.setI 0 hq (a)).setI 1 hq (b)).setI 2 hq (c)).setI 3 hq (.int .i64 f)).setI 4 hq (.int .i64 s))
theorem keepC5 (h : Blk W g (dc a b c f s) t) : W.cell? ⟨g, 0, none⟩ = some a ∧ W.cell? ⟨g, 1, none⟩ = some b ∧ W.cell? ⟨g, 2, none⟩ = some c ∧ W.cell? ⟨g, 3, none⟩ = some (.int .i64 f) ∧ W.cell? ⟨g, 4, none⟩ = some (.int .i64 s) := ⟨h.cell 0, h.cell 1, h.cell 2, h.cell 3, h.cell 4⟩
end
def DO3 (B : Nat) (w : World) (a b c : Value) (x : Dt) : Prop := Row.Own 9 Value.string B w a x.1 ∧ Sl.Own 5 .u8 B w b x.2.1 ∧ Row.Own 9 Value.string B w c x.2.2.1
section
variable {B p : Nat} {w w' : World} {a b c : Value} {x : Dt}
theorem DO3.of (h : DOwn B w a b c x) : DO3 B w a b c x := ⟨h.1, h.2.1, h.2.2.1⟩
theorem DO3.on (h : DO3 B w a b c x) (hb : Below w.heap.size w w') : DO3 B w' a b c x := ⟨h.1.on hb, Sl.Own.on h.2.1 hb, h.2.2.on hb⟩
theorem DO3.keep (h : DO3 B w a b c x) (hk : Keep p w w') (hp : p < B) : DO3 B w' a b c x := ⟨rown_keep h.1 hk hp, own_keep h.2.1 hk hp, rown_keep h.2.2 hk hp⟩
theorem DO3.mono {B' : Nat} (h : DO3 B w a b c x) (hB : B' ≤ B) : DO3 B' w a b c x := ⟨h.1.mono hB, Sl.Own.mono h.2.1 hB, h.2.2.mono hB⟩
theorem DO3.hold (h : DO3 B w a b c x) : DHold w a b c x := ⟨h.1.holds, Sl.Own.holds h.2.1, h.2.2.holds⟩
theorem DO3.shape (h : DO3 B w a b c x) : ∃ xa na ca xb nb cb xc nc cc, a = .slice xa na ca ∧ b = .slice xb nb cb ∧ c = .slice xc nc cc := h.hold.shape
end
theorem own_setT {k : IntKind} {e t : TypeId} {B g i : Nat} {w : World} {v u : Value} {l : List Int} {cs : Array Value} (h : Sl.Own e k B w v l) (hb : Blk w g cs t) (hne : e ≠ t) : Sl.Own e k B (w.setCell ⟨g, i, none⟩ u) v l := rown_setT (enc := Value.int k) h hb hne
theorem DO3.setT {B g i : Nat} {w : World} {a b c u : Value} {x : Dt} {cs : Array Value} (h : DO3 B w a b c x) (hb : Blk w g cs 31) : DO3 B (w.setCell ⟨g, i, none⟩ u) a b c x := ⟨rown_setT h.1 hb (by decide), own_setT h.2.1 hb (by decide), rown_setT h.2.2 hb (by decide)⟩
theorem DO3.fiveT {B q : Nat} {w : World} {a b c a1 b1 c1 : Value} {f s : Int} {x : Dt} {cs : Array Value} (h : DO3 B w a b c x) (hb : Blk w q cs 31) : DO3 B (((((w.setCell ⟨q, 0, none⟩ (a1)).setCell ⟨q, 1, none⟩ (b1)).setCell ⟨q, 2, none⟩ (c1)).setCell ⟨q, 3, none⟩ (.int .i64 f)).setCell ⟨q, 4, none⟩ (.int .i64 s)) a b c x := ((((h.setT hb).setT (hb.set 0 a1)).setT ((hb.set 0 a1).set 1 b1)).setT (((hb.set 0 a1).set 1 b1).set 2 c1)).setT ((((hb.set 0 a1).set 1 b1).set 2 c1).set 3 (.int .i64 f))
def DataIn (B : Nat) (V : Value) (w : World) : Prop := ∃ xa na ca xb nb cb xc nc cc, ∃ y : Dt, V = .agg #[.slice xa na ca, .slice xb nb cb, .slice xc nc cc, .int .i64 y.2.2.2.1, .int .i64 y.2.2.2.2] ∧ DO3 B w (.slice xa na ca) (.slice xb nb cb) (.slice xc nc cc) y ∧ bulkD y ≤ 3000 ∧ WfD y
theorem wfS {l : List ByteArray} (h : bulk l ≤ 100000) : ∀ x ∈ l, x.size ≤ maxLen := fun y hy => by
  obtain ⟨k, hk, rfl⟩ := List.getElem_of_mem hy
  have h1 := Row.size_bulk (l := l) hk
  rw [Row.nth_eq hk] at h1
  have h2 : maxLen = 9223372036854775807 := rfl
  omega
theorem wfB {l : List Int} (h : Sl.Byt l) : ∀ x ∈ l, (Lit.int .u8 x).wf = true := fun x hx => by
  have h1 := h x hx
  have e1 : IntKind.u8.min = 0 := rfl
  have e2 : IntKind.u8.max = 255 := rfl
  simp [Lit.wf, e1, e2, h1.1, h1.2]
theorem wfD_of {x : Dt} (h1 : bulkD x ≤ 3000) (h2 : Sl.Byt x.2.1) (h3 : (Lit.int .i64 x.2.2.2.1).wf = true) (h4 : (Lit.int .i64 x.2.2.2.2).wf = true) : WfD x := by
  unfold bulkD at h1
  exact ⟨wfS (by omega), wfB h2, wfS (by omega), h3, h4⟩
theorem strPick3 (w0 : World) (p : Nat) (v : Value) (l : List UInt8) (w : World) (hc : Cur w0 p v l w) {q : Nat} {a b c : ByteArray} {t : TypeId} (hb : Blk w q #[.string a, .string b, .string c] t) (hq : q ≠ p) (k : Nat) (ha : a.size ≤ k) (hbk : b.size ≤ k) (hck : c.size ≤ k) :
    Calls Tryz.prog 88 #[.pointer (some ⟨p, 0, none⟩), .slice (some ⟨q, 0, none⟩) 3 3] w (Drawn w0 p v l w (StrUpto k)) := by
  refine (strOf w0 p v l w q [.string a, .string b, .string c] 3 rfl (by decide) (by decide) hc hq (fun j hj => ?_)).mono fun e w' h => ?_
  · have h3 : j < 3 := hj
    rw [hb.cell]
    obtain rfl | rfl | rfl : j = 0 ∨ j = 1 ∨ j = 2 := by omega
    all_goals rfl
  · obtain ⟨x, e1, e2, e3⟩ := h
    refine ⟨x, e1, ?_, e3⟩
    simp only [List.mem_cons, List.not_mem_nil, or_false] at e2
    rcases e2 with rfl | rfl | rfl
    · exact ⟨_, rfl, ha⟩
    · exact ⟨_, rfl, hbk⟩
    · exact ⟨_, rfl, hck⟩
set_option maxHeartbeats 1000000 in
theorem l8Secret (w0 : World) (p : Nat) (v : Value) (l : List UInt8) (w : World) (hc : Cur w0 p v l w) :
    Calls Tryz.prog 90 #[.pointer (some ⟨p, 0, none⟩)] w (Drawn w0 p v l w (IntIn 100 104)) := by
  have HD := Lib.hid (below w0 p v l w 5 hc); clear hc
  go_enter Tryz.func90, Tryz.ntmps90
  go_wp2_with fail
  refine HD.out.mono ?_
  rintro e w1 ⟨y, rfl, ⟨r, rfl, hr, _⟩, hc, hk⟩
  have hr := hr (by omega)
  have HC := Lib.hid hc; have HK := Lib.hid hk; clear hc hk HD
  go_wp2_with fail
  go_ret
  exact ⟨_, rfl, ⟨100 + r, rfl, by omega, by omega⟩, HC.out, HK.out⟩
theorem noStrD (xa xb xc : Option Addr) (na ca nb cb nc cc : Nat) (f s : Int) : NoStr (dc (.slice xa na ca) (.slice xb nb cb) (.slice xc nc cc) f s) := fun i s h => by
  rcases i with _ | _ | _ | _ | _ | i
  · cases h
  · cases h
  · cases h
  · cases h
  · cases h
  · simp at h
theorem holdS_five {w : World} {x xa xb xc ya yb yc : Option Addr} {n c q na ca nb cb nc cc ma da mb db mc dc' : Nat} {l : List ByteArray} {t : TypeId} {f s f1 s1 : Int} (h : Row.Holds Value.string w (.slice x n c) l) (hb : Blk w q (dc (.slice xa na ca) (.slice xb nb cb) (.slice xc nc cc) f s) t) : Row.Holds Value.string (((((w.setCell ⟨q, 0, none⟩ (.slice ya ma da)).setCell ⟨q, 1, none⟩ (.slice yb mb db)).setCell ⟨q, 2, none⟩ (.slice yc mc dc')).setCell ⟨q, 3, none⟩ (.int .i64 f1)).setCell ⟨q, 4, none⟩ (.int .i64 s1)) (.slice x n c) l := by
  have b1 := hb.set 0 (.slice ya ma da)
  have b2 := b1.set 1 (.slice yb mb db)
  have b3 := b2.set 2 (.slice yc mc dc')
  have b4 := b3.set 3 (.int .i64 f1)
  exact holdS_set (holdS_set (holdS_set (holdS_set (holdS_set h hb (noStrD _ _ _ _ _ _ _ _ _ _ _)) b1 (noStrD ya xb xc ma da nb cb nc cc f s)) b2 (noStrD ya yb xc ma da mb db nc cc f s)) b3 (noStrD ya yb yc ma da mb db mc dc' f s)) b4 (noStrD ya yb yc ma da mb db mc dc' f1 s)
theorem signV (xa xb xc : Option Addr) (na ca nb cb nc cc : Nat) (x : Dt) (t : Int) (w : World) (h : DHold w (.slice xa na ca) (.slice xb nb cb) (.slice xc nc cc) x) (hB : Sl.Byt x.2.1) (hl : bulkD x ≤ 1200000) :
    Calls Tryz.prog 89 #[.int .i64 t, .agg #[.slice xa na ca, .slice xb nb cb, .slice xc nc cc, .int .i64 x.2.2.2.1, .int .i64 x.2.2.2.2]] w fun e w' => ∃ ya ma da yb mb db yc mc dc_, ∃ M : Int, e = .returned (.agg #[.slice ya ma da, .slice yb mb db, .slice yc mc dc_, .int .i64 x.2.2.2.1, .int .i64 M]) ∧ DO3 w.heap.size w' (.slice ya ma da) (.slice yb mb db) (.slice yc mc dc_) (x.1, x.2.1, x.2.2.1, x.2.2.2.1, M) ∧ M = Seal.mac t (Row.portD x) ∧ Below w.heap.size w w' := by
  refine (Row.specSignData _ _ _ x t w h hB (Row.smD_of hl)).mono ?_
  rintro e w' ⟨a, b, c, rfl, ho, hb⟩
  obtain ⟨ya, ma, da, yb, mb, db, yc, mc, dc_, rfl, rfl, rfl⟩ := ho.hold.shape
  exact ⟨ya, ma, da, yb, mb, db, yc, mc, dc_, _, rfl, DO3.of ho, rfl, hb⟩
end Go.Proofs.YtfglcmanmfenpaaGreat.Draw
