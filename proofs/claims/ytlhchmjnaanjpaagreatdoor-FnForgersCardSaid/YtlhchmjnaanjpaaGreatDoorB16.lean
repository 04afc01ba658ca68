/- Contracts and mathematics, joined: DrawT0, DrawR0, DrawSeal, Ring, RingLaw, RingMark, RingV, RingCopy, RingFind, WantQ, EncMath, RingMath, RingA, RingB. No conditions but those that each states. -/
import Derived.Test.YtlhchmjnaanjpaaGreatDoorB4
import Derived.Test.YtlhchmjnaanjpaaGreatDoorB9
import Derived.Test.YtlhchmjnaanjpaaGreatDoorB15
import Derived.Test.YtlhchmjnaanjpaaGreatDoorB1
import Derived.Test.YtlhchmjnaanjpaaGreatDoorB3
import Derived.Test.YtlhchmjnaanjpaaGreatDoorB11
import Derived.Deep.RegionLaw
import Derived.Test.YtlhchmjnaanjpaaGreatDoorB10
import Derived.Maps.OwnSet
import Derived.Lib.AppendStr
/- Helpers for the model's draws of data packets. What was in memory stays as it was, but for the cursor. -/
namespace Go.Proofs.YtlhchmjnaanjpaaGreatDoor.Draw
open Go.ChangeShapes Go.WideShapes Go.ChangeAt Go.RowKit Go.Instr
open Go.Proofs.YtlhchmjnaanjpaaGreatDoor.Row (bulk bulk_append bulk_one bulk_nil bulk_cons Dt dc aggD bulkD advD WfD DHold DOwn)
open Go.Proofs.YtlhchmjnaanjpaaGreatDoor.Ret (NC Blk Box)
set_option linter.unusedVariables false
set_option maxRecDepth 100000
section
variable {W : World} {g q p : Nat} {a b c : Value} {f s : Int} {t : TypeId} {w0 w : World} {v0 : Value} {l0 : List UInt8}
theorem rown5 {α : Type} [Inhabited α] {enc : α → Value} {e : TypeId} {B : Nat} {v : Value} {l : List α} (h : Row.Own e enc B W v l) (hq : q < B) : Row.Own e enc B (((((W.setCell ⟨q, 0, none⟩ (a)).setCell ⟨q, 1, none⟩ (b)).setCell ⟨q, 2, none⟩ (c)).setCell ⟨q, 3, none⟩ (.int .i64 f)).setCell ⟨q, 4, none⟩ (.int .i64 s)) v l := (Row.own_set (g := q) (i := 4) (u := .int .i64 s) (Row.own_set (g := q) (i := 3) (u := .int .i64 f) (Row.own_set (g := q) (i := 2) (u := c) (Row.own_set (g := q) (i := 1) (u := b) (Row.own_set (g := q) (i := 0) (u := a) h hq) hq) hq) hq) hq)
theorem own5 {k : IntKind} {e : TypeId} {B : Nat} {v : Value} {l : List Int} (h : Sl.Own e k B W v l) (hq : q < B) : Sl.Own e k B (((((W.setCell ⟨q, 0, none⟩ (a)).setCell ⟨q, 1, none⟩ (b)).setCell ⟨q, 2, none⟩ (c)).setCell ⟨q, 3, none⟩ (.int .i64 f)).setCell ⟨q, 4, none⟩ (.int .i64 s)) v l := rown5 (enc := Value.int k) h hq
end
def DO3 (B : Nat) (w : World) (a b c : Value) (x : Dt) : Prop := Row.Own 9 Value.string B w a x.1 ∧ Sl.Own 5 .u8 B w b x.2.1 ∧ Row.Own 9 Value.string B w c x.2.2.1
section
variable {B p : Nat} {w w' : World} {a b c : Value} {x : Dt}
theorem DO3.of (h : DOwn B w a b c x) : DO3 B w a b c x := ⟨h.1, h.2.1, h.2.2.1⟩
theorem DO3.on (h : DO3 B w a b c x) (hb : Below w.heap.size w w') : DO3 B w' a b c x := ⟨h.1.on hb, Sl.Own.on h.2.1 hb, h.2.2.on hb⟩
theorem DO3.keep (h : DO3 B w a b c x) (hk : Keep p w w') (hp : p < B) : DO3 B w' a b c x := ⟨rown_keep h.1 hk hp, own_keep h.2.1 hk hp, rown_keep h.2.2 hk hp⟩
theorem DO3.mono {B' : Nat} (h : DO3 B w a b c x) (hB : B' ≤ B) : DO3 B' w a b c x := ⟨h.1.mono hB, Sl.Own.mono h.2.1 hB, h.2.2.mono hB⟩
theorem DO3.hold (h : DO3 B w a b c x) : DHold w a b c x := ⟨h.1.holds, Sl.Own.holds h.2.1, h.2.2.holds⟩
theorem DO3.shape (h : DO3 B w a b c x) : ∃ xa na ca xb nb cb xc nc cc, a = .slice xa na ca ∧ b = .slice xb nb cb ∧ c = .slice xc nc cc := h.hold.shape
theorem DO3.five {q : Nat} {a1 b1 c1 : Value} {f s : Int} (h : DO3 B w a b c x) (hq : q < B) : DO3 B (((((w.setCell ⟨q, 0, none⟩ (a1)).setCell ⟨q, 1, none⟩ (b1)).setCell ⟨q, 2, none⟩ (c1)).setCell ⟨q, 3, none⟩ (.int .i64 f)).setCell ⟨q, 4, none⟩ (.int .i64 s)) a b c x := ⟨rown5 h.1 hq, own5 h.2.1 hq, rown5 h.2.2 hq⟩
end
theorem own_setT {k : IntKind} {e t : TypeId} {B g i : Nat} {w : World} {v u : Value} {l : List Int} {cs : Array Value} (h : Sl.Own e k B w v l) (hb : Blk w g cs t) (hne : e ≠ t) : Sl.Own e k B (w.setCell ⟨g, i, none⟩ u) v l := rown_setT (enc := Value.int k) h hb hne
theorem DO3.setT {B g i : Nat} {w : World} {a b c u : Value} {x : Dt} {cs : Array Value} (h : DO3 B w a b c x) (hb : Blk w g cs 34) : DO3 B (w.setCell ⟨g, i, none⟩ u) a b c x := ⟨rown_setT h.1 hb (by decide), own_setT h.2.1 hb (by decide), rown_setT h.2.2 hb (by decide)⟩
def DataIn (B : Nat) (V : Value) (w : World) : Prop := ∃ xa na ca xb nb cb xc nc cc, ∃ y : Dt, V = .agg #[.slice xa na ca, .slice xb nb cb, .slice xc nc cc, .int .i64 y.2.2.2.1, .int .i64 y.2.2.2.2] ∧ DO3 B w (.slice xa na ca) (.slice xb nb cb) (.slice xc nc cc) y ∧ bulkD y ≤ 3000 ∧ WfD y
theorem wfB {l : List Int} (h : Sl.Byt l) : ∀ x ∈ l, (Lit.int .u8 x).wf = true := fun x hx => by
  have h1 := h x hx
  have e1 : IntKind.u8.min = 0 := rfl
  have e2 : IntKind.u8.max = 255 := rfl
  simp [Lit.wf, e1, e2, h1.1, h1.2]
end Go.Proofs.YtlhchmjnaanjpaaGreatDoor.Draw
/- Names that lie in blocks of texts (XHB), beside the draws of data packets. No conditions. -/
/- Contracts of the reference model's draws of chapter 3: secrets, slices of integers and of bytes, texts. What was in memory stays as it was. -/
namespace Go.Proofs.YtlhchmjnaanjpaaGreatDoor.Draw
open Go.ChangeShapes Go.WideShapes Go.ChangeAt Go.RowKit Go.Instr
open Sl (Holds Own Byt nth wpList_app holds_one own_empty elemBYTE elemINT)
set_option linter.unusedVariables false
set_option maxRecDepth 100000
def QDrawDigest (w : World) (e : Ending) (w' : World) : Prop := ∃ (x0 : Value) (m0 : List Int), e = .returned (x0) ∧ Own 3 .i64 w.heap.size w' x0 m0 ∧ (∀ y ∈ m0, (Lit.int .i64 y).wf = true) ∧ m0.length ≤ 100 ∧ Below w.heap.size w w'
def QDrawComputeMAC (w : World) (e : Ending) (w' : World) : Prop := ∃ (n0 : Int) (x1 : Value) (m1 : List Int), e = .returned (.tuple #[.int .i64 n0, x1]) ∧ (Lit.int .i64 n0).wf = true ∧ Own 3 .i64 w.heap.size w' x1 m1 ∧ (∀ y ∈ m1, (Lit.int .i64 y).wf = true) ∧ m1.length ≤ 100 ∧ Below w.heap.size w w'
def QDrawValidSecret (w : World) (e : Ending) (w' : World) : Prop := ∃ (n0 : Int), e = .returned (.int .i64 n0) ∧ (Lit.int .i64 n0).wf = true ∧ Below w.heap.size w w'
def QDrawBytesToInts (w : World) (e : Ending) (w' : World) : Prop := ∃ (x0 : Value) (m0 : List Int), e = .returned (x0) ∧ Own 5 .u8 w.heap.size w' x0 m0 ∧ Byt m0 ∧ m0.length ≤ 100 ∧ Below w.heap.size w w'
def QDrawEncrypt (w : World) (e : Ending) (w' : World) : Prop := ∃ (n0 : Int) (x1 : Value) (m1 : List Int), e = .returned (.tuple #[.int .i64 n0, x1]) ∧ (Lit.int .i64 n0).wf = true ∧ Own 5 .u8 w.heap.size w' x1 m1 ∧ Byt m1 ∧ m1.length ≤ 100 ∧ Below w.heap.size w w'
def QDrawDeriveSecret (w : World) (e : Ending) (w' : World) : Prop := ∃ (n0 : Int) (t1 : ByteArray), e = .returned (.tuple #[.int .i64 n0, .string t1]) ∧ (Lit.int .i64 n0).wf = true ∧ t1.size ≤ 100 ∧ Below w.heap.size w w'
def QDrawEqualInts (w : World) (e : Ending) (w' : World) : Prop := ∃ (x0 : Value) (m0 : List Int) (x1 : Value) (m1 : List Int), e = .returned (.tuple #[x0, x1]) ∧ Own 3 .i64 w.heap.size w' x0 m0 ∧ (∀ y ∈ m0, (Lit.int .i64 y).wf = true) ∧ m0.length ≤ 100 ∧ Own 3 .i64 w.heap.size w' x1 m1 ∧ (∀ y ∈ m1, (Lit.int .i64 y).wf = true) ∧ m1.length ≤ 100 ∧ Below w.heap.size w w'
end Go.Proofs.YtlhchmjnaanjpaaGreatDoor.Draw
/- Lists of keys (slices of a name and a number each) in memory: a slice that holds a list of entries, each of which holds its name; one whose blocks are all the call's own and all differ. No conditions. -/
namespace Go.Proofs.YtlhchmjnaanjpaaGreatDoor.Row.Ring
open Go.ChangeShapes Go.WideShapes Go.ChangeAt Go.RowKit Go.Instr
set_option linter.unusedVariables false
set_option maxRecDepth 100000
structure Ent where
  ad : Option Addr
  n : Nat
  cap : Nat
  ps : List ByteArray
  val : Int
instance : Inhabited Ent := ⟨⟨none, 0, 0, [], 0⟩⟩
def Ent.v (x : Ent) : Value := .slice x.ad x.n x.cap
def Ent.t (x : Ent) : List ByteArray × Int := (x.ps, x.val)
def Ent.whole (x : Ent) : Value := .agg #[x.v, .int .i64 x.val]
def strip (L : List Ent) : List (List ByteArray × Int) := L.map Ent.t
theorem strip_length (L : List Ent) : (strip L).length = L.length := by simp [strip]
theorem strip_nth {L : List Ent} {k : Nat} (h : k < L.length) : nth (strip L) k = (nth L k).t := by simp [strip, nth, List.getD, h]
theorem strip_append (L M : List Ent) : strip (L ++ M) = strip L ++ strip M := by simp [strip]
theorem strip_take (L : List Ent) (k : Nat) : strip (L.take k) = (strip L).take k := by simp [strip, List.map_take]
theorem strip_mem {L : List Ent} {x : Ent} (h : x ∈ L) : x.t ∈ strip L := List.mem_map_of_mem h
def encE (x : Ent) : List Value := [x.v, .int .i64 x.val]
theorem szE : Sz encE 2 := fun _ => rfl
theorem kindE : Kind Tryz.prog 119 encE (.agg #[.slice none 0 0, .int .i64 0]) 2 32 where
  elem := by unfold ElemK; kernel_rfl
  zs := rfl
  pos := by decide
  size := szE
  one := by intro x u hu; simp [encE, Ent.v] at hu; rcases hu with rfl | rfl <;> rfl
def TabH (w : World) (v : Value) (L : List Ent) : Prop := HoldsK encE 2 w v L ∧ ∀ x ∈ L, Holds Value.string w x.v x.ps
def TabO (B : Nat) (w : World) (v : Value) (L : List Ent) : Prop := OwnK 119 encE 2 B w v L ∧ (∀ x ∈ L, Own 9 Value.string B w x.v x.ps) ∧ L.Pairwise (fun a b => Apart a.v b.v)
section
variable {B : Nat} {w w' : World} {v : Value} {L : List Ent}
theorem TabO.holds (h : TabO B w v L) : TabH w v L := ⟨h.1.holds, fun x hx => (h.2.1 x hx).holds⟩
theorem TabH.on (h : TabH w v L) (hb : Below w.heap.size w w') : TabH w' v L := ⟨h.1.on hb, fun x hx => (h.2 x hx).on hb⟩
theorem TabO.on (h : TabO B w v L) (hb : Below w.heap.size w w') : TabO B w' v L := ⟨h.1.on hb, fun x hx => (h.2.1 x hx).on hb, h.2.2⟩
theorem TabO.mono (h : TabO B w v L) {B' : Nat} (hB : B' ≤ B) : TabO B' w v L := ⟨h.1.mono hB, fun x hx => (h.2.1 x hx).mono hB, h.2.2⟩
theorem TabO.nil (B : Nat) (w : World) : TabO B w (.slice none 0 0) [] := ⟨OwnK.nil _ _ _ _ _, by simp, by simp⟩
theorem TabO.empty (w : World) : TabO w.heap.size (w.alloc (.cells #[] 119)) (.slice (some ⟨w.heap.size, 0, none⟩) 0 0) [] := ⟨ownK_empty _ _ _ _, by simp, by simp⟩
theorem TabH.nil (w : World) : TabH w (.slice none 0 0) [] := ⟨HoldsK.nil _ _ _, by simp⟩
theorem TabH.shapeN (h : TabH w v L) : ∃ x n cap, v = .slice x n cap ∧ n = L.length ∧ n ≤ cap ∧ TabH w (.slice x n cap) L := by
  obtain ⟨x, n, cap, rfl, hn, hc, ho⟩ := h.1.shapeN
  exact ⟨x, n, cap, rfl, hn, hc, ho, h.2⟩
theorem TabO.shapeN (h : TabO B w v L) : ∃ x n cap, v = .slice x n cap ∧ n = L.length ∧ n ≤ cap ∧ TabO B w (.slice x n cap) L := by
  obtain ⟨x, n, cap, rfl, hn, hc, ho⟩ := h.1.shapeN
  exact ⟨x, n, cap, rfl, hn, hc, ho, h.2⟩
theorem TabH.at {x : Option Addr} {n cap : Nat} (h : TabH w (.slice x n cap) L) {k : Nat} (hk : k < L.length) :
    ∃ b off, x = some ⟨b, off, none⟩ ∧ w.cell? ⟨b, off + k * 2, none⟩ = some (.slice (nth L k).ad (nth L k).n (nth L k).cap) ∧ w.cell? ⟨b, off + k * 2 + 1, none⟩ = some (.int .i64 (nth L k).val) ∧ Holds Value.string w (.slice (nth L k).ad (nth L k).n (nth L k).cap) (nth L k).ps := by
  obtain ⟨b, off, hx, hc⟩ := h.1.at szE hk
  exact ⟨b, off, hx, by have := hc 0 (by decide); simpa [encE, Ent.v] using this, by have := hc 1 (by decide); simpa [encE, Nat.add_assoc] using this, h.2 _ (nth_mem hk)⟩
theorem TabO.cells {g n cap : Nat} (h : TabO B w (.slice (some ⟨g, 0, none⟩) n cap) L) (hn : n = L.length) {k : Nat} (hk : k < L.length) :
    (w.cell? ⟨g, k * 2, none⟩ = some (.slice (nth L k).ad (nth L k).n (nth L k).cap) ∧ w.frozen? ⟨g, k * 2, none⟩ = false) ∧ (w.cell? ⟨g, k * 2 + 1, none⟩ = some (.int .i64 (nth L k).val) ∧ w.frozen? ⟨g, k * 2 + 1, none⟩ = false) ∧ Own 9 Value.string B w (.slice (nth L k).ad (nth L k).n (nth L k).cap) (nth L k).ps :=
  ⟨by simpa [encE, Ent.v] using ownK_cell szE h.1 hn hk (i := 0) (by decide), by simpa [encE] using ownK_cell szE h.1 hn hk (i := 1) (by decide), h.2.1 _ (nth_mem hk)⟩
theorem name_row {u : Value} {ps : List ByteArray} {B' : Nat} (h : Own 9 Value.string B w u ps) (g : OwnK 119 encE 2 B' w v L) : Apart u v := by
  intro k h1 h2
  rcases h.2 with ⟨rfl, _⟩ | ⟨b, cap, cur, rfl, _, hb, _⟩
  · cases h1
  · rcases g.2 with ⟨rfl, _⟩ | ⟨b', cap', cur', rfl, _, hb', _⟩
    · cases h2
    · have e1 : b = k := by simpa [Value.ownBlock] using h1
      have e2 : b' = k := by simpa [Value.ownBlock] using h2
      rw [e1] at hb; rw [e2, hb] at hb'
      cases hb'
theorem TabO.names (h : TabO B w v L) (hg : w.grownBy w' v.ownBlock) : ∀ x ∈ L, Own 9 Value.string B w' x.v x.ps := fun x hx => (h.2.1 x hx).grown hg (apart_or (name_row (h.2.1 x hx) h.1))
theorem TabO.row (h : TabO B w v L) {v' : Value} {L' : List Ent} (ho : OwnK 119 encE 2 B w' v' L') (hg : w.grownBy w' v.ownBlock) (hm : ∀ x ∈ L', ∃ y ∈ L, x.v = y.v ∧ x.ps = y.ps) (hp : L'.Pairwise (fun a b => Apart a.v b.v)) : TabO B w' v' L' := by
  refine ⟨ho, fun x hx => ?_, hp⟩
  obtain ⟨y, hy, e1, e2⟩ := hm x hx
  rw [e1, e2]
  exact h.names hg y hy
theorem TabO.lt (h : TabO B w v L) : (∀ g, v.ownBlock = some g → B ≤ g ∧ g < w.heap.size) ∧ ∀ x ∈ L, ∀ g, x.v.ownBlock = some g → B ≤ g ∧ g < w.heap.size := ⟨h.1.lt, fun x hx => (h.2.1 x hx).lt⟩
theorem TabO.push (h : TabO B w v L) {x : Ent} (hx : Own 9 Value.string B w x.v x.ps) (hap : ∀ y ∈ L, Apart y.v x.v) {v' : Value} (ho : OwnK 119 encE 2 B w' v' (L ++ [x])) (hg : w.grownBy w' v.ownBlock) : TabO B w' v' (L ++ [x]) := by
  refine ⟨ho, fun y hy => ?_, ?_⟩
  · rcases List.mem_append.1 hy with hy | hy
    · exact h.names hg y hy
    · rw [List.mem_singleton.1 hy]; exact hx.grown hg (apart_or (name_row hx h.1))
  · rw [List.pairwise_append]
    exact ⟨h.2.2, by simp, fun a ha b hb => by rw [List.mem_singleton.1 hb]; exact hap a ha⟩
theorem TabO.len (h : TabO B w v L) : L.length ≤ maxLen := h.1.len
end
def TabHolds (w : World) (v : Value) (T : List (List ByteArray × Int)) : Prop := ∃ L, strip L = T ∧ TabH w v L
def TabOwn (B : Nat) (w : World) (v : Value) (T : List (List ByteArray × Int)) : Prop := ∃ L, strip L = T ∧ TabO B w v L
def TabIn (B E : Nat) (w : World) (v : Value) (T : List (List ByteArray × Int)) : Prop := ∃ L, strip L = T ∧ TabO B w v L ∧ (∀ g, v.ownBlock = some g → g < E) ∧ ∀ x ∈ L, ∀ g, x.v.ownBlock = some g → g < E
section
variable {B E B' E' : Nat} {w w' : World} {v : Value} {l : List ByteArray} {T : List (List ByteArray × Int)}
theorem TabIn.of (h : TabOwn B w v T) : TabIn B w.heap.size w v T := by
  obtain ⟨L, e, h⟩ := h
  exact ⟨L, e, h, fun g hg => (h.lt.1 g hg).2, fun x hx g hg => (h.lt.2 x hx g hg).2⟩
theorem TabIn.on (h : TabIn B E w v T) (hb : Below w.heap.size w w') : TabIn B E w' v T := by
  obtain ⟨L, e, h, h1, h2⟩ := h
  exact ⟨L, e, h.on hb, h1, h2⟩
theorem TabIn.own (h : TabIn B E w v T) : TabOwn B w v T := by
  obtain ⟨L, e, h, -, -⟩ := h
  exact ⟨L, e, h⟩
theorem TabOwn.holds (h : TabOwn B w v T) : TabHolds w v T := by
  obtain ⟨L, e, h⟩ := h
  exact ⟨L, e, h.holds⟩
theorem TabIn.holds (h : TabIn B E w v T) : TabHolds w v T := h.own.holds
theorem TabOwn.mono (h : TabOwn B w v T) (hB : B' ≤ B) : TabOwn B' w v T := by
  obtain ⟨L, e, h⟩ := h
  exact ⟨L, e, h.mono hB⟩
theorem TabOwn.on (h : TabOwn B w v T) (hb : Below w.heap.size w w') : TabOwn B w' v T := by
  obtain ⟨L, e, h⟩ := h
  exact ⟨L, e, h.on hb⟩
theorem TabHolds.on (h : TabHolds w v T) (hb : Below w.heap.size w w') : TabHolds w' v T := by
  obtain ⟨L, e, h⟩ := h
  exact ⟨L, e, h.on hb⟩
theorem TabHolds.shapeN (h : TabHolds w v T) : ∃ x n cap, v = .slice x n cap ∧ n = T.length ∧ n ≤ cap ∧ TabHolds w (.slice x n cap) T := by
  obtain ⟨L, e, h⟩ := h
  obtain ⟨x, n, cap, rfl, hn, hc, ho⟩ := h.shapeN
  exact ⟨x, n, cap, rfl, by rw [hn, ← e, strip_length], hc, L, e, ho⟩
theorem TabOwn.shapeN (h : TabOwn B w v T) : ∃ x n cap, v = .slice x n cap ∧ n = T.length ∧ n ≤ cap ∧ TabOwn B w (.slice x n cap) T := by
  obtain ⟨L, e, h⟩ := h
  obtain ⟨x, n, cap, rfl, hn, hc, ho⟩ := h.shapeN
  exact ⟨x, n, cap, rfl, by rw [hn, ← e, strip_length], hc, L, e, ho⟩
end
end Go.Proofs.YtlhchmjnaanjpaaGreatDoor.Row.Ring
/- Contracts of the helpers by which the laws measure, copy, compare, mark and look at lists of keys. No conditions but that lengths fit. -/
namespace Go.Proofs.YtlhchmjnaanjpaaGreatDoor.Row.Ring
open Go.ChangeShapes Go.WideShapes Go.ChangeAt Go.RowKit Go.Instr
set_option linter.unusedVariables false
set_option maxRecDepth 100000
def bulkTTo (l : List (List ByteArray × Int)) (k : Nat) : Nat := l.length + ((l.take k).map (fun x => bulk x.1)).sum
def bulkT (l : List (List ByteArray × Int)) : Nat := bulkTTo l l.length
theorem bulkTTo_succ (l : List (List ByteArray × Int)) {k : Nat} (h : k < l.length) : bulkTTo l (k + 1) = bulkTTo l k + bulk (nth l k).1 := by
  unfold bulkTTo
  rw [List.take_succ_eq_append_getElem h, nth_eq h, List.map_append, List.sum_append]
  simp only [List.map_cons, List.map_nil, List.sum_cons, List.sum_nil]
  omega
theorem bulkTTo_le (l : List (List ByteArray × Int)) (k : Nat) : bulkTTo l k ≤ bulkT l := by
  unfold bulkT bulkTTo
  have := sum_take_le (l.map (fun x => bulk x.1)) k
  rw [List.take_length, List.map_take]; omega
theorem bulkT_len (l : List (List ByteArray × Int)) : l.length ≤ bulkT l := by unfold bulkT bulkTTo; omega
theorem bulkT_mem {l : List (List ByteArray × Int)} {x : List ByteArray × Int} (h : x ∈ l) : bulk x.1 ≤ bulkT l := by
  obtain ⟨k, hk, rfl⟩ := List.getElem_of_mem h
  have h1 := bulkTTo_succ l hk
  have h2 := bulkTTo_le l (k + 1)
  rw [nth_eq hk] at h1
  omega
def szLT (l : List (List ByteArray × Int)) (left : Int) : Int := if (bulkT l : Int) ≤ left then left - bulkT l else -1
theorem pairwise_set {α : Type} {R : α → α → Prop} {x : α} : ∀ {L : List α} (k : Nat), L.Pairwise R → (∀ y ∈ L, R y x ∧ R x y) → (L.set k x).Pairwise R
  | [], _, _, _ => by simp
  | a :: r, 0, h, g => by
    rw [List.set_cons_zero, List.pairwise_cons]
    rw [List.pairwise_cons] at h
    exact ⟨fun y hy => (g y (by simp [hy])).2, h.2⟩
  | a :: r, k + 1, h, g => by
    rw [List.set_cons_succ, List.pairwise_cons]
    rw [List.pairwise_cons] at h
    refine ⟨fun y hy => ?_, pairwise_set k h.2 (fun y hy => g y (by simp [hy]))⟩
    rcases List.mem_or_eq_of_mem_set hy with hy | hy
    · exact h.1 y hy
    · rw [hy]; exact (g a (by simp)).1
theorem ent_store {B : Nat} {w : World} {g n cap : Nat} {L : List Ent} (h : OwnK 119 encE 2 B w (.slice (some ⟨g, 0, none⟩) n cap) L) (hn : n = L.length) {k : Nat} (hk : k < L.length) (x : Ent) :
    OwnK 119 encE 2 B ((w.setCell ⟨g, k * 2, none⟩ x.v).setCell ⟨g, k * 2 + 1, none⟩ (.int .i64 x.val)) (.slice (some ⟨g, 0, none⟩) n cap) (L.set k x) ∧ w.grownBy ((w.setCell ⟨g, k * 2, none⟩ x.v).setCell ⟨g, k * 2 + 1, none⟩ (.int .i64 x.val)) (some g) := by
  obtain ⟨a1, a2⟩ := ownK_store szE h hn hk (i := 0) (by decide) (y := ⟨x.ad, x.n, x.cap, x.ps, (nth L k).val⟩) (u := x.v) rfl
  obtain ⟨b1, b2⟩ := ownK_store szE a1 (by simpa using hn) (j := k) (by simpa using hk) (i := 1) (by decide) (y := x) (u := .int .i64 x.val) (by rw [nth_set hk]; rfl)
  rw [List.set_set] at b1
  exact ⟨b1, Go.World.grownBy.trans a2 b2⟩
theorem TabO.put {B : Nat} {w : World} {g n cap : Nat} {L : List Ent} (h : TabO B w (.slice (some ⟨g, 0, none⟩) n cap) L) (hn : n = L.length) {k : Nat} (hk : k < L.length) {x : Ent} (hx : Own 9 Value.string B w x.v x.ps) (hap : ∀ y ∈ L, Apart y.v x.v) :
    TabO B ((w.setCell ⟨g, k * 2, none⟩ x.v).setCell ⟨g, k * 2 + 1, none⟩ (.int .i64 x.val)) (.slice (some ⟨g, 0, none⟩) n cap) (L.set k x) ∧ w.grownBy ((w.setCell ⟨g, k * 2, none⟩ x.v).setCell ⟨g, k * 2 + 1, none⟩ (.int .i64 x.val)) (some g) := by
  obtain ⟨a1, a2⟩ := ent_store h.1 hn hk x
  refine ⟨⟨a1, fun y hy => ?_, pairwise_set k h.2.2 (fun y hy => ⟨hap y hy, (hap y hy).symm⟩)⟩, a2⟩
  rcases List.mem_or_eq_of_mem_set hy with hy | hy
  · exact h.names a2 y hy
  · rw [hy]; exact hx.grown a2 (apart_or (name_row hx h.1))
def madeTo (M : List Ent) (n : Nat) : List Ent := M ++ List.replicate (n - M.length) default
def smT (T : List (List ByteArray × Int)) : Prop := ∀ t ∈ T, bulk t.1 ≤ 9000000
theorem smT_of {T : List (List ByteArray × Int)} (h : bulkT T ≤ 9000000) : smT T := fun t ht => Nat.le_trans (bulkT_mem ht) h
theorem smT_ps {L : List Ent} (h : smT (strip L)) {k : Nat} (hk : k < L.length) : bulk (nth L k).ps ≤ 9000000 := h _ (strip_mem (nth_mem hk))
theorem smT_psl {L : List Ent} (h : smT (strip L)) {k : Nat} (hk : k < L.length) : (nth L k).ps.length ≤ 9000000 := Nat.le_trans (bulk_len _) (smT_ps h hk)
def eqT (l m : List (List ByteArray × Int)) : Bool := decide (l = m)
def lnT (T : List (List ByteArray × Int)) : Prop := ∀ t ∈ T, t.1.length ≤ 9000000
end Go.Proofs.YtlhchmjnaanjpaaGreatDoor.Row.Ring
/- Contracts of the helpers by which the laws mark tables and look at the marks. No conditions but that lengths fit. -/
namespace Go.Proofs.YtlhchmjnaanjpaaGreatDoor.Row.Ring
open Go.ChangeShapes Go.WideShapes Go.ChangeAt Go.RowKit Go.Instr
set_option linter.unusedVariables false
set_option maxRecDepth 100000
def adv : List (List ByteArray × Int) → Nat
  | [] => 0
  | x :: r => x.1.length + 1 + adv r
def markTb (k : Int) : List (List ByteArray × Int) → List (List ByteArray × Int)
  | [] => []
  | x :: r => (marks markT k x.1.length, k + x.1.length) :: markTb (k + x.1.length + 1) r
def Ent.setPs (x : Ent) (ps : List ByteArray) : Ent := ⟨x.ad, x.n, x.cap, ps, x.val⟩
def Ent.setVal (x : Ent) (a : Int) : Ent := ⟨x.ad, x.n, x.cap, x.ps, a⟩
def Ent.marked (x : Ent) (k : Int) : Ent := ⟨x.ad, x.n, x.cap, marks markT k x.ps.length, k + x.ps.length⟩
end Go.Proofs.YtlhchmjnaanjpaaGreatDoor.Row.Ring
/- The names' contracts with their answers as letters. No conditions but that lengths fit. -/
namespace Go.Proofs.YtlhchmjnaanjpaaGreatDoor.Row.Ring
open Go.ChangeShapes Go.WideShapes Go.ChangeAt Go.RowKit Go.Instr
set_option linter.unusedVariables false
set_option maxRecDepth 100000
section
variable {v u : Value} {l m : List ByteArray} {w : World}
theorem sEqV (b : Bool) (hb : eqB l m = b) (h : Holds Value.string w v l) (g : Holds Value.string w u m) (hl : l.length ≤ 9000000) (hm : m.length ≤ 9000000) :
    Calls Tryz.prog 56 #[.agg #[v], .agg #[u]] w fun e w' => e = .returned (.bool b) ∧ Below w.heap.size w w' := hb ▸ specEqualNames _ _ l m _ h g (by omega) (by omega)
end
end Go.Proofs.YtlhchmjnaanjpaaGreatDoor.Row.Ring
/- Contracts of the copies of lists of keys, the program's and the model's. No conditions but that lengths fit. -/
namespace Go.Proofs.YtlhchmjnaanjpaaGreatDoor.Row.Ring
open Go.ChangeShapes Go.WideShapes Go.ChangeAt Go.RowKit Go.Instr
set_option linter.unusedVariables false
set_option maxRecDepth 100000
def GivesT (w : World) (T : List (List ByteArray × Int)) (e : Ending) (w' : World) : Prop := ∃ v, e = .returned v ∧ TabOwn w.heap.size w' v T ∧ Below w.heap.size w w'
end Go.Proofs.YtlhchmjnaanjpaaGreatDoor.Row.Ring
/- Contracts of the model's search for a key. No conditions but that lengths fit. -/
namespace Go.Proofs.YtlhchmjnaanjpaaGreatDoor.Row.Ring
open Go.ChangeShapes Go.WideShapes Go.ChangeAt Go.RowKit Go.Instr
set_option linter.unusedVariables false
set_option maxRecDepth 100000
def ixT (p : List ByteArray × Int → Bool) (T : List (List ByteArray × Int)) : Int := if T.findIdx p < T.length then (T.findIdx p : Int) else -1
def noP (p : List ByteArray × Int → Bool) (T : List (List ByteArray × Int)) (i : Nat) : Prop := ∀ j, j < i → p (nth T j) = false
section
variable {p : List ByteArray × Int → Bool} {T : List (List ByteArray × Int)} {i : Nat}
theorem noP_zero (p : List ByteArray × Int → Bool) (T : List (List ByteArray × Int)) : noP p T 0 := fun j h => absurd h (by omega)
theorem noP_succ (h : noP p T i) (hc : p (nth T i) = false) : noP p T (i + 1) := fun j h1 => by
  by_cases e : j = i
  · subst e; exact hc
  · exact h j (by omega)
theorem fp_at (hi : i < T.length) (h : noP p T i) (hc : p (nth T i) = true) : T.findIdx p = i := by
  rw [List.findIdx_eq hi]
  exact ⟨by rw [← nth_eq hi]; exact hc, fun j hj => by rw [← nth_eq (Nat.lt_trans hj hi)]; exact h j hj⟩
theorem fp_none (h : noP p T T.length) : T.findIdx p = T.length := by
  rw [List.findIdx_eq_length]
  intro x hx
  obtain ⟨j, hj, rfl⟩ := List.getElem_of_mem hx
  rw [← nth_eq hj]; exact h j hj
theorem ixT_at (hi : i < T.length) (h : noP p T i) (hc : p (nth T i) = true) : ixT p T = i := by
  unfold ixT; rw [fp_at hi h hc, if_pos hi]
theorem ixT_none (h : noP p T T.length) : ixT p T = -1 := by
  unfold ixT; rw [fp_none h, if_neg (by omega)]
theorem ixT_cases (p : List ByteArray × Int → Bool) (T : List (List ByteArray × Int)) : (ixT p T = -1 ∧ T.findIdx p = T.length ∧ noP p T T.length) ∨ ∃ i, i < T.length ∧ ixT p T = (i : Int) ∧ T.findIdx p = i ∧ p (nth T i) = true ∧ noP p T i := by
  by_cases h : T.findIdx p < T.length
  · refine Or.inr ⟨T.findIdx p, h, by unfold ixT; rw [if_pos h], rfl, ?_, ?_⟩
    · rw [nth_eq h]; exact List.findIdx_getElem
    · intro j hj
      rw [nth_eq (Nat.lt_trans hj h)]
      have := List.not_of_lt_findIdx hj
      simpa using this
  · have e : T.findIdx p = T.length := Nat.le_antisymm List.findIdx_le_length (by omega)
    refine Or.inl ⟨by unfold ixT; rw [if_neg h], e, fun j hj => ?_⟩
    rw [nth_eq hj]
    have := List.not_of_lt_findIdx (p := p) (xs := T) (i := j) (by omega)
    simpa using this
end
def isN (n : List ByteArray) (x : List ByteArray × Int) : Bool := eqB x.1 n
def lkN (T : List (List ByteArray × Int)) (n : List ByteArray) : Int := if T.findIdx (isN n) < T.length then (nth T (T.findIdx (isN n))).2 else 0
set_option maxHeartbeats 2000000 in
theorem l9Find (v u : Value) (T : List (List ByteArray × Int)) (m : List ByteArray) (w : World) (h : TabHolds w v T) (g : Holds Value.string w u m) (hl : T.length ≤ 100000000) (hT : smT T) (hm : m.length ≤ 9000000) :
    Calls Tryz.prog 65 #[v, .agg #[u]] w fun e w' => e = .returned (.int .i64 (ixT (isN m) T)) ∧ Below w.heap.size w w' := by
  obtain ⟨L, rfl, h⟩ := h
  obtain ⟨x, n, cx, rfl, hn, hcx, hh⟩ := h.shapeN
  obtain ⟨y, q, cy, rfl, -, hcy, hg⟩ := g.shapeN
  rw [strip_length, ← hn] at hl
  have HB0 := Lib.hid ((Below.refl w.heap.size w).alloc (Nat.le_refl _) (.cells #[.slice y q cy] 32))
  have HC0 := Lib.hid (Ret.Box.new w (.slice y q cy) 32)
  have HN := Lib.hid hn
  have HH := Lib.hid (hh.on HB0.out)
  have HG := Lib.hid (hg.on HB0.out)
  have HT := Lib.hid hT
  clear hn h hh hT g hg
  go_enter Tryz.func65, Tryz.ntmps65
  go_wp2
  go_loopw [5] (fun i wr => ∃ k : Nat, k ≤ n ∧ i = .int .i64 k ∧ Hid (noP (isN m) (strip L) k) ∧ Hid (Below (w.alloc (.cells #[.slice y q cy] 32)).heap.size (w.alloc (.cells #[.slice y q cy] 32)) wr)) (fun i _ => n - (intOf i).toNat)
  case atStart => exact ⟨0, Nat.zero_le _, rfl, Lib.hid (noP_zero _ _), Lib.hid (Below.refl _ _)⟩
  case round =>
    obtain ⟨k, hk, rfl, ha, hb⟩ := hrel
    by_cases hlt : k < n
    · have hlen := HN.out
      obtain ⟨b, off, rfl, hc, hd, hnm⟩ := (HH.out.on hb.out).at (k := k) (by omega)
      have HL := Lib.hid (smT_psl HT.out (k := k) (by omega))
      have HE := Lib.hid (strip_nth (L := L) (k := k) (by omega))
      have hc0 := (HC0.out.on hb.out).cell
      have HNM := Lib.hid (hnm.on (Below.refl wr.heap.size wr).drew)
      have HGM := Lib.hid ((HG.out.on hb.out).on (Below.refl wr.heap.size wr).drew)
      have hk0 : (0 : Int) ≤ (k : Int) := by omega
      have hk1 : (k : Int) < (n : Int) := by omega
      have KS := Lib.hid (show wr.drew.cell? ⟨b, off + k * 2, none⟩ = some (.slice (nth L k).ad (nth L k).n (nth L k).cap) ∧ wr.drew.cell? ⟨w.heap.size, 0, none⟩ = some (.slice y q cy) ∧ Below (w.alloc (.cells #[.slice y q cy] 32)).heap.size (w.alloc (.cells #[.slice y q cy] 32)) wr.drew from ⟨hc, hc0, hb.out.drew⟩)
      by_cases he : isN m (nth L k).t = true
      · have HEQ := Lib.hid (show eqB (nth L k).ps m = true from he)
        have HA := Lib.hid (ixT_at (T := strip L) (by rw [strip_length]; omega) ha.out (by rw [HE.out]; exact he))
        clear hlen he hnm hc hd hc0
        go_wp2_with fail
        go_region_held3 (fun w' => w'.cell? ⟨b, off + k * 2, none⟩ = some (.slice (nth L k).ad (nth L k).n (nth L k).cap) ∧ w'.cell? ⟨w.heap.size, 0, none⟩ = some (.slice y q cy) ∧ Below (w.alloc (.cells #[.slice y q cy] 32)).heap.size (w.alloc (.cells #[.slice y q cy] 32)) w') (first | exact KS.out | exact keepN2 KS.out hb1) ((go_at_call 56; refine (sEqV true HEQ.out HNM.out HGM.out HL.out hm).mono ?_; rintro e w1 ⟨rfl, hb1⟩))
        all_goals
          have HB3 := Lib.hid (keepN2 KS.out hb1).2.2
          clear hb1
          go_wp2_with fail
          go_ret
          exact ⟨ret_int HA.out.symm, HB0.out.trans (HB3.out.mono (by simp))⟩
      · have he : isN m (nth L k).t = false := by simpa using he
        have HEQ := Lib.hid (show eqB (nth L k).ps m = false from he)
        have HA := Lib.hid (noP_succ ha.out (by rw [HE.out]; exact he))
        clear hlen he hnm hc hd hc0
        go_wp2_with fail
        go_region_held3 (fun w' => w'.cell? ⟨b, off + k * 2, none⟩ = some (.slice (nth L k).ad (nth L k).n (nth L k).cap) ∧ w'.cell? ⟨w.heap.size, 0, none⟩ = some (.slice y q cy) ∧ Below (w.alloc (.cells #[.slice y q cy] 32)).heap.size (w.alloc (.cells #[.slice y q cy] 32)) w') (first | exact KS.out | exact keepN2 KS.out hb1) ((go_at_call 56; refine (sEqV false HEQ.out HNM.out HGM.out HL.out hm).mono ?_; rintro e w1 ⟨rfl, hb1⟩))
        all_goals
          have HB3 := Lib.hid (keepN2 KS.out hb1).2.2
          clear hb1
          go_wp2_with fail
          go_roundw
          case rel => exact ⟨k + 1, by omega, by go_num, HA, HB3⟩
          case measure => simp [intOf]; omega
    · obtain rfl : k = n := by omega
      have HV := Lib.hid (ixT_none (T := strip L) (p := isN m) (by rw [strip_length, ← HN.out]; exact ha.out))
      clear hlt
      go_wp2
      go_ret
      exact ⟨ret_int HV.out.symm, HB0.out.trans (hb.out.mono (by simp))⟩
end Go.Proofs.YtlhchmjnaanjpaaGreatDoor.Row.Ring
/- Contract of the program's ReadName. No conditions but that lengths fit. -/
namespace Go.Proofs.YtlhchmjnaanjpaaGreatDoor.Row
open Go.ChangeShapes Go.WideShapes Go.ChangeAt Go.RowKit Go.Instr
set_option linter.unusedVariables false
set_option maxRecDepth 100000
end Go.Proofs.YtlhchmjnaanjpaaGreatDoor.Row
/- Plain mathematics of encodings: what is encoded is read back, what is read is what is encoded. No conditions but those that are named. -/
namespace Go.Proofs.YtlhchmjnaanjpaaGreatDoor.Row
open Go.RowKit
set_option linter.unusedVariables false
set_option maxRecDepth 100000
theorem str_back (s : ByteArray) : strOfNums (Sl.bytesOf s) = s := by
  obtain ⟨⟨d⟩⟩ := s
  unfold strOfNums Sl.bytesOf
  simp only [List.map_map]
  congr 1
  congr 1
  conv => rhs; rw [← List.map_id d]
  apply List.map_congr_left
  intro x hx
  simp only [Function.comp, id, Int.toNat_natCast, UInt8.ofNat_toNat]
end Go.Proofs.YtlhchmjnaanjpaaGreatDoor.Row
/- Keyrings as data: a map from a name's text to the first key with this name; the numbers that are in use; valid lists of keys. No conditions. -/
namespace Go.Proofs.YtlhchmjnaanjpaaGreatDoor.Row.Ring
open Go.ChangeShapes Go.WideShapes Go.ChangeAt Go.RowKit Go.Instr
set_option linter.unusedVariables false
set_option maxRecDepth 100000
theorem enc_app (n : Nat) : ∀ (m : Nat) (s t : List Int), Var.enc n ++ s = Var.enc m ++ t → n = m ∧ s = t := by
  induction n using Nat.strongRecOn with
  | ind n ih =>
    intro m s t h
    by_cases hn : n < 128
    · by_cases hm : m < 128
      · rw [Var.enc_small hn, Var.enc_small hm] at h
        simp only [List.cons_append, List.nil_append, List.cons.injEq] at h
        exact ⟨by omega, h.2⟩
      · rw [Var.enc_small hn, Var.enc_big hm] at h
        simp only [List.cons_append, List.nil_append, List.cons.injEq] at h
        exact absurd h.1 (by omega)
    · by_cases hm : m < 128
      · rw [Var.enc_big hn, Var.enc_small hm] at h
        simp only [List.cons_append, List.nil_append, List.cons.injEq] at h
        exact absurd h.1 (by omega)
      · rw [Var.enc_big hn, Var.enc_big hm] at h
        simp only [List.cons_append, List.cons.injEq] at h
        obtain ⟨e1, e2⟩ := ih (n / 128) (by omega) (m / 128) s t h.2
        exact ⟨by omega, e2⟩
theorem encPs_cons (s : ByteArray) (r : List ByteArray) : encPs (s :: r) = Var.var s.size ++ (Sl.bytesOf s ++ encPs r) := by simp [encPs]
def smN (l : List ByteArray) : Prop := ∀ x ∈ l, x.size ≤ 1000000000000
theorem smN_bulk {l : List ByteArray} (h : bulk l ≤ 9000000) : smN l := fun x hx => by
  obtain ⟨k, hk, rfl⟩ := List.getElem_of_mem hx
  have := size_bulk hk
  rw [nth_eq hk] at this
  omega
theorem encPs_inj : ∀ (l m : List ByteArray), smN l → smN m → encPs l = encPs m → l = m
  | [], [], _, _, _ => rfl
  | [], s :: r, _, hm, h => by
    rw [encPs_cons, Var.var_in (by omega) (by have := hm s (by simp); omega)] at h
    have h1 := congrArg List.length h
    have h2 := Var.enc_pos (s.size : Int).toNat
    simp only [List.length_append] at h1
    have h3 : (encPs []).length = 0 := rfl
    omega
  | s :: r, [], hl, _, h => by
    rw [encPs_cons, Var.var_in (by omega) (by have := hl s (by simp); omega)] at h
    have h1 := congrArg List.length h
    have h2 := Var.enc_pos (s.size : Int).toNat
    simp only [List.length_append] at h1
    have h3 : (encPs []).length = 0 := rfl
    omega
  | s :: r, t :: q, hl, hm, h => by
    rw [encPs_cons, encPs_cons, Var.var_in (by omega) (by have := hl s (by simp); omega), Var.var_in (by omega) (by have := hm t (by simp); omega)] at h
    obtain ⟨e1, e2⟩ := enc_app _ _ _ _ h
    have e3 : s.size = t.size := by omega
    obtain ⟨e4, e5⟩ := List.append_inj e2 (by rw [Sl.bytesOf_length, Sl.bytesOf_length, e3])
    have e6 : s = t := by rw [← str_back s, ← str_back t, e4]
    rw [e6, encPs_inj r q (fun x hx => hl x (by simp [hx])) (fun x hx => hm x (by simp [hx])) e5]
theorem encPs_byt : ∀ l : List ByteArray, Sl.Byt (encPs l)
  | [] => fun x hx => by simp [encPs] at hx
  | s :: r => fun x hx => by
    rw [encPs_cons] at hx
    rcases List.mem_append.1 hx with hx | hx
    · unfold Var.var at hx
      split at hx
      · exact Var.enc_byte _ x hx
      · simp at hx
    · rcases List.mem_append.1 hx with hx | hx
      · exact Sl.bytesOf_byt s x hx
      · exact encPs_byt r x hx
def txt (l : List ByteArray) : ByteArray := strOfNums (encPs l)
def kl (l : List ByteArray) : Lit := .string (txt l).data.toList
theorem bytes_inj : ∀ (a b : List Int), Sl.Byt a → Sl.Byt b → (a.map fun n => UInt8.ofNat n.toNat) = (b.map fun n => UInt8.ofNat n.toNat) → a = b
  | [], [], _, _, _ => rfl
  | [], _ :: _, _, _, h => by simp at h
  | _ :: _, [], _, _, h => by simp at h
  | x :: r, y :: s, ha, hb, h => by
    simp only [List.map_cons, List.cons.injEq] at h
    have h1 := ha x (by simp)
    have h2 := hb y (by simp)
    have h3 := congrArg UInt8.toNat h.1
    simp at h3
    have h4 : x = y := by omega
    rw [h4, bytes_inj r s (fun z hz => ha z (by simp [hz])) (fun z hz => hb z (by simp [hz])) h.2]
theorem kl_inj {l m : List ByteArray} (hl : smN l) (hm : smN m) (h : kl l = kl m) : l = m := by
  have h1 : (txt l).data.toList = (txt m).data.toList := by
    unfold kl at h
    injection h
  unfold txt at h1
  rw [strOfNums_data, strOfNums_data] at h1
  exact encPs_inj l m hl hm (bytes_inj _ _ (encPs_byt l) (encPs_byt m) (by simpa using h1))
theorem kl_key (l : List ByteArray) : WideAt.IsKeyLit (kl l) := trivial
theorem txt_size (l : List ByteArray) : (txt l).size ≤ 6 * bulk l := by
  have h := encPs_len l
  have e : (txt l).size = (encPs l).length := by
    show (txt l).data.size = _
    unfold txt
    have := congrArg List.length (strOfNums_data (encPs l))
    simpa using this
  omega
def heldV (v : Value) : Option (DataW Value × List MemPlace) := some (.held v, [])
theorem heldV_inj {v u : Value} {ps : List MemPlace} (h : heldV v = some (.held u, ps)) : v = u := by
  unfold heldV at h
  cases h
  rfl
def step (D : DataW Value) (x : List ByteArray × Value) : DataW Value := if Maps.has D (kl x.1) then D else D.put (kl x.1) (.held x.2)
def ringD (l : List (List ByteArray × Value)) : DataW Value := l.foldl step (.map [])
theorem ringD_next (l : List (List ByteArray × Value)) (x : List ByteArray × Value) : ringD (l ++ [x]) = step (ringD l) x := by simp [ringD, List.foldl_append]
theorem step_tidy {D : DataW Value} (h : Maps.Tidy D) (x : List ByteArray × Value) : Maps.Tidy (step D x) := by
  unfold step
  split
  · exact h
  · exact h.put (kl_key _) _
def fst1 (m : List ByteArray) : List (List ByteArray × Value) → DataW Value → DataW Value
  | [], z => z
  | x :: r, z => if x.1 = m then .held x.2 else fst1 m r z
theorem fold_at (m : List ByteArray) (hm : smN m) (z : DataW Value) : ∀ (l : List (List ByteArray × Value)) (D : DataW Value), (∀ x ∈ l, smN x.1) → Maps.Tidy D →
    (l.foldl step D).atKey (kl m) z = if Maps.has D (kl m) then D.atKey (kl m) z else fst1 m l z
  | [], D, _, _ => by
    show D.atKey (kl m) z = _
    split
    · rfl
    · rename_i h
      exact Maps.atKey_of_not_has (by simpa using h) z
  | x :: r, D, hl, hD => by
    have ih := fold_at m hm z r (step D x) (fun y hy => hl y (by simp [hy])) (step_tidy hD x)
    rw [List.foldl_cons, ih]
    by_cases he : x.1 = m
    · rw [show fst1 m (x :: r) z = .held x.2 from if_pos he]
      unfold step
      rw [he]
      cases hh : Maps.has D (kl m) with
      | true => simp [hh]
      | false =>
        simp only [Bool.false_eq_true, if_false]
        rw [Maps.has_put_same hD.isMap (kl_key m), Maps.atKey_put_same hD.isMap (kl_key m)]
        simp
    · rw [show fst1 m (x :: r) z = fst1 m r z from if_neg he]
      have hne : kl m ≠ kl x.1 := fun e => he (kl_inj hm (hl x (by simp)) e).symm
      unfold step
      cases hh : Maps.has D (kl x.1) with
      | true => simp
      | false =>
        simp only [Bool.false_eq_true, if_false]
        rw [Maps.has_put_other hne, Maps.atKey_put_other hne]
theorem ringD_at {l : List (List ByteArray × Value)} {m : List ByteArray} (hl : ∀ x ∈ l, smN x.1) (hm : smN m) (z : DataW Value) : (ringD l).atKey (kl m) z = fst1 m l z := by
  unfold ringD
  rw [fold_at m hm z l _ hl Maps.tidy_empty]
  simp [Maps.has]
def sk (s : Int) : Lit := .int .i64 s
def secD (l : List Int) : DataW Value := l.foldl (fun D s => D.put (sk s) (.held (.bool true))) (.map [])
def pairs (L : List Ent) : List (List ByteArray × Value) := L.map fun x => (x.ps, x.whole)
theorem pairs_take (L : List Ent) {k : Nat} (h : k < L.length) : pairs (L.take (k + 1)) = pairs (L.take k) ++ [((nth L k).ps, (nth L k).whole)] := by
  rw [List.take_succ_eq_append_getElem h, ← nth_eq h]; simp [pairs]
theorem pairs_sm {L : List Ent} (h : smT (strip L)) : ∀ x ∈ pairs L, smN x.1 := by
  intro x hx
  obtain ⟨y, hy, rfl⟩ := List.mem_map.1 hx
  exact smN_bulk (h _ (strip_mem hy))
theorem lkN_cons (x : List ByteArray × Int) (T : List (List ByteArray × Int)) (n : List ByteArray) : lkN (x :: T) n = if x.1 = n then x.2 else lkN T n := by
  by_cases he : x.1 = n
  · have h1 : isN n x = true := by unfold isN; exact eqB_true he
    unfold lkN
    rw [List.findIdx_cons, h1, if_pos he]
    simp [nth]
  · have h1 : isN n x = false := by unfold isN; exact eqB_false he
    unfold lkN
    rw [List.findIdx_cons, h1, if_neg he]
    simp only [cond_false, List.length_cons, Nat.add_lt_add_iff_right]
    by_cases h2 : T.findIdx (isN n) < T.length
    · rw [if_pos h2, if_pos h2]; simp [nth]
    · rw [if_neg h2, if_neg h2]
theorem lkN_nil (n : List ByteArray) : lkN [] n = 0 := by simp [lkN]
def zK : Value := .agg #[.slice none 0 0, .int .i64 0]
theorem fst1_lk (m : List ByteArray) : ∀ L : List Ent, ∃ ad n cap, fst1 m (pairs L) (.held zK) = .held (.agg #[.slice ad n cap, .int .i64 (lkN (strip L) m)])
  | [] => ⟨none, 0, 0, by show DataW.held zK = _; rw [show strip [] = [] from rfl, lkN_nil]; rfl⟩
  | x :: L => by
    have e1 : pairs (x :: L) = (x.ps, x.whole) :: pairs L := rfl
    have e2 : strip (x :: L) = x.t :: strip L := rfl
    rw [e1, e2, lkN_cons]
    unfold fst1
    by_cases he : x.ps = m
    · rw [if_pos (show (x.ps, x.whole).1 = m from he), if_pos (show x.t.1 = m from he)]
      exact ⟨x.ad, x.n, x.cap, rfl⟩
    · rw [if_neg (show ¬ (x.ps, x.whole).1 = m from he), if_neg (show ¬ x.t.1 = m from he)]
      exact fst1_lk m L
def vkey (x : List ByteArray × Int) : Bool := validN x.1 && decide (0 < x.1.length) && Num.inB x.2 1 2147483646
def Vk (T : List (List ByteArray × Int)) : Prop := (∀ x ∈ T, vkey x = true) ∧ (T.map (·.1)).Nodup ∧ (T.map (·.2)).Nodup
def validK (T : List (List ByteArray × Int)) : Bool := decide ((∀ x ∈ T, vkey x = true) ∧ (T.map (·.1)).Nodup ∧ (T.map (·.2)).Nodup ∧ T.length ≤ 8)
end Go.Proofs.YtlhchmjnaanjpaaGreatDoor.Row.Ring
/- Contracts of the program's keyring: the text under which a name's key is kept, the map, the search in it; of the model's search. No conditions but that lengths fit. -/
namespace Go.Proofs.YtlhchmjnaanjpaaGreatDoor.Row.Ring
open Go.ChangeShapes Go.WideShapes Go.ChangeAt Go.RowKit Go.Instr
set_option linter.unusedVariables false
set_option maxRecDepth 100000
theorem own_str {B : Nat} {w : World} {v : Value} {l : List Int} {s : ByteArray} (h : w.ownsRow B 5 1 v (l.length + s.size) (l.map (Value.int .u8) ++ Lib.strCells s)) : Sl.Own 5 .u8 B w v (l ++ Sl.bytesOf s) := by
  unfold Sl.Own
  have e : (l ++ Sl.bytesOf s).map (Value.int .u8) = l.map (Value.int .u8) ++ Lib.strCells s := by
    rw [List.map_append]
    unfold Sl.bytesOf Lib.strCells
    rw [List.map_map]
    rfl
  rw [e, List.length_append, Sl.bytesOf_length]
  exact h
set_option maxHeartbeats 2000000 in
theorem nameText (v : Value) (l : List ByteArray) (w : World) (h : Holds Value.string w v l) (hl : bulk l ≤ 9000000) :
    Calls Tryz.prog 111 #[.agg #[v]] w fun e w' => e = .returned (.string (txt l)) ∧ Below w.heap.size w w' := by
  obtain ⟨x, n, cap, rfl, hn, hcap, hh⟩ := h.shapeN
  obtain ⟨i0, hi, hz0, hz1, hz2⟩ := info_parts (show (Tryz.prog.info? 5).map (fun i => (i.zero, i.size, i.bytes)) = some (some (.int .u8 0), 1, 1) by kernel_rfl)
  have hb0 := (Below.refl w.heap.size w).alloc (Nat.le_refl _) (.cells #[.slice x n cap] 32)
  have hb1 := hb0.alloc (by simp) (.cells #[] 5)
  have HB1 := Lib.hid hb1
  have HH := Lib.hid hh
  have hoe := Sl.own_empty .u8 5 (w.alloc (.cells #[.slice x n cap] 32))
  rw [World.size_alloc] at hoe
  have HO0 := Lib.hid (show Sl.Own 5 .u8 w.heap.size ((w.alloc (.cells #[.slice x n cap] 32)).alloc (.cells #[] 5)) (.slice (some ⟨w.heap.size + 1, 0, none⟩) 0 0) (encPs (l.take 0)) from hoe.mono (Nat.le_succ _))
  have HN := Lib.hid hn
  have HL := Lib.hid hl
  have hnl : n ≤ 9000000 := by rw [hn]; exact Nat.le_trans (bulk_len l) hl
  have HI := Lib.hid hi; have HZ0 := Lib.hid hz0; have HZ1 := Lib.hid hz1; have HZ2 := Lib.hid hz2
  clear hh h hn hl hb0 hb1 hoe hi hz0 hz1 hz2
  go_enter Tryz.func111, Tryz.ntmps111
  go_wp2_with fail
  go_loopw [3, 10] (fun bv iv wr => ∃ k : Nat, k ≤ n ∧ iv = .int .i64 k ∧ Hid (Sl.Own 5 .u8 w.heap.size wr bv (encPs (l.take k))) ∧ Hid (Below w.heap.size w wr)) (fun _ iv _ => n - (intOf iv).toNat)
  case atStart => exact ⟨0, Nat.zero_le _, rfl, HO0, HB1⟩
  case round =>
    obtain ⟨k, hk, rfl, hO, hB⟩ := hrel
    by_cases hlt : k < n
    · obtain ⟨b0, off0, hy, hc⟩ := (HH.out.on hB.out).at (j := k) (by rw [← HN.out]; exact hlt)
      subst hy
      have hsz : (nth l k).size ≤ 9000000 := by
        have h2 := size_bulk (l := l) (k := k) (by rw [← HN.out]; exact hlt)
        have h3 := HL.out
        omega
      have hle : (encPs (l.take k)).length ≤ 54000000 := by
        have h1 := encPs_len (l.take k)
        have h2 := bulk_take_le l k
        have h3 := HL.out
        omega
      have HLE := Lib.hid hle
      have HNX := Lib.hid (encPs_next (l := l) (k := k) (by rw [← HN.out]; exact hlt))
      clear hle
      go_wp2_with fail
      refine (Sl.addVarint w.heap.size _ (encPs (l.take k)) (nth l k).size wr (Or.inl hO.out) hB.out.size (by have := HLE.out; omega) (by omega) (by omega)).mono ?_
      rintro e w1 ⟨v1, rfl, ho1, hb1⟩
      have HO1 := Lib.hid ho1
      have HB2 := Lib.hid (hB.out.trans hb1)
      have hvl := Var.var_len (nth l k).size
      clear ho1 hb1 hc
      go_wp2_with (at_builtin; refine Lib.wpList_append_own_string _ rfl _ _ 22 9 rfl w.heap.size 5 i0 Tryz.underlying22 Tryz.underlying9 HI.out HZ0.out HZ1.out HZ2.out _ _ _ rfl HO1.out (nth l k) rfl ?_ ?_ HB2.out.size ?_)
      · unfold maxLen; have := HLE.out; rw [List.length_append]; omega
      · have := HLE.out; rw [List.length_append]; omega
      intro v2 w2 ho2 hg2 _
      have HO2 := Lib.hid (show Sl.Own 5 .u8 w.heap.size w2 v2 (encPs (l.take (k + 1))) by
        have h9 := own_str (l := encPs (l.take k) ++ Var.var (nth l k).size) (s := nth l k) (by rw [List.length_append, List.map_append, List.append_assoc]; exact ho2)
        rw [HNX.out, ← List.append_assoc]
        exact h9)
      have HB3 := Lib.hid (HB2.out.grown hg2 HB2.out.size (fun g hg => (HO1.out.lt g hg).1))
      clear ho2 hg2
      go_wp2_with fail
      go_roundw
      case rel => exact ⟨k + 1, by omega, by go_num, HO2, HB3⟩
      case measure => simp [intOf]; omega
    · obtain rfl : k = n := by omega
      clear hlt
      have ho := hO.out
      rw [HN.out, List.take_length] at ho
      obtain ⟨x1, c1, rfl, -, hh1⟩ := ho.holds.shape
      have hcv := Sl.conv_holds hh1
      clear ho hh1
      go_wp2_with fail
      go_ret
      exact ⟨rfl, hB.out⟩
theorem zeroKey (w : World) : (zeroValue 119).run Tryz.prog w = .ok zK w := by kernel_rfl
theorem strLaw : Maps.Keyed Tryz.prog 9 := Maps.string_keyed Tryz.underlying9
theorem keyTxt {l : List ByteArray} (h : bulk l ≤ 9000000) : keyOf Tryz.prog 9 (.string (txt l)) = some (kl l) := Go.WideMaps.keyOf_string_mk Tryz.underlying9 (by have := txt_size l; unfold maxLen; omega)
theorem pairs_key (m : List ByteArray) (hm : smN m) {L : List Ent} (hL : smT (strip L)) : ∃ ad n cap, (ringD (pairs L)).atKey (kl m) (.held zK) = .held (.agg #[.slice ad n cap, .int .i64 (lkN (strip L) m)]) := by
  rw [ringD_at (pairs_sm hL) hm]
  exact fst1_lk m L
def GivesRing (w : World) (L : List Ent) (e : Ending) (w' : World) : Prop := ∃ b, e = .returned (.map (some b)) ∧ w'.ownsMap Tryz.prog 9 heldV b L.length (ringD (pairs L)) ∧ w.heap.size ≤ b ∧ Below w.heap.size w w'
theorem smT_take {T : List (List ByteArray × Int)} (h : smT T) (k : Nat) : smT (T.take k) := fun t ht => h t (List.mem_of_mem_take ht)
set_option maxHeartbeats 4000000 in
theorem keyringOf (v : Value) (L : List Ent) (w : World) (h : TabH w v L) (hl : L.length ≤ 4000000) (hT : smT (strip L)) :
    Calls Tryz.prog 103 #[v] w (GivesRing w L) := by
  obtain ⟨x, n, cx, rfl, hn, hcx, hh⟩ := h.shapeN
  rw [← hn] at hl
  have HN := Lib.hid hn
  have HH := Lib.hid hh
  have HT := Lib.hid hT
  have HM0 := Lib.hid (show (w.alloc (.map #[] 0)).ownsMap Tryz.prog 9 heldV w.heap.size 0 (ringD (pairs (L.take 0))) from World.ownsMap_made w _ _ _)
  have HB0 := Lib.hid ((Below.refl w.heap.size w).alloc (Nat.le_refl _) (.map #[] 0))
  have hmm := @run_makeMap Tryz.prog
  clear hn h hh hT
  go_enter Tryz.func103, Tryz.ntmps103
  go_wp2_with fail
  go_loopw [12] (fun i wr => ∃ k : Nat, k ≤ n ∧ i = .int .i64 k ∧ Hid (wr.ownsMap Tryz.prog 9 heldV w.heap.size k (ringD (pairs (L.take k)))) ∧ Hid (Below w.heap.size w wr) ∧ Hid (w.heap.size + 1 ≤ wr.heap.size)) (fun i _ => n - (intOf i).toNat)
  case atStart => exact ⟨0, Nat.zero_le _, rfl, HM0, HB0, Lib.hid (by simp)⟩
  case round =>
    obtain ⟨k, hk, rfl, hM, hB, hS⟩ := hrel
    by_cases hlt : k < n
    · have hlen := HN.out
      obtain ⟨b, off, rfl, hc, hd, hnm⟩ := (HH.out.on hB.out).at (k := k) (by omega)
      have HPS := Lib.hid (smT_ps HT.out (k := k) (by omega))
      have hal := ((Below.refl wr.heap.size wr).alloc (Nat.le_refl _) (.cells #[.slice (nth L k).ad (nth L k).n (nth L k).cap, .int .i64 (nth L k).val] 119))
      have HNM := Lib.hid (hnm.on hal)
      have HB1 := Lib.hid (hB.out.trans (hal.mono hB.out.size))
      have HM1 := Lib.hid (hM.out.alloc (.cells #[.slice (nth L k).ad (nth L k).n (nth L k).cap, .int .i64 (nth L k).val] 119))
      have HX := Lib.hid (Ret.Blk.new wr #[.slice (nth L k).ad (nth L k).n (nth L k).cap, .int .i64 (nth L k).val] 119)
      have HKL := Lib.hid (show k < L.length by omega)
      have HS1 := Lib.hid (show (wr.alloc (.cells #[.slice (nth L k).ad (nth L k).n (nth L k).cap, .int .i64 (nth L k).val] 119)).heap.size = wr.heap.size + 1 from World.size_alloc _ _)
      clear hlen hnm hal hmm
      go_wp2_with fail
      refine (nameText _ (nth L k).ps _ HNM.out HPS.out).mono ?_
      rintro e w1 ⟨rfl, hb1⟩
      have HB2 := Lib.hid (HB1.out.trans (hb1.mono HB1.out.size))
      have HM2 := Lib.hid (show w1.ownsMap Tryz.prog 9 heldV w.heap.size k (ringD (pairs (L.take k))) by
        obtain ⟨es, clock, hbk, r⟩ := HM1.out
        exact ⟨es, clock, (hb1.block _ (Array.getElem?_eq_some_iff.1 hbk).1).trans hbk, r⟩)
      have HX2 := Lib.hid (HX.out.on hb1)
      have hx0 : w1.cell? ⟨wr.heap.size, 0, none⟩ = some (.slice (nth L k).ad (nth L k).n (nth L k).cap) := HX2.out.cell 0
      have hx1 : w1.cell? ⟨wr.heap.size, 1, none⟩ = some (.int .i64 (nth L k).val) := HX2.out.cell 1
      have HS2 := Lib.hid (show w.heap.size + 1 < w1.heap.size by have := hb1.size; have := HS1.out; have := hS.out; omega)
      have HKY := Lib.hid (keyTxt HPS.out)
      obtain ⟨z, hz⟩ : ∃ z, Maps.has (ringD (pairs (L.take k))) (kl (nth L k).ps) = z := ⟨_, rfl⟩
      have hlook : ∃ ad nn cc, (Instr.lookup 127 (.map (some w.heap.size)) (.string (txt (nth L k).ps)) true).run Tryz.prog w1 = .ok (.tuple #[.agg #[.slice ad nn cc, .int .i64 (lkN (strip (L.take k)) (nth L k).ps)], .bool z]) w1 := by
        obtain ⟨v9, ps9, hr, hv⟩ := HM2.out.look_ok strLaw Tryz.underlying127 (zeroKey w1) (zd := .held zK) (zp := []) rfl HKY.out
        obtain ⟨ad, nn, cc, he⟩ := pairs_key (nth L k).ps (smN_bulk HPS.out) (L := L.take k) (by rw [strip_take]; exact smT_take HT.out k)
        rw [he] at hv
        rw [hz, heldV_inj hv] at hr
        exact ⟨ad, nn, cc, hr⟩
      obtain ⟨ad, nn, cc, hlook⟩ := hlook
      have HST := Lib.hid (show ringD (pairs (L.take (k + 1))) = if z then ringD (pairs (L.take k)) else (ringD (pairs (L.take k))).put (kl (nth L k).ps) (.held (nth L k).whole) by
        rw [pairs_take L HKL.out, ringD_next]; unfold step; rw [← hz])
      clear hz hb1 HNM HM1 HX HB1 hc hd
      generalize lkN (strip (L.take k)) (nth L k).ps = q at hlook
      cases z with
      | true =>
        have HM3 := Lib.hid (show w1.ownsMap Tryz.prog 9 heldV w.heap.size (k + 1) (ringD (pairs (L.take (k + 1)))) by rw [HST.out]; exact HM2.out.mono (Nat.le_succ _))
        go_wp2_with fail
        go_roundw
        case rel => exact ⟨k + 1, by omega, by go_num, Lib.hid (HM3.out.alloc _), Lib.hid (HB2.out.alloc HB2.out.size _), Lib.hid (by have := HS2.out; simp; omega)⟩
        case measure => simp [intOf]; omega
      | false =>
        have HM3 := Lib.hid (HM2.out.alloc (.cells #[.slice ad nn cc, .int .i64 q] 119))
        have HB3 := Lib.hid (HB2.out.alloc HB2.out.size (.cells #[.slice ad nn cc, .int .i64 q] 119))
        have hy0 : (w1.alloc (.cells #[.slice ad nn cc, .int .i64 q] 119)).cell? ⟨wr.heap.size, 0, none⟩ = some (.slice (nth L k).ad (nth L k).n (nth L k).cap) := (((Below.refl w1.heap.size w1).alloc (Nat.le_refl _) _).cell (cell_lt hx0)).trans hx0
        have hy1 : (w1.alloc (.cells #[.slice ad nn cc, .int .i64 q] 119)).cell? ⟨wr.heap.size, 1, none⟩ = some (.int .i64 (nth L k).val) := (((Below.refl w1.heap.size w1).alloc (Nat.le_refl _) _).cell (cell_lt hx1)).trans hx1
        go_wp2_with (at_mapUpdate; refine wpList_mapUpdate_own _ rfl _ _ _ 127 rfl 9 119 strLaw Tryz.underlying127 heldV w.heap.size k _ rfl HM3.out (by unfold maxLen; omega) _ _ _ rfl rfl HKY.out (.held (nth L k).whole) [] rfl ?_)
        intro w3 hown3 hg3
        have HM4 := Lib.hid (show w3.ownsMap Tryz.prog 9 heldV w.heap.size (k + 1) (ringD (pairs (L.take (k + 1)))) by rw [HST.out]; exact hown3)
        have HB4 := Lib.hid (HB3.out.grown hg3 HB3.out.size (fun g hg => by cases hg; exact Nat.le_refl _))
        have HS4 := Lib.hid (show w.heap.size + 1 ≤ w3.heap.size by have := HS2.out; have := hg3.size; simp at this; omega)
        clear hown3 hg3 hlook hx0 hx1 hy0 hy1
        go_wp2_with fail
        go_roundw
        case rel => exact ⟨k + 1, by omega, by go_num, HM4, HB4, HS4⟩
        case measure => simp [intOf]; omega
    · obtain rfl : k = n := by omega
      clear hlt
      have hM9 := hM.out
      rw [List.take_of_length_le (by rw [← HN.out]; exact Nat.le_refl _)] at hM9
      have HM9 := Lib.hid hM9
      clear hM9
      go_wp2_with fail
      go_ret
      exact ⟨_, rfl, by rw [← HN.out]; exact HM9.out, Nat.le_refl _, hB.out⟩
end Go.Proofs.YtlhchmjnaanjpaaGreatDoor.Row.Ring
/- Contracts of SecretOf, the program's and the model's, and of the program's ValidKeys. No conditions but that lengths fit. -/
namespace Go.Proofs.YtlhchmjnaanjpaaGreatDoor.Row.Ring
open Go.ChangeShapes Go.WideShapes Go.ChangeAt Go.RowKit Go.Instr
set_option linter.unusedVariables false
set_option maxRecDepth 100000
theorem map_on {P : Program} {k : TypeId} {R : Value → Option (DataW Value × List MemPlace)} {b n : Nat} {D : DataW Value} {w w' : World} (h : w.ownsMap P k R b n D) (hb : Below w.heap.size w w') : w'.ownsMap P k R b n D := by
  obtain ⟨es, clock, hbk, r⟩ := h
  exact ⟨es, clock, (hb.block _ (Array.getElem?_eq_some_iff.1 hbk).1).trans hbk, r⟩
set_option maxHeartbeats 2000000 in
theorem specSecretOf (v u : Value) (T : List (List ByteArray × Int)) (m : List ByteArray) (w : World) (h : TabHolds w v T) (g : Holds Value.string w u m) (hl : T.length ≤ 4000000) (hT : smT T) (hm : bulk m ≤ 9000000) :
    Calls Tryz.prog 55 #[v, .agg #[u]] w fun e w' => e = .returned (.int .i64 (lkN T m)) ∧ Below w.heap.size w w' := by
  obtain ⟨L, rfl, h⟩ := h
  obtain ⟨x, n, cx, rfl, hn, hcx, hh⟩ := h.shapeN
  obtain ⟨y, q, cy, rfl, -, hcy, hg⟩ := g.shapeN
  have hb0 := (Below.refl w.heap.size w).alloc (Nat.le_refl _) (.cells #[.slice y q cy] 32)
  have HF := Lib.hid (l9Find (.slice x n cx) (.slice y q cy) (strip L) m _ ⟨L, rfl, hh.on hb0⟩ (hg.on hb0) (by omega) hT (Nat.le_trans (bulk_len m) hm))
  rw [strip_length, ← hn] at hl
  have HB := Lib.hid hb0; have HN := Lib.hid hn; have HH := Lib.hid (hh.on hb0)
  clear hb0 hn hh h hg g hT
  go_enter Tryz.func55, Tryz.ntmps55
  go_wp2_with fail
  refine HF.out.mono ?_
  rintro e w1 ⟨rfl, hb⟩
  have HB1 := Lib.hid (HB.out.trans (hb.mono HB.out.size)); have HH1 := Lib.hid (HH.out.on hb)
  clear hb HF
  rcases ixT_cases (isN m) (strip L) with ⟨h1, h2, -⟩ | ⟨i, hi, h1, h2, -, -⟩
  · have HV := Lib.hid (show lkN (strip L) m = 0 by unfold lkN; rw [h2, if_neg (by omega)])
    rw [h1]
    clear h1 h2
    go_wp2_with fail
    go_ret
    exact ⟨ret_int HV.out.symm, HB1.out⟩
  · rw [strip_length] at hi
    have HV := Lib.hid (show lkN (strip L) m = (nth L i).val by unfold lkN; rw [h2, if_pos (by rw [strip_length]; exact hi), strip_nth hi]; rfl)
    obtain ⟨b, off, rfl, hc, hd, hnm⟩ := HH1.out.at hi
    have hi2 : (i : Int) < (n : Int) := by have := HN.out; omega
    have hi3 : ¬ (i : Int) < 0 := by omega
    rw [h1]
    clear h1 h2 hi hnm hc
    go_wp2_with fail
    go_ret
    exact ⟨ret_int HV.out.symm, HB1.out⟩
set_option maxHeartbeats 4000000 in
theorem implSecretOf (v u : Value) (T : List (List ByteArray × Int)) (m : List ByteArray) (w : World) (h : TabHolds w v T) (g : Holds Value.string w u m) (hl : T.length ≤ 4000000) (hT : smT T) (hm : bulk m ≤ 9000000) :
    Calls Tryz.prog 68 #[v, .agg #[u]] w fun e w' => e = .returned (.int .i64 (lkN T m)) ∧ Below w.heap.size w w' := by
  obtain ⟨L, rfl, h⟩ := h
  obtain ⟨x, n, cx, rfl, hn, hcx, hh⟩ := h.shapeN
  obtain ⟨y, q, cy, rfl, -, hcy, hg⟩ := g.shapeN
  have hb0 := ((Below.refl w.heap.size w).alloc (Nat.le_refl _) (.cells #[.slice y q cy] 32)).drew
  obtain ⟨ad, nn, cc, hat⟩ := pairs_key m (smN_bulk hm) (L := L) hT
  have HP := Lib.hid hat
  have HK := Lib.hid (keyTxt hm)
  rw [strip_length] at hl
  have HL := Lib.hid hl; have HT := Lib.hid hT; have HM := Lib.hid hm
  have HB := Lib.hid hb0; have HH := Lib.hid (hh.on hb0); have HG := Lib.hid (hg.on hb0)
  have HX := Lib.hid (Ret.Box.new w (.slice y q cy) 32)
  have KS0 := Lib.hid (show (w.alloc (.cells #[.slice y q cy] 32)).drew.cell? ⟨w.heap.size, 0, none⟩ = some (.slice y q cy) ∧ Below w.heap.size w (w.alloc (.cells #[.slice y q cy] 32)).drew from ⟨HX.out.cell, HB.out⟩)
  generalize lkN (strip L) m = r at *
  have hfd : ∀ wx : World, (Instr.field 119 (.agg #[.slice ad nn cc, .int .i64 r]) 1).run Tryz.prog wx = .ok (.int .i64 r) wx := fun wx => by kernel_rfl
  clear hb0 hn hh h hg g hT hat hl hm
  go_enter Tryz.func68, Tryz.ntmps68
  go_wp2_with fail
  go_region_held3 (fun w' => w'.cell? ⟨w.heap.size, 0, none⟩ = some (.slice y q cy) ∧ Below w.heap.size w w') (first | exact KS0.out | exact KS1.out | exact KS2.out) (first | (go_at_call 111; refine (nameText _ m _ (HG.out.on hb1) HM.out).mono ?_; rintro e w2 ⟨rfl, hb2⟩; have KS2 := Lib.hid (show w2.cell? ⟨w.heap.size, 0, none⟩ = some (.slice y q cy) ∧ Below w.heap.size w w2 from ⟨kc KS1.out.1 hb2, KS1.out.2.trans (hb2.mono KS1.out.2.size)⟩); obtain ⟨v9, ps9, hlook, hv⟩ := (map_on hown.out hb2).lookup strLaw Tryz.underlying127 (zeroKey w2) (zd := .held zK) (zp := []) rfl HK.out; rw [HP.out] at hv; rw [heldV_inj hv] at hlook; clear hv hb2) | (go_at_call 103; refine (keyringOf _ L _ HH.out HL.out HT.out).mono ?_; rintro e w1 ⟨b1, rfl, hown, -, hb1⟩; have hown := Lib.hid hown; have KS1 := Lib.hid (show w1.cell? ⟨w.heap.size, 0, none⟩ = some (.slice y q cy) ∧ Below w.heap.size w w1 from ⟨kc KS0.out.1 hb1, KS0.out.2.trans (hb1.mono KS0.out.2.size)⟩)))
  all_goals
    go_wp2_with fail
    go_ret
    exact ⟨rfl, KS2.out.2⟩
def okS (T : List (List ByteArray × Int)) (k : Nat) : Prop := (∀ x ∈ T.take k, vkey x = true) ∧ ((T.take k).map (·.2)).Nodup
end Go.Proofs.YtlhchmjnaanjpaaGreatDoor.Row.Ring
