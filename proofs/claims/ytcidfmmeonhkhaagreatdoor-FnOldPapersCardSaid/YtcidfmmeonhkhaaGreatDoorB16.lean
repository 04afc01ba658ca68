/- Contracts and mathematics, joined: KFunD, RingD, RingG, DrawR1, TrustA, RingOpen, RingH. No conditions but those that each states. -/
import Derived.Test.YtcidfmmeonhkhaaGreatDoorB15
import Derived.Test.YtcidfmmeonhkhaaGreatDoorB14
import Derived.Test.YtcidfmmeonhkhaaGreatDoorB4
import Derived.WalkKit
import Derived.Deep.RegionHeld3
import Derived.Test.YtcidfmmeonhkhaaGreatDoorB3
import Derived.Test.YtcidfmmeonhkhaaGreatDoorB5
import Derived.Test.YtcidfmmeonhkhaaGreatDoorB1
import Derived.Deep.Slices
import Derived.Deep.Strs
import Derived.ChangeSame
import Derived.ChangeArms
/- Chapter 8's functions, the model's and the program's, in the words of kinds. No conditions but that lengths fit. -/
namespace Go.Proofs.YtcidfmmeonhkhaaGreatDoor.Row
open Go.ChangeShapes Go.WideShapes Go.ChangeAt Go.RowKit Go.Instr
set_option linter.unusedVariables false
set_option maxRecDepth 100000

def eqD (x y : Dt) : Bool := decide (x = y)
theorem WfD.byt {x : Dt} (h : WfD x) : Sl.Byt x.2.1 := Sl.byt_of_wf h.2.1
section
variable {P : Program} {f : FuncId} {args : Array Value} {w : World}
theorem giveDB {x : Dt} {z : Bool} (h : Calls P f args w (GivesDB w x z)) : Calls P f args w fun e w' => ∃ U, e = .returned (.tuple #[U, .bool z]) ∧ kD.In w.heap.size w'.heap.size w' U x ∧ Below w.heap.size w w' := h.mono fun e w' ⟨a, b, c, p, q, r⟩ => ⟨_, p, kD_own q, r⟩
end
theorem implVerifyDataK (V : Value) (t : Int) (x : Dt) (w : World) (h : kD.At w V x) (hn : WfD x) (hl : bulkD x ≤ 1200000) :
    Calls Tryz.prog 89 #[.int .i64 t, V] w fun e w' => e = .returned (.bool (verD t x)) ∧ Below w.heap.size w w' := by
  obtain ⟨a, b, c, rfl, h9⟩ := kD_at h
  exact implVerifyData a b c x t w h9 hn.byt (smD_of hl)
end Go.Proofs.YtcidfmmeonhkhaaGreatDoor.Row
/- Contracts of VerifySignature and MatchingKeys, the program's and the model's. No conditions but that lengths fit. -/
namespace Go.Proofs.YtcidfmmeonhkhaaGreatDoor.Row.Ring
open Go.ChangeShapes Go.WideShapes Go.ChangeAt Go.RowKit Go.Instr
set_option linter.unusedVariables false
set_option maxRecDepth 100000

/-- A packet's cells, with its parts' slices. -/
theorem kD_cells {w : World} {xa xb xc : Option Addr} {na ca nb cb nc cc : Nat} {f0 s0 : Int} {x : Dt} (h : kD.At w (.agg #[.slice xa na ca, .slice xb nb cb, .slice xc nc cc, .int .i64 f0, .int .i64 s0]) x) : DHold w (.slice xa na ca) (.slice xb nb cb) (.slice xc nc cc) x ∧ f0 = x.2.2.2.1 ∧ s0 = x.2.2.2.2 := by
  obtain ⟨a, b, c, e, hd⟩ := kD_at h
  simp only [Value.agg.injEq] at e
  have e2 := congrArg Array.toList e
  simp only [List.cons.injEq, Value.int.injEq, true_and, and_true] at e2
  obtain ⟨rfl, rfl, rfl, rfl, rfl⟩ := e2
  exact ⟨hd, rfl, rfl⟩
/-- The places of the keys that verify, up to place k. -/
def matTo (T : List (List ByteArray × Int)) (x : Dt) (k : Nat) : List Int := ((List.range k).filter (fun i => verD (nth T i).2 x)).map (fun i : Nat => (i : Int))
def matK (T : List (List ByteArray × Int)) (x : Dt) : List Int := matTo T x T.length
set_option maxHeartbeats 4000000 in
theorem implVerifySignature (v V : Value) (T : List (List ByteArray × Int)) (x : Dt) (w : World) (h : TabHolds w v T) (g : kD.At w V x) (gn : WfD x) (hl : T.length ≤ 4000000) (hT : smT T) (hx : bulkD x ≤ 1200000) :
    Calls Tryz.prog 33 #[v, V] w fun e w' => e = .returned (.bool (verD (lkN T x.2.2.1) x)) ∧ Below w.heap.size w w' := by
  obtain ⟨y, n, cy, rfl, -, -, hh⟩ := h.shapeN
  obtain ⟨xa, na, ca, xb, nb, cb, xc, nc, cc, rfl, hg⟩ := kD_shapeA g
  obtain ⟨l, m, k, f, s⟩ := x
  simp only at hg ⊢
  have hb0 := ((Below.refl w.heap.size w).alloc (Nat.le_refl _) (.cells #[.slice xa na ca, .slice xb nb cb, .slice xc nc cc, .int .i64 f, .int .i64 s] 34)).drew
  have HB := Lib.hid hb0; have HH := Lib.hid (hh.on hb0); have HG := Lib.hid (hg.on hb0)
  have HK := Lib.hid ((kD_cells hg).1.2.2.on hb0)
  have HX := Lib.hid (Ret.Blk.new w #[.slice xa na ca, .slice xb nb cb, .slice xc nc cc, .int .i64 f, .int .i64 s] 34)
  have HL := Lib.hid hl; have HT := Lib.hid hT; have HN := Lib.hid gn; have HZ := Lib.hid hx
  have HKB := Lib.hid (show bulk k ≤ 9000000 by unfold bulkD at hx; simp only at hx; omega)
  obtain ⟨r, hr⟩ : ∃ r, lkN T k = r := ⟨_, rfl⟩
  obtain ⟨z, hz⟩ : ∃ z, verD r (l, m, k, f, s) = z := ⟨_, rfl⟩
  have HRR := Lib.hid hr; have HZZ := Lib.hid hz
  have KS0 := Lib.hid (show (w.alloc (.cells #[.slice xa na ca, .slice xb nb cb, .slice xc nc cc, .int .i64 f, .int .i64 s] 34)).drew.cell? ⟨w.heap.size, 0, none⟩ = some (.slice xa na ca) ∧ (w.alloc (.cells #[.slice xa na ca, .slice xb nb cb, .slice xc nc cc, .int .i64 f, .int .i64 s] 34)).drew.cell? ⟨w.heap.size, 1, none⟩ = some (.slice xb nb cb) ∧ (w.alloc (.cells #[.slice xa na ca, .slice xb nb cb, .slice xc nc cc, .int .i64 f, .int .i64 s] 34)).drew.cell? ⟨w.heap.size, 2, none⟩ = some (.slice xc nc cc) ∧ (w.alloc (.cells #[.slice xa na ca, .slice xb nb cb, .slice xc nc cc, .int .i64 f, .int .i64 s] 34)).drew.cell? ⟨w.heap.size, 3, none⟩ = some (.int .i64 f) ∧ (w.alloc (.cells #[.slice xa na ca, .slice xb nb cb, .slice xc nc cc, .int .i64 f, .int .i64 s] 34)).drew.cell? ⟨w.heap.size, 4, none⟩ = some (.int .i64 s) ∧ Below w.heap.size w (w.alloc (.cells #[.slice xa na ca, .slice xb nb cb, .slice xc nc cc, .int .i64 f, .int .i64 s] 34)).drew from ⟨HX.out.cell 0, HX.out.cell 1, HX.out.cell 2, HX.out.cell 3, HX.out.cell 4, HB.out⟩)
  rw [hr, hz]
  clear hb0 hh hg h g gn hl hT hx hr hz
  go_enter Tryz.func33, Tryz.ntmps33
  go_wp2_with fail
  go_region_held3 (fun w' => w'.cell? ⟨w.heap.size, 0, none⟩ = some (.slice xa na ca) ∧ w'.cell? ⟨w.heap.size, 1, none⟩ = some (.slice xb nb cb) ∧ w'.cell? ⟨w.heap.size, 2, none⟩ = some (.slice xc nc cc) ∧ w'.cell? ⟨w.heap.size, 3, none⟩ = some (.int .i64 f) ∧ w'.cell? ⟨w.heap.size, 4, none⟩ = some (.int .i64 s) ∧ Below w.heap.size w w') (first | exact KS0.out | exact KS1.out | exact KS2.out) (first | (go_at_call 89; refine (implVerifyDataK _ r (l, m, k, f, s) _ (HG.out.on hb1) HN.out HZ.out).mono ?_; rintro e w2 ⟨rfl, hb2⟩; rw [HZZ.out]; have KS2 := Lib.hid (show w2.cell? ⟨w.heap.size, 0, none⟩ = some (.slice xa na ca) ∧ w2.cell? ⟨w.heap.size, 1, none⟩ = some (.slice xb nb cb) ∧ w2.cell? ⟨w.heap.size, 2, none⟩ = some (.slice xc nc cc) ∧ w2.cell? ⟨w.heap.size, 3, none⟩ = some (.int .i64 f) ∧ w2.cell? ⟨w.heap.size, 4, none⟩ = some (.int .i64 s) ∧ Below w.heap.size w w2 from ⟨kc KS1.out.1 hb2, kc KS1.out.2.1 hb2, kc KS1.out.2.2.1 hb2, kc KS1.out.2.2.2.1 hb2, kc KS1.out.2.2.2.2.1 hb2, KS1.out.2.2.2.2.2.trans (hb2.mono KS1.out.2.2.2.2.2.size)⟩)) | (go_at_call 82; refine (implSecretOf _ _ T k _ HH.out HK.out HL.out HT.out HKB.out).mono ?_; rintro e w1 ⟨rfl, hb1⟩; rw [HRR.out]; have KS1 := Lib.hid (show w1.cell? ⟨w.heap.size, 0, none⟩ = some (.slice xa na ca) ∧ w1.cell? ⟨w.heap.size, 1, none⟩ = some (.slice xb nb cb) ∧ w1.cell? ⟨w.heap.size, 2, none⟩ = some (.slice xc nc cc) ∧ w1.cell? ⟨w.heap.size, 3, none⟩ = some (.int .i64 f) ∧ w1.cell? ⟨w.heap.size, 4, none⟩ = some (.int .i64 s) ∧ Below w.heap.size w w1 from ⟨kc KS0.out.1 hb1, kc KS0.out.2.1 hb1, kc KS0.out.2.2.1 hb1, kc KS0.out.2.2.2.1 hb1, kc KS0.out.2.2.2.2.1 hb1, KS0.out.2.2.2.2.2.trans (hb1.mono KS0.out.2.2.2.2.2.size)⟩)))
  all_goals
    go_wp2_with fail
    go_ret
    exact ⟨rfl, KS2.out.2.2.2.2.2⟩

end Go.Proofs.YtcidfmmeonhkhaaGreatDoor.Row.Ring
/- Contracts of the model's AddKey, and of SignWithKey, the model's and the program's. No conditions but that lengths fit. -/
namespace Go.Proofs.YtcidfmmeonhkhaaGreatDoor.Row.Ring
open Go.ChangeShapes Go.WideShapes Go.ChangeAt Go.RowKit Go.Instr
set_option linter.unusedVariables false
set_option maxRecDepth 100000

/-! ### SignWithKey -/
end Go.Proofs.YtcidfmmeonhkhaaGreatDoor.Row.Ring
namespace Go.Proofs.YtcidfmmeonhkhaaGreatDoor.Row
open Go.ChangeShapes Go.WideShapes Go.ChangeAt Go.RowKit Go.Instr
set_option linter.unusedVariables false
set_option maxRecDepth 100000
theorem own_ne9 {α : Type} [Inhabited α] {enc : α → Value} {e t : TypeId} {B g : Nat} {w : World} {v : Value} {l : List α} {cs : Array Value} (h : Row.Own e enc B w v l) (hb : Ret.Blk w g cs t) (hne : e ≠ t) : v.ownBlock = none ∨ v.ownBlock ≠ some g := by
  rcases h.2 with ⟨rfl, -⟩ | ⟨g2, cap, cur, rfl, -, hh, -⟩
  · exact Or.inl rfl
  · refine Or.inr fun e1 => ?_
    have e2 : g2 = g := by simpa [Value.ownBlock] using e1
    rw [e2, show w.heap[g]? = some (.cells cs t) from hb] at hh
    cases hh
    exact hne rfl
theorem own_setT9 {α : Type} [Inhabited α] {enc : α → Value} {e t : TypeId} {B g i : Nat} {w : World} {v u : Value} {l : List α} {cs : Array Value} (h : Row.Own e enc B w v l) (hb : Ret.Blk w g cs t) (hne : e ≠ t) : Row.Own e enc B (w.setCell ⟨g, i, none⟩ u) v l := h.grown (Ret.grownBy_set w ⟨g, i, none⟩ u) (own_ne9 h hb hne)
theorem DOwn.setT {B g i : Nat} {w : World} {a b c u : Value} {x : Dt} {cs : Array Value} (h : DOwn B w a b c x) (hb : Ret.Blk w g cs 34) : DOwn B (w.setCell ⟨g, i, none⟩ u) a b c x := ⟨own_setT9 h.1 hb (by decide), own_setT9 (enc := Value.int .u8) h.2.1 hb (by decide), own_setT9 h.2.2.1 hb (by decide), h.2.2.2⟩
theorem DOwn.five {B g : Nat} {w : World} {a b c a1 b1 c1 : Value} {f s : Int} {x : Dt} {cs : Array Value} (h : DOwn B w a1 b1 c1 x) (hb : Ret.Blk w g cs 34) : DOwn B (((((((w).setCell ⟨g, 0, none⟩ (a)).setCell ⟨g, 1, none⟩ (b)).setCell ⟨g, 2, none⟩ (c)).setCell ⟨g, 3, none⟩ (.int .i64 f)).setCell ⟨g, 4, none⟩ (.int .i64 s))) a1 b1 c1 x := ((((h.setT hb).setT (hb.set 0 a)).setT ((hb.set 0 a).set 1 b)).setT (((hb.set 0 a).set 1 b).set 2 c)).setT ((((hb.set 0 a).set 1 b).set 2 c).set 3 (.int .i64 f))
theorem DOwn.mono {B B' : Nat} {w : World} {a b c : Value} {x : Dt} (h : DOwn B w a b c x) (hB : B' ≤ B) : DOwn B' w a b c x := ⟨h.1.mono hB, Sl.Own.mono h.2.1 hB, h.2.2.1.mono hB, h.2.2.2⟩
end Go.Proofs.YtcidfmmeonhkhaaGreatDoor.Row
namespace Go.Proofs.YtcidfmmeonhkhaaGreatDoor.Row.Ring
open Go.ChangeShapes Go.WideShapes Go.ChangeAt Go.RowKit Go.Instr
set_option linter.unusedVariables false
set_option maxRecDepth 100000
theorem blk_five {g : Nat} {w : World} {a b c a0 b0 c0 : Value} {f s f0 s0 : Int} (hb : Ret.Blk w g (dc a0 b0 c0 f0 s0) 34) : Ret.Blk (((((((w).setCell ⟨g, 0, none⟩ (a)).setCell ⟨g, 1, none⟩ (b)).setCell ⟨g, 2, none⟩ (c)).setCell ⟨g, 3, none⟩ (.int .i64 f)).setCell ⟨g, 4, none⟩ (.int .i64 s))) g (dc a b c f s) 34 := ((((hb.set 0 a).set 1 b).set 2 c).set 3 (.int .i64 f)).set 4 (.int .i64 s)
theorem below_five {X g : Nat} {w0 w : World} {a b c : Value} {f s : Int} (h : Below X w0 w) (hX : X ≤ g) : Below X w0 (((((((w).setCell ⟨g, 0, none⟩ (a)).setCell ⟨g, 1, none⟩ (b)).setCell ⟨g, 2, none⟩ (c)).setCell ⟨g, 3, none⟩ (.int .i64 f)).setCell ⟨g, 4, none⟩ (.int .i64 s))) := by
  have st : ∀ {w1 : World} (i : Nat) (u : Value), Below X w0 w1 → Below X w0 (w1.setCell ⟨g, i, none⟩ u) := fun {w1} i u h1 => h1.trans ⟨rfl, rfl, rfl, by simp [World.setCell], fun k hk => Go.RowKit.Below.heap_setCell _ _ _ _ (by simp; omega)⟩
  exact st 4 _ (st 3 _ (st 2 _ (st 1 _ (st 0 _ h))))
theorem box_five {g p : Nat} {w : World} {a b c u : Value} {f s : Int} {t : TypeId} (h : Ret.Box w p u t) (hne : p ≠ g) : Ret.Box (((((((w).setCell ⟨g, 0, none⟩ (a)).setCell ⟨g, 1, none⟩ (b)).setCell ⟨g, 2, none⟩ (c)).setCell ⟨g, 3, none⟩ (.int .i64 f)).setCell ⟨g, 4, none⟩ (.int .i64 s))) p u t := by
  have st : ∀ {w1 : World} (i : Nat) (y : Value), Ret.Box w1 p u t → Ret.Box (w1.setCell ⟨g, i, none⟩ y) p u t := fun {w1} i y h1 => h1.grown (Ret.grownBy_set w1 ⟨g, i, none⟩ y) (by simpa using hne)
  exact st 4 _ (st 3 _ (st 2 _ (st 1 _ (st 0 _ h))))
theorem blk_five_other {g p : Nat} {w : World} {a b c : Value} {f s : Int} {cs : Array Value} {t : TypeId} (h : Ret.Blk w p cs t) (hne : p ≠ g) : Ret.Blk (((((((w).setCell ⟨g, 0, none⟩ (a)).setCell ⟨g, 1, none⟩ (b)).setCell ⟨g, 2, none⟩ (c)).setCell ⟨g, 3, none⟩ (.int .i64 f)).setCell ⟨g, 4, none⟩ (.int .i64 s))) p cs t :=
  ((((h.other (a := ⟨g, 0, none⟩) (Ne.symm hne) a).other (a := ⟨g, 1, none⟩) (Ne.symm hne) b).other (a := ⟨g, 2, none⟩) (Ne.symm hne) c).other (a := ⟨g, 3, none⟩) (Ne.symm hne) (.int .i64 f)).other (a := ⟨g, 4, none⟩) (Ne.symm hne) (.int .i64 s)
theorem cell_five {g p i : Nat} {w : World} {a b c u : Value} {f s : Int} (h : w.cell? ⟨p, i, none⟩ = some u) (hne : p ≠ g) : (((((((w).setCell ⟨g, 0, none⟩ (a)).setCell ⟨g, 1, none⟩ (b)).setCell ⟨g, 2, none⟩ (c)).setCell ⟨g, 3, none⟩ (.int .i64 f)).setCell ⟨g, 4, none⟩ (.int .i64 s))).cell? ⟨p, i, none⟩ = some u := by
  have st : ∀ {w1 : World} (j : Nat) (y : Value), w1.cell? ⟨p, i, none⟩ = some u → (w1.setCell ⟨g, j, none⟩ y).cell? ⟨p, i, none⟩ = some u := fun {w1} j y h1 => (Ret.grownBy_set w1 ⟨g, j, none⟩ y).cell h1 (by simpa using hne)
  exact st 4 _ (st 3 _ (st 2 _ (st 1 _ (st 0 _ h))))
theorem cells5 {W : World} {g : Nat} {a b c : Value} {f s : Int} {t : TypeId} (h : Ret.Blk W g (dc a b c f s) t) : W.cell? ⟨g, 0, none⟩ = some a ∧ W.cell? ⟨g, 1, none⟩ = some b ∧ W.cell? ⟨g, 2, none⟩ = some c ∧ W.cell? ⟨g, 3, none⟩ = some (.int .i64 f) ∧ W.cell? ⟨g, 4, none⟩ = some (.int .i64 s) := ⟨h.cell 0, h.cell 1, h.cell 2, h.cell 3, h.cell 4⟩
theorem froz5 {W : World} {g : Nat} {cs : Array Value} {t : TypeId} (h : Ret.Blk W g cs t) : W.frozen? ⟨g, 0, none⟩ = false ∧ W.frozen? ⟨g, 1, none⟩ = false ∧ W.frozen? ⟨g, 2, none⟩ = false ∧ W.frozen? ⟨g, 3, none⟩ = false ∧ W.frozen? ⟨g, 4, none⟩ = false := ⟨h.frozen 0, h.frozen 1, h.frozen 2, h.frozen 3, h.frozen 4⟩
theorem dOwn_zero (B : Nat) (w : World) : DOwn B w nil nil nil ([], [], [], 0, 0) := ⟨Own.nil _ _ _ _, Own.nil _ (Value.int .u8) _ _, Own.nil _ _ _ _, (fun g h => by cases h), (fun g h => by cases h), (fun g h => by cases h)⟩
def zD : Dt := ([], [], [], 0, 0)
/-- What SignWithKey signs. -/
def sgX (T : List (List ByteArray × Int)) (key n : List ByteArray) (b : List Int) (u : Int) : Dt := sgD (lkN T key) (n, b, key, u, 0)
def sgOk (T : List (List ByteArray × Int)) (key n : List ByteArray) (b : List Int) (u : Int) : Bool := !(lkN T key == 0) && validD (sgX T key n b u)
def sgK (T : List (List ByteArray × Int)) (key n : List ByteArray) (b : List Int) (u : Int) : Dt := if sgOk T key n b u then sgX T key n b u else zD
theorem secV {v u : Value} {T : List (List ByteArray × Int)} {m : List ByteArray} {w : World} (r : Int) (hr : lkN T m = r) (h : TabHolds w v T) (g : Holds Value.string w u m) (hl : T.length ≤ 4000000) (hT : smT T) (hm : bulk m ≤ 9000000) :
    Calls Tryz.prog 69 #[v, .agg #[u]] w fun e w' => e = .returned (.int .i64 r) ∧ Below w.heap.size w w' := hr ▸ specSecretOf v u T m w h g hl hT hm
/-- A signed packet: its cells in letters. -/
def GivesX (w : World) (ln : List ByteArray) (lb : List Int) (lk : List ByteArray) (u M : Int) (e : Ending) (w' : World) : Prop :=
  ∃ xa na ca xb nb cb xc nc cc, e = .returned (.agg #[.slice xa na ca, .slice xb nb cb, .slice xc nc cc, .int .i64 u, .int .i64 M]) ∧ DOwn w.heap.size w' (.slice xa na ca) (.slice xb nb cb) (.slice xc nc cc) (ln, lb, lk, u, M) ∧ Below w.heap.size w w'
theorem specSignV {a b c : Value} {ln lk : List ByteArray} {lb : List Int} {u r : Int} {w : World} (M : Int) (hM : Seal.mac r (portD (ln, lb, lk, u, 0)) = M) (h : DHold w a b c (ln, lb, lk, u, 0)) (hB : Sl.Byt lb) (hl : smD (ln, lb, lk, u, 0)) :
    Calls Tryz.prog 132 #[.int .i64 r, .agg #[a, b, c, .int .i64 u, .int .i64 0]] w (GivesX w ln lb lk u M) := by
  refine (specSignData a b c (ln, lb, lk, u, 0) r w h hB hl).mono ?_
  rintro e w' ⟨a1, b1, c1, rfl, hd, hb⟩
  obtain ⟨xa, na, ca, xb, nb, cb, xc, nc, cc, rfl, rfl, rfl⟩ := hd.hold.shape
  have e1 : sgD r (ln, lb, lk, u, 0) = (ln, lb, lk, u, M) := by unfold sgD; rw [hM]
  rw [e1] at hd ⊢
  exact ⟨_, _, _, _, _, _, _, _, _, rfl, hd, hb⟩
set_option maxRecDepth 100000 in
set_option maxHeartbeats 4000000 in
theorem signR1 {Q : Exit → Act → World → Prop} {v1 v2 v5 v8 v9 v10 v11 v12 v13 v14 v15 v16 v17 v18 v19 v20 v21 v22 v23 v24 v25 v26 v27 v28 v29 v30 v31 v32 : Value} {w : World} {p q nl cl nk ck nn cn nb cb : Nat} {xl xk xn xb : Option Addr} {u r M : Int} {ML : List Ent} {lk ln : List ByteArray} {lb : List Int} (HT : Hid (TabH w (.slice xl nl cl) ML)) (HK : Hid (Holds Value.string w (.slice xk nk ck) lk)) (HN : Hid (Holds Value.string w (.slice xn nn cn) ln)) (HB : Hid (Sl.Holds .u8 w (.slice xb nb cb) lb)) (HLM : Hid ((strip ML).length ≤ 4000000)) (HTS : Hid (smT (strip ML))) (HKB : Hid (bulk lk ≤ 9000000)) (HBY : Hid (Sl.Byt lb)) (HSM : Hid (smD (ln, lb, lk, u, 0))) (HR : Hid (lkN (strip ML) lk = r)) (HM : Hid (Seal.mac r (portD (ln, lb, lk, u, 0)) = M)) (KK : Hid (w.cell? ⟨p, 0, none⟩ = some (.slice xk nk ck))) (KN : Hid (w.cell? ⟨q, 0, none⟩ = some (.slice xn nn cn)))
    (hQ : ∀ (u13 u14 u15 u16 u17 u18 u19 u20 u21 : Value) (gD ma da mb db mc dc_ : Nat) (ya yb yc : Option Addr)  (wx : World), w.heap.size ≤ gD → Ret.Blk wx gD (dc (.slice none 0 0) (.slice none 0 0) (.slice none 0 0) 0 0) 34 → DOwn w.heap.size wx (.slice ya ma da) (.slice yb mb db) (.slice yc mc dc_) (ln, lb, lk, u, M) → Below w.heap.size w wx → Q .normal ⟨#[.slice xl nl cl, v1, v2, .slice xb nb cb, .int .i64 u, v5, .pointer (some ⟨p, 0, none⟩), .pointer (some ⟨q, 0, none⟩), v8, v9, v10, v11, .pointer (some ⟨gD, 0, none⟩), u13, u14, u15, u16, u17, u18, u19, u20, u21, v22, v23, v24, v25, v26, v27, v28, v29, v30, v31, v32], []⟩ ((((((wx).setCell ⟨gD, 0, none⟩ (.slice ya ma da)).setCell ⟨gD, 1, none⟩ (.slice yb mb db)).setCell ⟨gD, 2, none⟩ (.slice yc mc dc_)).setCell ⟨gD, 3, none⟩ (.int .i64 u)).setCell ⟨gD, 4, none⟩ (.int .i64 M))) :
    (Code.region 1 #[{ dst := some 13, op := Op.move (Operand.tmp 0), type := 24, pos := "l09_key.go:37", after := #[], guard := none },
      { dst := some 14, op := Op.load 32 (Operand.tmp 6), type := 32, pos := "l09_key.go:37", after := #[], guard := none },
      { dst := some 15, op := Op.call { callee := Callee.value (Operand.func 69), args := #[Operand.tmp 13, Operand.tmp 14], argTypes := #[24, 32] }, type := 3, pos := "l09_key.go:37", after := #[{ on := 0, ground := Ground.data }, { on := 1, ground := Ground.data }], guard := none },
      { dst := some 16, op := Op.load 32 (Operand.tmp 7), type := 32, pos := "l09_key.go:37", after := #[], guard := none },
      { dst := some 17, op := Op.move (Operand.tmp 3), type := 22, pos := "l09_key.go:37", after := #[], guard := none },
      { dst := some 18, op := Op.load 32 (Operand.tmp 6), type := 32, pos := "l09_key.go:37", after := #[], guard := none },
      { dst := some 19, op := Op.move (Operand.tmp 4), type := 3, pos := "l09_key.go:37", after := #[], guard := none },
      { dst := some 20, op := Op.build 34 #[(0, Operand.tmp 16), (1, Operand.tmp 17), (2, Operand.tmp 18), (3, Operand.tmp 19)], type := 34, pos := "l09_key.go:37", after := #[{ on := 3, ground := Ground.data }, { on := 4, ground := Ground.data }, { on := 5, ground := Ground.data }, { on := 6, ground := Ground.data }], guard := none },
      { dst := some 21, op := Op.call { callee := Callee.value (Operand.func 132), args := #[Operand.tmp 15, Operand.tmp 20], argTypes := #[3, 34] }, type := 34, pos := "l09_key.go:37", after := #[{ on := 2, ground := Ground.data }, { on := 7, ground := Ground.data }, { on := 2, ground := Ground.chain }], guard := none },
      { dst := some 12, op := Op.alloc 34, type := 0, pos := "l09_key.go:37", after := #[], guard := none },
      { dst := none, op := Op.store 34 (Operand.tmp 12) (Operand.tmp 21), type := 0, pos := "l09_key.go:37", after := #[{ on := 9, ground := Ground.data }, { on := 8, ground := Ground.data }, { on := 8, ground := Ground.chain }, { on := 0, ground := Ground.phase }, { on := 1, ground := Ground.phase }, { on := 2, ground := Ground.phase }, { on := 3, ground := Ground.phase }, { on := 4, ground := Ground.phase }, { on := 5, ground := Ground.phase }, { on := 6, ground := Ground.phase }, { on := 7, ground := Ground.phase }, { on := 8, ground := Ground.phase }, { on := 9, ground := Ground.phase }], guard := none }] true).wp Tryz.prog Q ⟨#[.slice xl nl cl, v1, v2, .slice xb nb cb, .int .i64 u, v5, .pointer (some ⟨p, 0, none⟩), .pointer (some ⟨q, 0, none⟩), v8, v9, v10, v11, v12, v13, v14, v15, v16, v17, v18, v19, v20, v21, v22, v23, v24, v25, v26, v27, v28, v29, v30, v31, v32], []⟩ w := by
  have HQ := Lib.hid hQ; clear hQ
  have hdr : Below w.heap.size w w.drew := (Below.refl _ _).drew
  have BB := Lib.hid hdr
  refine wp_region_noPanic ?_
  refine wp_region_held_drew (S := (fun w' => w'.cell? ⟨p, 0, none⟩ = some (.slice xk nk ck) ∧ w'.cell? ⟨q, 0, none⟩ = some (.slice xn nn cn))) (by kernel_rfl) ?_ (fun hHeld => ?_)
  · exact ⟨kc KK.out BB.out, kc KN.out BB.out⟩
  clear hdr
  generalize w.drew = wd at *
  refine wpAnyH_take (i := 0) (oi := { dst := some 13, op := Op.move (Operand.tmp 0), type := 24, pos := "l09_key.go:37", after := #[], guard := none }) (v := ?_) rfl (by kernel_rfl) (by kernel_rfl) (by kernel_rfl) (fun _ _ _ h => h) (Or.inl ⟨by rfl, ?_⟩) (by assumption) ?_
  rotate_left
  · intro w' hSw; (try dsimp only at hSw); first | (go_simp; done) | (go_simp; with_reducible rfl)
  (try simp only [Act.put, List.setIfInBounds_toArray, List.set_cons_zero, List.set_cons_succ])
  refine wpAnyH_take (i := 1) (oi := { dst := some 14, op := Op.load 32 (Operand.tmp 6), type := 32, pos := "l09_key.go:37", after := #[], guard := none }) (v := ?_) rfl (by kernel_rfl) (by kernel_rfl) (by kernel_rfl) (fun _ _ _ h => h) (Or.inl ⟨by rfl, ?_⟩) (by assumption) ?_
  rotate_left
  · intro w' hSw; (try dsimp only at hSw); first | (go_simp; done) | (go_simp; with_reducible rfl)
  (try simp only [Act.put, List.setIfInBounds_toArray, List.set_cons_zero, List.set_cons_succ])
  refine wpAnyH_take (i := 3) (oi := { dst := some 16, op := Op.load 32 (Operand.tmp 7), type := 32, pos := "l09_key.go:37", after := #[], guard := none }) (v := ?_) rfl (by kernel_rfl) (by kernel_rfl) (by kernel_rfl) (fun _ _ _ h => h) (Or.inl ⟨by rfl, ?_⟩) (by assumption) ?_
  rotate_left
  · intro w' hSw; (try dsimp only at hSw); first | (go_simp; done) | (go_simp; with_reducible rfl)
  (try simp only [Act.put, List.setIfInBounds_toArray, List.set_cons_zero, List.set_cons_succ])
  refine wpAnyH_take (i := 4) (oi := { dst := some 17, op := Op.move (Operand.tmp 3), type := 22, pos := "l09_key.go:37", after := #[], guard := none }) (v := ?_) rfl (by kernel_rfl) (by kernel_rfl) (by kernel_rfl) (fun _ _ _ h => h) (Or.inl ⟨by rfl, ?_⟩) (by assumption) ?_
  rotate_left
  · intro w' hSw; (try dsimp only at hSw); first | (go_simp; done) | (go_simp; with_reducible rfl)
  (try simp only [Act.put, List.setIfInBounds_toArray, List.set_cons_zero, List.set_cons_succ])
  refine wpAnyH_take (i := 5) (oi := { dst := some 18, op := Op.load 32 (Operand.tmp 6), type := 32, pos := "l09_key.go:37", after := #[], guard := none }) (v := ?_) rfl (by kernel_rfl) (by kernel_rfl) (by kernel_rfl) (fun _ _ _ h => h) (Or.inl ⟨by rfl, ?_⟩) (by assumption) ?_
  rotate_left
  · intro w' hSw; (try dsimp only at hSw); first | (go_simp; done) | (go_simp; with_reducible rfl)
  (try simp only [Act.put, List.setIfInBounds_toArray, List.set_cons_zero, List.set_cons_succ])
  refine wpAnyH_take (i := 6) (oi := { dst := some 19, op := Op.move (Operand.tmp 4), type := 3, pos := "l09_key.go:37", after := #[], guard := none }) (v := ?_) rfl (by kernel_rfl) (by kernel_rfl) (by kernel_rfl) (fun _ _ _ h => h) (Or.inl ⟨by rfl, ?_⟩) (by assumption) ?_
  rotate_left
  · intro w' hSw; (try dsimp only at hSw); first | (go_simp; done) | (go_simp; with_reducible rfl)
  (try simp only [Act.put, List.setIfInBounds_toArray, List.set_cons_zero, List.set_cons_succ])
  refine wpAnyH_take (i := 7) (oi := { dst := some 20, op := Op.build 34 #[(0, Operand.tmp 16), (1, Operand.tmp 17), (2, Operand.tmp 18), (3, Operand.tmp 19)], type := 34, pos := "l09_key.go:37", after := #[{ on := 3, ground := Ground.data }, { on := 4, ground := Ground.data }, { on := 5, ground := Ground.data }, { on := 6, ground := Ground.data }], guard := none }) (v := ?_) rfl (by kernel_rfl) (by kernel_rfl) (by kernel_rfl) (fun _ _ _ h => h) (Or.inl ⟨by rfl, ?_⟩) (by assumption) ?_
  rotate_left
  · intro w' hSw; (try dsimp only at hSw); first | (go_simp; done) | (go_simp; with_reducible rfl)
  (try simp only [Act.put, List.setIfInBounds_toArray, List.set_cons_zero, List.set_cons_succ])
  refine wpAnyH_ready (rs := [2, 9]) (by kernel_rfl) (by simp) ?_
  refine AllReadyH.cons (o := { dst := some 15, op := Op.call { callee := Callee.value (Operand.func 69), args := #[Operand.tmp 13, Operand.tmp 14], argTypes := #[24, 32] }, type := 3, pos := "l09_key.go:37", after := #[{ on := 0, ground := Ground.data }, { on := 1, ground := Ground.data }], guard := none }) rfl (fun K hK => ?_) ?_
  ·
    go_simp
    refine (secV r HR.out ⟨ML, rfl, HT.out.on BB.out⟩ (HK.out.on BB.out) HLM.out HTS.out HKB.out).mono ?_
    rintro e wn1 ⟨rfl, hb⟩
    replace BB := Lib.hid (BB.out.trans (hb.mono BB.out.size))
    clear hb
    (try go_wp2_with fail)
    clear hHeld
    refine hK.out _ _ ?_ (fun hHeld => ?_)
    · (try dsimp only); exact ⟨kc KK.out BB.out, kc KN.out BB.out⟩
    clear hK K
    (try simp only [Act.put, List.setIfInBounds_toArray, List.set_cons_zero, List.set_cons_succ])
    refine wpAnyH_ready (rs := [8, 9]) (by kernel_rfl) (by simp) ?_
    refine AllReadyH.cons (o := { dst := some 21, op := Op.call { callee := Callee.value (Operand.func 132), args := #[Operand.tmp 15, Operand.tmp 20], argTypes := #[3, 34] }, type := 34, pos := "l09_key.go:37", after := #[{ on := 2, ground := Ground.data }, { on := 7, ground := Ground.data }, { on := 2, ground := Ground.chain }], guard := none }) rfl (fun K hK => ?_) ?_
    ·
      go_simp
      refine (specSignV M HM.out ⟨HN.out.on BB.out, HB.out.on BB.out, HK.out.on BB.out⟩ HBY.out HSM.out).mono ?_
      rintro e wn2 ⟨ya, ma, da, yb, mb, db, yc, mc, dc_, rfl, hd, hb⟩
      have HD := Lib.hid (hd.mono BB.out.size); clear hd
      replace BB := Lib.hid (BB.out.trans (hb.mono BB.out.size))
      clear hb
      (try go_wp2_with fail)
      clear hHeld
      refine hK.out _ _ ?_ (fun hHeld => ?_)
      · (try dsimp only); exact ⟨kc KK.out BB.out, kc KN.out BB.out⟩
      clear hK K
      (try simp only [Act.put, List.setIfInBounds_toArray, List.set_cons_zero, List.set_cons_succ])
      refine wpAnyH_ready (rs := [9]) (by kernel_rfl) (by simp) ?_
      refine AllReadyH.cons (o := { dst := some 12, op := Op.alloc 34, type := 0, pos := "l09_key.go:37", after := #[], guard := none }) rfl (fun K hK => ?_) AllReadyH.nil
      go_simp
      have hb : Below wn2.heap.size wn2 (wn2.alloc (.cells #[.slice none 0 0, .slice none 0 0, .slice none 0 0, .int .i64 0, .int .i64 0] 34)) := (Below.refl _ _).alloc (Nat.le_refl _) _
      obtain ⟨gD, hgD⟩ : ∃ g, g = wn2.heap.size := ⟨_, rfl⟩
      have XD := Lib.hid (show Ret.Blk (wn2.alloc (.cells #[.slice none 0 0, .slice none 0 0, .slice none 0 0, .int .i64 0, .int .i64 0] 34)) gD (dc (.slice none 0 0) (.slice none 0 0) (.slice none 0 0) 0 0) 34 from by rw [hgD]; exact Ret.Blk.new wn2 _ _)
      have HDW := Lib.hid (show w.heap.size ≤ gD from by rw [hgD]; exact BB.out.size)
      rw [← hgD]
      clear hgD
      replace HD := Lib.hid (HD.out.on hb)
      replace BB := Lib.hid (BB.out.trans (hb.mono BB.out.size))
      clear hb
      generalize wn2.alloc (.cells #[.slice none 0 0, .slice none 0 0, .slice none 0 0, .int .i64 0, .int .i64 0] 34) = wn3 at *
      clear hHeld
      refine hK.out _ _ ?_ (fun hHeld => ?_)
      · (try dsimp only); exact ⟨kc KK.out BB.out, kc KN.out BB.out⟩
      clear hK K
      (try simp only [Act.put, List.setIfInBounds_toArray, List.set_cons_zero, List.set_cons_succ])
      refine wpAnyH_ready (rs := [10]) (by kernel_rfl) (by simp) ?_
      refine AllReadyH.cons (o := { dst := none, op := Op.store 34 (Operand.tmp 12) (Operand.tmp 21), type := 0, pos := "l09_key.go:37", after := #[{ on := 9, ground := Ground.data }, { on := 8, ground := Ground.data }, { on := 8, ground := Ground.chain }, { on := 0, ground := Ground.phase }, { on := 1, ground := Ground.phase }, { on := 2, ground := Ground.phase }, { on := 3, ground := Ground.phase }, { on := 4, ground := Ground.phase }, { on := 5, ground := Ground.phase }, { on := 6, ground := Ground.phase }, { on := 7, ground := Ground.phase }, { on := 8, ground := Ground.phase }, { on := 9, ground := Ground.phase }], guard := none }) rfl (fun K hK => ?_) AllReadyH.nil
      obtain ⟨r0, r1, r2, r3, r4⟩ := cells5 XD.out
      obtain ⟨t0, t1, t2, t3, t4⟩ := froz5 XD.out
      go_simp
      clear hHeld
      refine hK.out _ _ ?_ (fun hHeld => ?_)
      · (try dsimp only); exact ⟨cell_five (kc KK.out BB.out) (by have h1 : p < w.heap.size := cell_lt KK.out; have h2 := HDW.out; omega), cell_five (kc KN.out BB.out) (by have h1 : q < w.heap.size := cell_lt KN.out; have h2 := HDW.out; omega)⟩
      clear hK K
      (try simp only [Act.put, List.setIfInBounds_toArray, List.set_cons_zero, List.set_cons_succ])
      refine wpAnyH_done (by kernel_rfl) ?_ _
      exact NoPanic.normal (HQ.out _ _ _ _ _ _ _ _ _ gD ma da mb db mc dc_ ya yb yc _ HDW.out XD.out HD.out BB.out)
    refine AllReadyH.cons (o := { dst := some 12, op := Op.alloc 34, type := 0, pos := "l09_key.go:37", after := #[], guard := none }) rfl (fun K hK => ?_) AllReadyH.nil
    go_simp
    have hb : Below wn1.heap.size wn1 (wn1.alloc (.cells #[.slice none 0 0, .slice none 0 0, .slice none 0 0, .int .i64 0, .int .i64 0] 34)) := (Below.refl _ _).alloc (Nat.le_refl _) _
    obtain ⟨gD, hgD⟩ : ∃ g, g = wn1.heap.size := ⟨_, rfl⟩
    have XD := Lib.hid (show Ret.Blk (wn1.alloc (.cells #[.slice none 0 0, .slice none 0 0, .slice none 0 0, .int .i64 0, .int .i64 0] 34)) gD (dc (.slice none 0 0) (.slice none 0 0) (.slice none 0 0) 0 0) 34 from by rw [hgD]; exact Ret.Blk.new wn1 _ _)
    have HDW := Lib.hid (show w.heap.size ≤ gD from by rw [hgD]; exact BB.out.size)
    rw [← hgD]
    clear hgD
    replace BB := Lib.hid (BB.out.trans (hb.mono BB.out.size))
    clear hb
    generalize wn1.alloc (.cells #[.slice none 0 0, .slice none 0 0, .slice none 0 0, .int .i64 0, .int .i64 0] 34) = wn5 at *
    clear hHeld
    refine hK.out _ _ ?_ (fun hHeld => ?_)
    · (try dsimp only); exact ⟨kc KK.out BB.out, kc KN.out BB.out⟩
    clear hK K
    (try simp only [Act.put, List.setIfInBounds_toArray, List.set_cons_zero, List.set_cons_succ])
    refine wpAnyH_ready (rs := [8]) (by kernel_rfl) (by simp) ?_
    refine AllReadyH.cons (o := { dst := some 21, op := Op.call { callee := Callee.value (Operand.func 132), args := #[Operand.tmp 15, Operand.tmp 20], argTypes := #[3, 34] }, type := 34, pos := "l09_key.go:37", after := #[{ on := 2, ground := Ground.data }, { on := 7, ground := Ground.data }, { on := 2, ground := Ground.chain }], guard := none }) rfl (fun K hK => ?_) AllReadyH.nil
    go_simp
    refine (specSignV M HM.out ⟨HN.out.on BB.out, HB.out.on BB.out, HK.out.on BB.out⟩ HBY.out HSM.out).mono ?_
    rintro e wn6 ⟨ya, ma, da, yb, mb, db, yc, mc, dc_, rfl, hd, hb⟩
    have HD := Lib.hid (hd.mono BB.out.size); clear hd
    replace XD := Lib.hid (XD.out.on hb)
    replace BB := Lib.hid (BB.out.trans (hb.mono BB.out.size))
    clear hb
    (try go_wp2_with fail)
    clear hHeld
    refine hK.out _ _ ?_ (fun hHeld => ?_)
    · (try dsimp only); exact ⟨kc KK.out BB.out, kc KN.out BB.out⟩
    clear hK K
    (try simp only [Act.put, List.setIfInBounds_toArray, List.set_cons_zero, List.set_cons_succ])
    refine wpAnyH_ready (rs := [10]) (by kernel_rfl) (by simp) ?_
    refine AllReadyH.cons (o := { dst := none, op := Op.store 34 (Operand.tmp 12) (Operand.tmp 21), type := 0, pos := "l09_key.go:37", after := #[{ on := 9, ground := Ground.data }, { on := 8, ground := Ground.data }, { on := 8, ground := Ground.chain }, { on := 0, ground := Ground.phase }, { on := 1, ground := Ground.phase }, { on := 2, ground := Ground.phase }, { on := 3, ground := Ground.phase }, { on := 4, ground := Ground.phase }, { on := 5, ground := Ground.phase }, { on := 6, ground := Ground.phase }, { on := 7, ground := Ground.phase }, { on := 8, ground := Ground.phase }, { on := 9, ground := Ground.phase }], guard := none }) rfl (fun K hK => ?_) AllReadyH.nil
    obtain ⟨r0, r1, r2, r3, r4⟩ := cells5 XD.out
    obtain ⟨t0, t1, t2, t3, t4⟩ := froz5 XD.out
    go_simp
    clear hHeld
    refine hK.out _ _ ?_ (fun hHeld => ?_)
    · (try dsimp only); exact ⟨cell_five (kc KK.out BB.out) (by have h1 : p < w.heap.size := cell_lt KK.out; have h2 := HDW.out; omega), cell_five (kc KN.out BB.out) (by have h1 : q < w.heap.size := cell_lt KN.out; have h2 := HDW.out; omega)⟩
    clear hK K
    (try simp only [Act.put, List.setIfInBounds_toArray, List.set_cons_zero, List.set_cons_succ])
    refine wpAnyH_done (by kernel_rfl) ?_ _
    exact NoPanic.normal (HQ.out _ _ _ _ _ _ _ _ _ gD ma da mb db mc dc_ ya yb yc _ HDW.out XD.out HD.out BB.out)
  refine AllReadyH.cons (o := { dst := some 12, op := Op.alloc 34, type := 0, pos := "l09_key.go:37", after := #[], guard := none }) rfl (fun K hK => ?_) AllReadyH.nil
  go_simp
  have hb : Below wd.heap.size wd (wd.alloc (.cells #[.slice none 0 0, .slice none 0 0, .slice none 0 0, .int .i64 0, .int .i64 0] 34)) := (Below.refl _ _).alloc (Nat.le_refl _) _
  obtain ⟨gD, hgD⟩ : ∃ g, g = wd.heap.size := ⟨_, rfl⟩
  have XD := Lib.hid (show Ret.Blk (wd.alloc (.cells #[.slice none 0 0, .slice none 0 0, .slice none 0 0, .int .i64 0, .int .i64 0] 34)) gD (dc (.slice none 0 0) (.slice none 0 0) (.slice none 0 0) 0 0) 34 from by rw [hgD]; exact Ret.Blk.new wd _ _)
  have HDW := Lib.hid (show w.heap.size ≤ gD from by rw [hgD]; exact BB.out.size)
  rw [← hgD]
  clear hgD
  replace BB := Lib.hid (BB.out.trans (hb.mono BB.out.size))
  clear hb
  generalize wd.alloc (.cells #[.slice none 0 0, .slice none 0 0, .slice none 0 0, .int .i64 0, .int .i64 0] 34) = wn8 at *
  clear hHeld
  refine hK.out _ _ ?_ (fun hHeld => ?_)
  · (try dsimp only); exact ⟨kc KK.out BB.out, kc KN.out BB.out⟩
  clear hK K
  (try simp only [Act.put, List.setIfInBounds_toArray, List.set_cons_zero, List.set_cons_succ])
  refine wpAnyH_ready (rs := [2]) (by kernel_rfl) (by simp) ?_
  refine AllReadyH.cons (o := { dst := some 15, op := Op.call { callee := Callee.value (Operand.func 69), args := #[Operand.tmp 13, Operand.tmp 14], argTypes := #[24, 32] }, type := 3, pos := "l09_key.go:37", after := #[{ on := 0, ground := Ground.data }, { on := 1, ground := Ground.data }], guard := none }) rfl (fun K hK => ?_) AllReadyH.nil
  go_simp
  refine (secV r HR.out ⟨ML, rfl, HT.out.on BB.out⟩ (HK.out.on BB.out) HLM.out HTS.out HKB.out).mono ?_
  rintro e wn9 ⟨rfl, hb⟩
  replace XD := Lib.hid (XD.out.on hb)
  replace BB := Lib.hid (BB.out.trans (hb.mono BB.out.size))
  clear hb
  (try go_wp2_with fail)
  clear hHeld
  refine hK.out _ _ ?_ (fun hHeld => ?_)
  · (try dsimp only); exact ⟨kc KK.out BB.out, kc KN.out BB.out⟩
  clear hK K
  (try simp only [Act.put, List.setIfInBounds_toArray, List.set_cons_zero, List.set_cons_succ])
  refine wpAnyH_ready (rs := [8]) (by kernel_rfl) (by simp) ?_
  refine AllReadyH.cons (o := { dst := some 21, op := Op.call { callee := Callee.value (Operand.func 132), args := #[Operand.tmp 15, Operand.tmp 20], argTypes := #[3, 34] }, type := 34, pos := "l09_key.go:37", after := #[{ on := 2, ground := Ground.data }, { on := 7, ground := Ground.data }, { on := 2, ground := Ground.chain }], guard := none }) rfl (fun K hK => ?_) AllReadyH.nil
  go_simp
  refine (specSignV M HM.out ⟨HN.out.on BB.out, HB.out.on BB.out, HK.out.on BB.out⟩ HBY.out HSM.out).mono ?_
  rintro e wn10 ⟨ya, ma, da, yb, mb, db, yc, mc, dc_, rfl, hd, hb⟩
  have HD := Lib.hid (hd.mono BB.out.size); clear hd
  replace XD := Lib.hid (XD.out.on hb)
  replace BB := Lib.hid (BB.out.trans (hb.mono BB.out.size))
  clear hb
  (try go_wp2_with fail)
  clear hHeld
  refine hK.out _ _ ?_ (fun hHeld => ?_)
  · (try dsimp only); exact ⟨kc KK.out BB.out, kc KN.out BB.out⟩
  clear hK K
  (try simp only [Act.put, List.setIfInBounds_toArray, List.set_cons_zero, List.set_cons_succ])
  refine wpAnyH_ready (rs := [10]) (by kernel_rfl) (by simp) ?_
  refine AllReadyH.cons (o := { dst := none, op := Op.store 34 (Operand.tmp 12) (Operand.tmp 21), type := 0, pos := "l09_key.go:37", after := #[{ on := 9, ground := Ground.data }, { on := 8, ground := Ground.data }, { on := 8, ground := Ground.chain }, { on := 0, ground := Ground.phase }, { on := 1, ground := Ground.phase }, { on := 2, ground := Ground.phase }, { on := 3, ground := Ground.phase }, { on := 4, ground := Ground.phase }, { on := 5, ground := Ground.phase }, { on := 6, ground := Ground.phase }, { on := 7, ground := Ground.phase }, { on := 8, ground := Ground.phase }, { on := 9, ground := Ground.phase }], guard := none }) rfl (fun K hK => ?_) AllReadyH.nil
  obtain ⟨r0, r1, r2, r3, r4⟩ := cells5 XD.out
  obtain ⟨t0, t1, t2, t3, t4⟩ := froz5 XD.out
  go_simp
  clear hHeld
  refine hK.out _ _ ?_ (fun hHeld => ?_)
  · (try dsimp only); exact ⟨cell_five (kc KK.out BB.out) (by have h1 : p < w.heap.size := cell_lt KK.out; have h2 := HDW.out; omega), cell_five (kc KN.out BB.out) (by have h1 : q < w.heap.size := cell_lt KN.out; have h2 := HDW.out; omega)⟩
  clear hK K
  (try simp only [Act.put, List.setIfInBounds_toArray, List.set_cons_zero, List.set_cons_succ])
  refine wpAnyH_done (by kernel_rfl) ?_ _
  exact NoPanic.normal (HQ.out _ _ _ _ _ _ _ _ _ gD ma da mb db mc dc_ ya yb yc _ HDW.out XD.out HD.out BB.out)

end Go.Proofs.YtcidfmmeonhkhaaGreatDoor.Row.Ring
/- Contracts of the reference model's draws of lists of keys (l9Ring, l9Any), over the cursor of Draw. What was in memory stays as it was, but for the cursor. -/
namespace Go.Proofs.YtcidfmmeonhkhaaGreatDoor.Draw
open Go.ChangeShapes Go.WideShapes Go.ChangeAt Go.RowKit Go.Instr
open Go.Proofs.YtcidfmmeonhkhaaGreatDoor.Row (bulk bulk_append bulk_one bulk_nil bulk_cons OwnK HB)
open Go.Proofs.YtcidfmmeonhkhaaGreatDoor.Row.Ring (Ent encE szE kindE strip strip_append strip_length TabH TabO TabOwn TabHolds addK smT)
open Go.Proofs.YtcidfmmeonhkhaaGreatDoor.Ret (NC Blk Box)
set_option linter.unusedVariables false
set_option maxRecDepth 100000

/-- Names are short, numbers fit. -/
def smS (T : List (List ByteArray × Int)) : Prop := ∀ t ∈ T, bulk t.1 ≤ 1000 ∧ (Lit.int .i64 t.2).wf = true
theorem smS.smT {T : List (List ByteArray × Int)} (h : smS T) : smT T := fun t ht => Nat.le_trans (h t ht).1 (by decide)
theorem smS.wf {T : List (List ByteArray × Int)} (h : smS T) : ∀ t ∈ T, (Lit.int .i64 t.2).wf = true := fun t ht => (h t ht).2
/-- A row of keys of the draw's own; their names lie in blocks of texts (two keys may share one). -/
def RO (B : Nat) (w : World) (v : Value) (L : List Ent) : Prop := OwnK 156 encE 2 B w v L ∧ ∀ x ∈ L, HB B w x.v x.ps
theorem ownk_keep {α : Type} {enc : α → List Value} {sz : Nat} {e : TypeId} {B p : Nat} {w w' : World} {x : Value} {m : List α} (h : OwnK e enc sz B w x m) (hk : Keep p w w') (hp : p < B) : OwnK e enc sz B w' x m := by
  refine ⟨h.1, ?_⟩
  rcases h.2 with h2 | ⟨g, cap, cur, hv, hB, hc, r⟩
  · exact Or.inl h2
  · exact Or.inr ⟨g, cap, cur, hv, hB, by rw [hk.block g (Array.getElem?_eq_some_iff.1 hc).1 (by omega)]; exact hc, r⟩
theorem hb_keep {B p : Nat} {w w' : World} {v : Value} {l : List ByteArray} (h : HB B w v l) (hk : Keep p w w') (hp : p < B) : HB B w' v l := h.same fun g hg ht => hk.block g ht.lt (by omega)
section
variable {B : Nat} {w w' : World} {v : Value} {L : List Ent}
theorem RO.of (h : TabO B w v L) : RO B w v L := ⟨h.1, fun x hx => HB.of (h.2.1 x hx)⟩
theorem RO.mono (h : RO B w v L) {B' : Nat} (hB : B' ≤ B) : RO B' w v L := ⟨h.1.mono hB, fun x hx => (h.2 x hx).mono hB⟩
theorem RO.on (h : RO B w v L) (hb : Below w.heap.size w w') : RO B w' v L := ⟨h.1.on hb, fun x hx => (h.2 x hx).on hb⟩
theorem RO.keep (h : RO B w v L) {p : Nat} (hk : Keep p w w') (hp : p < B) : RO B w' v L := ⟨ownk_keep h.1 hk hp, fun x hx => hb_keep (h.2 x hx) hk hp⟩
theorem RO.shapeN (h : RO B w v L) : ∃ x n cap, v = .slice x n cap ∧ n = L.length ∧ n ≤ cap ∧ RO B w (.slice x n cap) L := by
  obtain ⟨x, n, cap, rfl, hn, hc, ho⟩ := h.1.shapeN
  exact ⟨x, n, cap, rfl, hn, hc, ho, h.2⟩
theorem RO.push (h : RO B w v L) {x : Ent} (hx : HB B w x.v x.ps) {v' : Value} (ho : OwnK 156 encE 2 B w' v' (L ++ [x])) (hg : w.grownBy w' v.ownBlock) : RO B w' v' (L ++ [x]) := by
  refine ⟨ho, fun y hy => ?_⟩
  rcases List.mem_append.1 hy with hy | hy
  · exact (h.2 y hy).grownK h.1 (by decide) hg
  · rw [List.mem_singleton.1 hy]; exact hx.grownK h.1 (by decide) hg
end
def KeyD (B K : Nat) (x : Value) (w : World) : Prop := ∃ L, RO B w x L ∧ 2 ≤ L.length ∧ L.length ≤ K ∧ smS (strip L)
theorem bulk_pN (s : ByteArray) : bulk (Row.pN s) ≤ 1000 := Nat.le_trans (Row.bulk_valid (Row.valid_pN s)) (by decide)

end Go.Proofs.YtcidfmmeonhkhaaGreatDoor.Draw
/- Chapter 11 (trust) in the words of kinds: the model's IsAnchor. No conditions but that lengths fit. -/
namespace Go.Proofs.YtcidfmmeonhkhaaGreatDoor.Row
open Go.ChangeShapes Go.WideShapes Go.ChangeAt Go.RowKit Go.Instr
set_option linter.unusedVariables false
set_option maxRecDepth 100000

/-! ### anchors -/
def anchorT (l : List Nnt) (n : List ByteArray) : Bool := l.any fun a => decide (a = n)
end Go.Proofs.YtcidfmmeonhkhaaGreatDoor.Row
/- What the exact laws on tables use besides the contracts: a table that came in as an argument; equal ones compared; marks in a range of blocks. No conditions. -/
namespace Go.Proofs.YtcidfmmeonhkhaaGreatDoor.Row.Ring
open Go.ChangeShapes Go.WideShapes Go.ChangeAt Go.RowKit Go.Instr
set_option linter.unusedVariables false
set_option maxRecDepth 100000

end Go.Proofs.YtcidfmmeonhkhaaGreatDoor.Row.Ring
/- Contracts of SignWithKey, the model's and the program's. No conditions but that lengths fit. -/
namespace Go.Proofs.YtcidfmmeonhkhaaGreatDoor.Row.Ring
open Go.ChangeShapes Go.WideShapes Go.ChangeAt Go.RowKit Go.Instr
set_option linter.unusedVariables false
set_option maxRecDepth 100000

theorem sgOk_zero {T : List (List ByteArray × Int)} {key n : List ByteArray} {b : List Int} {u r : Int} (hr : lkN T key = r) (h : (r == 0) = true) : sgOk T key n b u = false := by unfold sgOk; rw [hr, h]; rfl
theorem sgOk_val {T : List (List ByteArray × Int)} {key n : List ByteArray} {b : List Int} {u r M : Int} {z : Bool} (hr : lkN T key = r) (h : (r == 0) = false) (hM : Seal.mac r (portD (n, b, key, u, 0)) = M) (hz : validD (n, b, key, u, M) = z) : sgOk T key n b u = z ∧ sgX T key n b u = (n, b, key, u, M) := by
  have e : sgX T key n b u = (n, b, key, u, M) := by unfold sgX sgD; rw [hr, hM]
  refine ⟨?_, e⟩
  unfold sgOk
  rw [hr, h, e, hz]; rfl
theorem sgK_no {T : List (List ByteArray × Int)} {key n : List ByteArray} {b : List Int} {u : Int} (h : sgOk T key n b u = false) : sgK T key n b u = zD := by unfold sgK; rw [h]; rfl
theorem sgK_yes {T : List (List ByteArray × Int)} {key n : List ByteArray} {b : List Int} {u : Int} (h : sgOk T key n b u = true) : sgK T key n b u = sgX T key n b u := by unfold sgK; rw [h]; rfl

set_option maxHeartbeats 8000000 in
theorem specSignWithKey (v uk un vb : Value) (T : List (List ByteArray × Int)) (lk ln : List ByteArray) (lb : List Int) (u : Int) (w : World) (h : TabHolds w v T) (gk : Holds Value.string w uk lk) (gn : Holds Value.string w un ln) (gb : Sl.Holds .u8 w vb lb) (hB : Sl.Byt lb) (hl : T.length ≤ 4000000) (hT : smT T) (hk : bulk lk ≤ 1200000) (hn : bulk ln ≤ 1200000) (hlb : lb.length ≤ 1200000) :
    Calls Tryz.prog 61 #[v, .agg #[uk], .agg #[un], vb, .int .i64 u] w (GivesDB w (sgK T lk ln lb u) (sgOk T lk ln lb u)) := by
  obtain ⟨L, rfl, h⟩ := h
  obtain ⟨xl, nl, cl, rfl, -, -, hh⟩ := h.shapeN
  obtain ⟨xk, nk, ck, rfl, -, -, hk1⟩ := gk.shapeN
  obtain ⟨xn, nn, cn, rfl, -, -, hn1⟩ := gn.shapeN
  obtain ⟨xb, nb, cb, rfl, -, -, hb1⟩ := Holds.shapeN (enc := Value.int .u8) gb
  replace hb1 : Sl.Holds .u8 w (.slice xb nb cb) lb := hb1
  have ha := (Below.refl w.heap.size w).alloc (Nat.le_refl _) (.cells #[.slice xk nk ck] 32)
  have hb := ha.alloc (by simp) (.cells #[.slice xn nn cn] 32)
  have hc := hb.alloc (by simp <;> omega) (.cells (dc (.slice none 0 0) (.slice none 0 0) (.slice none 0 0) 0 0) 34)
  have HB := Lib.hid hc
  have HXK := Lib.hid (((Ret.Box.new w (.slice xk nk ck) 32).on ((Below.refl _ _).alloc (Nat.le_refl _) (.cells #[.slice xn nn cn] 32))).on ((Below.refl _ _).alloc (Nat.le_refl _) (.cells (dc (.slice none 0 0) (.slice none 0 0) (.slice none 0 0) 0 0) 34)))
  have HXN := Lib.hid ((Ret.Box.new' (w := w.alloc (.cells #[.slice xk nk ck] 32)) (.slice xn nn cn) 32 (n := w.heap.size + 1) (by simp)).on ((Below.refl _ _).alloc (Nat.le_refl _) (.cells (dc (.slice none 0 0) (.slice none 0 0) (.slice none 0 0) 0 0) 34)))
  have HR := Lib.hid (Ret.Blk.new' (w := (w.alloc (.cells #[.slice xk nk ck] 32)).alloc (.cells #[.slice xn nn cn] 32)) (n := w.heap.size + 2) (dc (.slice none 0 0) (.slice none 0 0) (.slice none 0 0) 0 0) 34 (by simp))
  have HS := Lib.hid (show (((w.alloc (.cells #[.slice xk nk ck] 32)).alloc (.cells #[.slice xn nn cn] 32)).alloc (.cells (dc (.slice none 0 0) (.slice none 0 0) (.slice none 0 0) 0 0) 34)).heap.size = w.heap.size + 3 by simp)
  have HH := Lib.hid (hh.on hc); have HK := Lib.hid (hk1.on hc); have HN := Lib.hid (hn1.on hc); have HBB := Lib.hid (hb1.on hc)
  have HL := Lib.hid (show (strip L).length ≤ 4000000 from hl); have HT := Lib.hid hT; have HKB := Lib.hid (show bulk lk ≤ 9000000 by omega); have HBY := Lib.hid hB
  have HSM := Lib.hid (show smD (ln, lb, lk, u, 0) from ⟨hn, hlb, hk⟩)
  have HK1 := Lib.hid hk; have HN1 := Lib.hid hn
  obtain ⟨r, hr⟩ : ∃ r, lkN (strip L) lk = r := ⟨_, rfl⟩
  obtain ⟨M, hM⟩ : ∃ M, Seal.mac r (portD (ln, lb, lk, u, 0)) = M := ⟨_, rfl⟩
  obtain ⟨z, hz⟩ : ∃ z, validD (ln, lb, lk, u, M) = z := ⟨_, rfl⟩
  have HRR := Lib.hid hr; have HM := Lib.hid hM; have HZ := Lib.hid hz
  clear ha hb hc hh hk1 hn1 hb1 h gk gn gb hB hl hT hk hn hlb hr hM hz
  go_enter Tryz.func61, Tryz.ntmps61
  go_wp2_with fail
  refine signR1 HH HK HN HBB HL HT HKB HBY HSM HRR HM (Lib.hid HXK.out.cell) (Lib.hid HXN.out.cell) ?_
  intro u13 u14 u15 u16 u17 u18 u19 u20 u21 gD ma da mb db mc dc_ ya yb yc w2 hgd hxd hd hb2
  have hs0 : (((w.alloc (.cells #[.slice xk nk ck] 32)).alloc (.cells #[.slice xn nn cn] 32)).alloc (.cells (#[.slice none 0 0, .slice none 0 0, .slice none 0 0, .int .i64 0, .int .i64 0]) 34)).heap.size = w.heap.size + 3 := by simp
  have hs2 := hb2.size
  have hg3 : w.heap.size + 3 ≤ gD := by omega
  have HX := Lib.hid (show Ret.Blk ((((((w2).setCell ⟨gD, 0, none⟩ (.slice ya ma da)).setCell ⟨gD, 1, none⟩ (.slice yb mb db)).setCell ⟨gD, 2, none⟩ (.slice yc mc dc_)).setCell ⟨gD, 3, none⟩ (.int .i64 u)).setCell ⟨gD, 4, none⟩ (.int .i64 M)) gD (dc (.slice ya ma da) (.slice yb mb db) (.slice yc mc dc_) u M) 34 from blk_five hxd)
  have HD := Lib.hid (show DOwn w.heap.size ((((((w2).setCell ⟨gD, 0, none⟩ (.slice ya ma da)).setCell ⟨gD, 1, none⟩ (.slice yb mb db)).setCell ⟨gD, 2, none⟩ (.slice yc mc dc_)).setCell ⟨gD, 3, none⟩ (.int .i64 u)).setCell ⟨gD, 4, none⟩ (.int .i64 M)) (.slice ya ma da) (.slice yb mb db) (.slice yc mc dc_) (ln, lb, lk, u, M) from (hd.mono (by omega)).five hxd)
  replace HXK := Lib.hid (show Ret.Box ((((((w2).setCell ⟨gD, 0, none⟩ (.slice ya ma da)).setCell ⟨gD, 1, none⟩ (.slice yb mb db)).setCell ⟨gD, 2, none⟩ (.slice yc mc dc_)).setCell ⟨gD, 3, none⟩ (.int .i64 u)).setCell ⟨gD, 4, none⟩ (.int .i64 M)) w.heap.size (.slice xk nk ck) 32 from box_five (HXK.out.on hb2) (by omega))
  replace HR := Lib.hid (show Ret.Blk ((((((w2).setCell ⟨gD, 0, none⟩ (.slice ya ma da)).setCell ⟨gD, 1, none⟩ (.slice yb mb db)).setCell ⟨gD, 2, none⟩ (.slice yc mc dc_)).setCell ⟨gD, 3, none⟩ (.int .i64 u)).setCell ⟨gD, 4, none⟩ (.int .i64 M)) (w.heap.size + 2) (dc (.slice none 0 0) (.slice none 0 0) (.slice none 0 0) 0 0) 34 from blk_five_other (HR.out.on hb2) (by omega))
  have HBW := Lib.hid (show Below (((w.alloc (.cells #[.slice xk nk ck] 32)).alloc (.cells #[.slice xn nn cn] 32)).alloc (.cells (#[.slice none 0 0, .slice none 0 0, .slice none 0 0, .int .i64 0, .int .i64 0]) 34)).heap.size (((w.alloc (.cells #[.slice xk nk ck] 32)).alloc (.cells #[.slice xn nn cn] 32)).alloc (.cells (#[.slice none 0 0, .slice none 0 0, .slice none 0 0, .int .i64 0, .int .i64 0]) 34)) ((((((w2).setCell ⟨gD, 0, none⟩ (.slice ya ma da)).setCell ⟨gD, 1, none⟩ (.slice yb mb db)).setCell ⟨gD, 2, none⟩ (.slice yc mc dc_)).setCell ⟨gD, 3, none⟩ (.int .i64 u)).setCell ⟨gD, 4, none⟩ (.int .i64 M)) from below_five hb2 hgd)
  have HSZ := Lib.hid (show w.heap.size + 3 ≤ ((((((w2).setCell ⟨gD, 0, none⟩ (.slice ya ma da)).setCell ⟨gD, 1, none⟩ (.slice yb mb db)).setCell ⟨gD, 2, none⟩ (.slice yc mc dc_)).setCell ⟨gD, 3, none⟩ (.int .i64 u)).setCell ⟨gD, 4, none⟩ (.int .i64 M)).heap.size from by have h1 := HBW.out.size; omega)
  replace HB := Lib.hid (HB.out.trans (HBW.out.mono (by omega)))
  replace HH := Lib.hid (HH.out.on HBW.out); replace HK := Lib.hid (HK.out.on HBW.out)
  clear hgd hxd hd hb2 hs0 hs2 hg3 HBW HS HN HBB HXN
  generalize ((((((w2).setCell ⟨gD, 0, none⟩ (.slice ya ma da)).setCell ⟨gD, 1, none⟩ (.slice yb mb db)).setCell ⟨gD, 2, none⟩ (.slice yc mc dc_)).setCell ⟨gD, 3, none⟩ (.int .i64 u)).setCell ⟨gD, 4, none⟩ (.int .i64 M)) = w3 at *
  have hxk := HXK.out.cell
  go_wp2_with fail
  refine (secV r HRR.out ⟨L, rfl, HH.out⟩ HK.out HL.out HT.out HKB.out).mono ?_
  rintro e w4 ⟨rfl, hb4⟩
  have HSZ4 := Lib.hid (show w.heap.size + 3 ≤ w4.heap.size from by have h1 := HSZ.out; have h2 := hb4.size; omega)
  replace HX := Lib.hid (HX.out.on hb4); replace HD := Lib.hid (HD.out.on hb4); replace HR := Lib.hid (HR.out.on hb4)
  replace HB := Lib.hid (HB.out.trans (hb4.mono HB.out.size))
  clear hb4 hxk HSZ HXK HH HK
  by_cases hr0 : r = 0
  · have ht : (r == 0) = true := by simpa using hr0
    have HOK := Lib.hid (sgOk_zero (n := ln) (b := lb) (u := u) HRR.out ht)
    clear hr0
    obtain ⟨r0, r1, r2, r3, r4⟩ := cells5 HR.out
    obtain ⟨t0, t1, t2, t3, t4⟩ := froz5 HR.out
    have Z1 := Lib.hid (show Ret.Blk ((((((w4).setCell ⟨w.heap.size + 2, 0, none⟩ (.slice none 0 0)).setCell ⟨w.heap.size + 2, 1, none⟩ (.slice none 0 0)).setCell ⟨w.heap.size + 2, 2, none⟩ (.slice none 0 0)).setCell ⟨w.heap.size + 2, 3, none⟩ (.int .i64 0)).setCell ⟨w.heap.size + 2, 4, none⟩ (.int .i64 0)) (w.heap.size + 2) (dc (.slice none 0 0) (.slice none 0 0) (.slice none 0 0) 0 0) 34 from blk_five HR.out)
    have Z2 := Lib.hid (show Below w.heap.size w ((((((w4).setCell ⟨w.heap.size + 2, 0, none⟩ (.slice none 0 0)).setCell ⟨w.heap.size + 2, 1, none⟩ (.slice none 0 0)).setCell ⟨w.heap.size + 2, 2, none⟩ (.slice none 0 0)).setCell ⟨w.heap.size + 2, 3, none⟩ (.int .i64 0)).setCell ⟨w.heap.size + 2, 4, none⟩ (.int .i64 0)) from below_five HB.out (by omega))
    clear HR
    go_wp2_with fail
    refine bodyPost_ret (Ret.results_ct rfl _ _ (w.heap.size + 2) (dc (.slice none 0 0) (.slice none 0 0) (.slice none 0 0) 0 0).toList rfl aggD Z1.out.cells) rfl ?_
    rw [HOK.out, sgK_no HOK.out]
    exact ⟨nil, nil, nil, rfl, dOwn_zero _ _, Z2.out⟩
  · have ht : (r == 0) = false := by simpa using hr0
    have HOKX := Lib.hid (sgOk_val HRR.out ht HM.out HZ.out)
    obtain ⟨s0, s1, s2, s3, s4⟩ := cells5 HX.out
    clear hr0
    go_wp2_with fail
    refine (specValidData _ _ _ (ln, lb, lk, u, M) _ HD.out.hold (Nat.le_trans HN1.out (by decide)) (Nat.le_trans HK1.out (by decide))).mono ?_
    rintro e w5 ⟨rfl, hb5⟩
    rw [HZ.out]
    replace HX := Lib.hid (HX.out.on hb5); replace HD := Lib.hid (HD.out.on hb5); replace HR := Lib.hid (HR.out.on hb5)
    replace HB := Lib.hid (HB.out.trans (hb5.mono HB.out.size))
    clear hb5 s0 s1 s2 s3 s4
    cases z with
    | false =>
      have HOK := Lib.hid HOKX.out.1
      obtain ⟨r0, r1, r2, r3, r4⟩ := cells5 HR.out
      obtain ⟨t0, t1, t2, t3, t4⟩ := froz5 HR.out
      have Z1 := Lib.hid (show Ret.Blk ((((((w5).setCell ⟨w.heap.size + 2, 0, none⟩ (.slice none 0 0)).setCell ⟨w.heap.size + 2, 1, none⟩ (.slice none 0 0)).setCell ⟨w.heap.size + 2, 2, none⟩ (.slice none 0 0)).setCell ⟨w.heap.size + 2, 3, none⟩ (.int .i64 0)).setCell ⟨w.heap.size + 2, 4, none⟩ (.int .i64 0)) (w.heap.size + 2) (dc (.slice none 0 0) (.slice none 0 0) (.slice none 0 0) 0 0) 34 from blk_five HR.out)
      have Z2 := Lib.hid (show Below w.heap.size w ((((((w5).setCell ⟨w.heap.size + 2, 0, none⟩ (.slice none 0 0)).setCell ⟨w.heap.size + 2, 1, none⟩ (.slice none 0 0)).setCell ⟨w.heap.size + 2, 2, none⟩ (.slice none 0 0)).setCell ⟨w.heap.size + 2, 3, none⟩ (.int .i64 0)).setCell ⟨w.heap.size + 2, 4, none⟩ (.int .i64 0)) from below_five HB.out (by omega))
      clear HR
      go_wp2_with fail
      refine bodyPost_ret (Ret.results_ct rfl _ _ (w.heap.size + 2) (dc (.slice none 0 0) (.slice none 0 0) (.slice none 0 0) 0 0).toList rfl aggD Z1.out.cells) rfl ?_
      rw [HOK.out, sgK_no HOK.out]
      exact ⟨nil, nil, nil, rfl, dOwn_zero _ _, Z2.out⟩
    | true =>
      have HOK := Lib.hid HOKX.out.1; have HSX := Lib.hid HOKX.out.2
      obtain ⟨r0, r1, r2, r3, r4⟩ := cells5 HR.out
      obtain ⟨t0, t1, t2, t3, t4⟩ := froz5 HR.out
      have Z1 := Lib.hid (show Ret.Blk ((((((w5).setCell ⟨w.heap.size + 2, 0, none⟩ (.slice ya ma da)).setCell ⟨w.heap.size + 2, 1, none⟩ (.slice yb mb db)).setCell ⟨w.heap.size + 2, 2, none⟩ (.slice yc mc dc_)).setCell ⟨w.heap.size + 2, 3, none⟩ (.int .i64 u)).setCell ⟨w.heap.size + 2, 4, none⟩ (.int .i64 M)) (w.heap.size + 2) (dc (.slice ya ma da) (.slice yb mb db) (.slice yc mc dc_) u M) 34 from blk_five HR.out)
      have Z2 := Lib.hid (show Below w.heap.size w ((((((w5).setCell ⟨w.heap.size + 2, 0, none⟩ (.slice ya ma da)).setCell ⟨w.heap.size + 2, 1, none⟩ (.slice yb mb db)).setCell ⟨w.heap.size + 2, 2, none⟩ (.slice yc mc dc_)).setCell ⟨w.heap.size + 2, 3, none⟩ (.int .i64 u)).setCell ⟨w.heap.size + 2, 4, none⟩ (.int .i64 M)) from below_five HB.out (by omega))
      have Z3 := Lib.hid (show DOwn w.heap.size ((((((w5).setCell ⟨w.heap.size + 2, 0, none⟩ (.slice ya ma da)).setCell ⟨w.heap.size + 2, 1, none⟩ (.slice yb mb db)).setCell ⟨w.heap.size + 2, 2, none⟩ (.slice yc mc dc_)).setCell ⟨w.heap.size + 2, 3, none⟩ (.int .i64 u)).setCell ⟨w.heap.size + 2, 4, none⟩ (.int .i64 M)) (.slice ya ma da) (.slice yb mb db) (.slice yc mc dc_) (ln, lb, lk, u, M) from HD.out.five HR.out)
      obtain ⟨s0, s1, s2, s3, s4⟩ := cells5 HX.out
      clear HR
      clear HX
      go_wp2_with fail
      refine bodyPost_ret (Ret.results_ct rfl _ _ (w.heap.size + 2) (dc (.slice ya ma da) (.slice yb mb db) (.slice yc mc dc_) u M).toList rfl aggD Z1.out.cells) rfl ?_
      rw [HOK.out, sgK_yes HOK.out, HSX.out]
      exact ⟨_, _, _, rfl, Z3.out, Z2.out⟩

end Go.Proofs.YtcidfmmeonhkhaaGreatDoor.Row.Ring
