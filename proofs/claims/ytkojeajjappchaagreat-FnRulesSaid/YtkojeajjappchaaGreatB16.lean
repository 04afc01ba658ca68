/- Contracts and mathematics, joined: DrawU4, RuleTop. No conditions but those that each states. -/
import Derived.Deep.Cut
import Derived.Test.YtkojeajjappchaaGreatB15
import Derived.Test.YtkojeajjappchaaGreatB10
import Derived.Test.YtkojeajjappchaaGreatB11
/- The model's draws of chapter 10 that its law uses. What was in memory stays as it was. -/
namespace Go.Proofs.YtkojeajjappchaaGreat.Ret
theorem results_ccc {P : Program} {fn : Func} {p q r : Tmp} {t1 t2 t3 : TypeId} (h : fn.results = #[.cell p t1, .cell q t2, .cell r t3]) (tmps : Array Value) (w : World) (g1 g2 g3 : Nat) (c1 c2 c3 : List Value) (hp : tmps.getD p undef = .pointer (some ⟨g1, 0, none⟩)) (hq : tmps.getD q undef = .pointer (some ⟨g2, 0, none⟩)) (hr : tmps.getD r undef = .pointer (some ⟨g3, 0, none⟩))
    (ha : AggOf P t1 c1.length) (hc : ∀ j v, c1[j]? = some v → w.cell? ⟨g1, j, none⟩ = some v) (hb : AggOf P t2 c2.length) (hd : ∀ j v, c2[j]? = some v → w.cell? ⟨g2, j, none⟩ = some v) (ha3 : AggOf P t3 c3.length) (hc3 : ∀ j v, c3[j]? = some v → w.cell? ⟨g3, j, none⟩ = some v) : (results fn tmps).run P w = .ok (.tuple #[.agg c1.toArray, .agg c2.toArray, .agg c3.toArray]) w := by
  have hp' : tmps[p]?.getD undef = .pointer (some ⟨g1, 0, none⟩) := by simpa using hp
  have hq' : tmps[q]?.getD undef = .pointer (some ⟨g2, 0, none⟩) := by simpa using hq
  have hr' : tmps[r]?.getD undef = .pointer (some ⟨g3, 0, none⟩) := by simpa using hr
  have hl := run_loadVar_cells (P := P) w g1 t1 c1 hc ha
  have hm := run_loadVar_cells (P := P) w g2 t2 c2 hd hb
  have hn := run_loadVar_cells (P := P) w g3 t3 c3 hc3 ha3
  simp [results, h, hp', hq', hr', asAddr, hl, hm, hn, Result.andThen]
theorem results_tcc {P : Program} {fn : Func} {p q a : Tmp} {t1 t2 : TypeId} (h : fn.results = #[.tmp a, .cell p t1, .cell q t2]) (tmps : Array Value) (w : World) (g1 g2 : Nat) (c1 c2 : List Value) (hp : tmps.getD p undef = .pointer (some ⟨g1, 0, none⟩)) (hq : tmps.getD q undef = .pointer (some ⟨g2, 0, none⟩))
    (ha : AggOf P t1 c1.length) (hc : ∀ j v, c1[j]? = some v → w.cell? ⟨g1, j, none⟩ = some v) (hb : AggOf P t2 c2.length) (hd : ∀ j v, c2[j]? = some v → w.cell? ⟨g2, j, none⟩ = some v) : (results fn tmps).run P w = .ok (.tuple #[tmps.getD a undef, .agg c1.toArray, .agg c2.toArray]) w := by
  have hp' : tmps[p]?.getD undef = .pointer (some ⟨g1, 0, none⟩) := by simpa using hp
  have hq' : tmps[q]?.getD undef = .pointer (some ⟨g2, 0, none⟩) := by simpa using hq
  have hl := run_loadVar_cells (P := P) w g1 t1 c1 hc ha
  have hm := run_loadVar_cells (P := P) w g2 t2 c2 hd hb
  simp [results, h, hp', hq', asAddr, hl, hm, Result.andThen]
end Go.Proofs.YtkojeajjappchaaGreat.Ret
namespace Go.Proofs.YtkojeajjappchaaGreat.Draw
open Go.ChangeShapes Go.WideShapes Go.ChangeAt Go.RowKit Go.Instr
open Go.Proofs.YtkojeajjappchaaGreat.Row (bulk bulk_append bulk_one bulk_nil bulk_cons HB Rlt Rlm kRl kLRl kN OwnK HoldsK wtRl Holds Elem)
open Go.Proofs.YtkojeajjappchaaGreat.Ret (NC Blk Box)
set_option linter.unusedVariables false
set_option maxRecDepth 100000

def QRNN (w : World) (e : Ending) (w' : World) : Prop := ∃ t n b U V X, e = .returned (.tuple #[U, V, X]) ∧ kRl.At w' U t ∧ wtRl t ≤ 2000 ∧ kN.At w' V n ∧ bulk n ≤ 1000 ∧ kN.At w' X b ∧ bulk b ≤ 1000 ∧ Below w.heap.size w w'
def QLNN (w : World) (e : Ending) (w' : World) : Prop := ∃ L n b U V X, e = .returned (.tuple #[U, V, X]) ∧ kLRl.At w' U L ∧ L.length ≤ 9 ∧ (∀ x ∈ L, wtRl x ≤ 2000) ∧ kN.At w' V n ∧ bulk n ≤ 1000 ∧ kN.At w' X b ∧ bulk b ≤ 1000 ∧ Below w.heap.size w w'
def QP10 (w : World) (e : Ending) (w' : World) : Prop := ∃ (L : List Rlm) (a b : List ByteArray) (xl y0 y1 : Option Addr) (nl cl m0 d0 m1 d1 : Nat), e = .returned (.tuple #[.slice xl nl cl, .agg #[.slice y0 m0 d0], .agg #[.slice y1 m1 d1]]) ∧ RL w.heap.size w' (.slice xl nl cl) L ∧ L.length ≤ 9 ∧ smR L ∧ HB w.heap.size w' (.slice y0 m0 d0) a ∧ bulk a ≤ 1000 ∧ HB w.heap.size w' (.slice y1 m1 d1) b ∧ bulk b ≤ 1000 ∧ Below w.heap.size w w'
def QRR (w : World) (e : Ending) (w' : World) : Prop := ∃ t u U V, e = .returned (.tuple #[U, V]) ∧ kRl.At w' U t ∧ wtRl t ≤ 2000 ∧ kRl.At w' V u ∧ wtRl u ≤ 2000 ∧ Below w.heap.size w w'
def QR (w : World) (e : Ending) (w' : World) : Prop := ∃ t U, e = .returned U ∧ kRl.At w' U t ∧ wtRl t ≤ 2000 ∧ Below w.heap.size w w'
def QS10 (w : World) (e : Ending) (w' : World) : Prop := ∃ s : ByteArray, e = .returned (.string s) ∧ s.size ≤ 100000 ∧ Below w.heap.size w w'
theorem fmt_sizeR (m : List ByteArray) : (Row.fmtS m).size ≤ bulk m + 1 := by
  unfold Row.fmtS Row.fmtL
  rw [Row.mk_size]
  have := Row.join_size m
  simp; omega
theorem fmtR_size (x : Rlt) : (Row.fmtR x).size ≤ wtRl x + 5 := by
  unfold Row.fmtR wtRl
  rw [ByteArray.size_append, ByteArray.size_append]
  have h1 := fmt_sizeR x.1
  have h2 := fmt_sizeR x.2
  have h3 : ({ data := #[32, 60, 32] } : ByteArray).size = 3 := rfl
  omega
theorem hb_at {B : Nat} {w : World} {v : Value} {m : List ByteArray} (h : HB B w v m) : kN.At w (.agg #[v]) m := Row.kN_of h.holds
theorem ownk_setU {α : Type} {enc : α → List Value} {sz : Nat} {e t : TypeId} {B g i : Nat} {w : World} {v u : Value} {L : List α} {cs : Array Value} (h : OwnK e enc sz B w v L) (hb : Blk w g cs t) (hne : e ≠ t) : OwnK e enc sz B (w.setCell ⟨g, i, none⟩ u) v L :=
  h.grown (Ret.grownBy_set w ⟨g, i, none⟩ u) (by
    rcases h.2 with ⟨rfl, _⟩ | ⟨g2, cap, cur, rfl, _, hh, _⟩
    · exact Or.inl rfl
    · refine Or.inr fun e1 => ?_
      have e2 : g2 = g := by simpa [Value.ownBlock] using e1
      rw [e2, show w.heap[g]? = some (.cells cs t) from hb] at hh
      cases hh
      exact hne rfl)
theorem RL.setT {B g i : Nat} {w : World} {v u : Value} {L : List Rlm} {cs : Array Value} {t : TypeId} (h : RL B w v L) (hb : Blk w g cs t) (h1 : 28 ≠ t) (h2 : t ≠ 9) : RL B (w.setCell ⟨g, i, none⟩ u) v L := ⟨ownk_setU h.1 hb h1, fun x hx => ⟨(h.2 x hx).1.setT hb h2, (h.2 x hx).2.setT hb h2⟩⟩
theorem wt_two {x : Rlt} (h1 : bulk x.1 ≤ 1000) (h2 : bulk x.2 ≤ 1000) : wtRl x ≤ 2000 := by unfold wtRl; omega
theorem smR_wt {L : List Rlm} (h : smR L) : ∀ x ∈ L.map kRl.strip, wtRl x ≤ 2000 := fun x hx => by
  obtain ⟨m, hm, rfl⟩ := List.mem_map.1 hx
  have e1 : kRl.strip m = (m.1.els, m.2.els) := by simp [kRl, Row.Kd.pair, kN, Row.Kd.wrap, Row.kNm, Row.Kd.slice, Row.kStr, Row.Kd.scalar]
  rw [e1]
  exact wt_two (h m hm).1 (h m hm).2
/-- Two names' blocks are written behind one another: what lies elsewhere stays. -/
theorem blk_two1 {W : World} {g1 g2 h : Nat} {cs : Array Value} {t : TypeId} {u1 u2 : Value} (hb : Blk W h cs t) (n1 : g1 ≠ h) (n2 : g2 ≠ h) : Blk ((W.setCell ⟨g1, 0, none⟩ u1).setCell ⟨g2, 0, none⟩ u2) h cs t := (hb.other (a := ⟨g1, 0, none⟩) n1 u1).other (a := ⟨g2, 0, none⟩) n2 u2
theorem blk_two2 {W : World} {g h : Nat} {cs : Array Value} {t : TypeId} {u1 u2 : Value} (hb : Blk W h cs t) (n1 : g ≠ h) : Blk ((W.setCell ⟨g, 0, none⟩ u1).setCell ⟨g, 1, none⟩ u2) h cs t := (hb.other (a := ⟨g, 0, none⟩) n1 u1).other (a := ⟨g, 1, none⟩) n1 u2


set_option maxHeartbeats 8000000 in
theorem dDrawRuleAllows (w : World) (v : Value) (l : List UInt8) (hb : Frame.Bytes w v l) :
    Calls Tryz.prog 5 #[v] w (QRNN w) := by
  have ha0 : Below w.heap.size w (w.alloc (.cells #[.slice none 0 0, .slice none 0 0] 28)) := (Below.refl _ _).alloc (Nat.le_refl _) _
  have R0 := Lib.hid (Blk.new' (w := w) (n := w.heap.size) #[.slice none 0 0, .slice none 0 0] 28 (by rfl))
  have ha1 : Below w.heap.size w ((w.alloc (.cells #[.slice none 0 0, .slice none 0 0] 28)).alloc (.cells #[.slice none 0 0] 29)) := ha0.alloc (by simp only [World.size_alloc]; omega) _
  replace R0 := Lib.hid (R0.out.on ((Below.refl (w.alloc (.cells #[.slice none 0 0, .slice none 0 0] 28)).heap.size (w.alloc (.cells #[.slice none 0 0, .slice none 0 0] 28))).alloc (Nat.le_refl _) (.cells #[.slice none 0 0] 29)))
  have R1 := Lib.hid (Blk.new' (w := (w.alloc (.cells #[.slice none 0 0, .slice none 0 0] 28))) (n := w.heap.size + 1) #[.slice none 0 0] 29 (by simp))
  have ha2 : Below w.heap.size w (((w.alloc (.cells #[.slice none 0 0, .slice none 0 0] 28)).alloc (.cells #[.slice none 0 0] 29)).alloc (.cells #[.slice none 0 0] 29)) := ha1.alloc (by simp only [World.size_alloc]; omega) _
  replace R0 := Lib.hid (R0.out.on ((Below.refl ((w.alloc (.cells #[.slice none 0 0, .slice none 0 0] 28)).alloc (.cells #[.slice none 0 0] 29)).heap.size ((w.alloc (.cells #[.slice none 0 0, .slice none 0 0] 28)).alloc (.cells #[.slice none 0 0] 29))).alloc (Nat.le_refl _) (.cells #[.slice none 0 0] 29)))
  replace R1 := Lib.hid (R1.out.on ((Below.refl ((w.alloc (.cells #[.slice none 0 0, .slice none 0 0] 28)).alloc (.cells #[.slice none 0 0] 29)).heap.size ((w.alloc (.cells #[.slice none 0 0, .slice none 0 0] 28)).alloc (.cells #[.slice none 0 0] 29))).alloc (Nat.le_refl _) (.cells #[.slice none 0 0] 29)))
  have R2 := Lib.hid (Blk.new' (w := ((w.alloc (.cells #[.slice none 0 0, .slice none 0 0] 28)).alloc (.cells #[.slice none 0 0] 29))) (n := w.heap.size + 1 + 1) #[.slice none 0 0] 29 (by simp))
  have HAL := Lib.hid ha2
  have HN := Lib.hid (new (((w.alloc (.cells #[.slice none 0 0, .slice none 0 0] 28)).alloc (.cells #[.slice none 0 0] 29)).alloc (.cells #[.slice none 0 0] 29)) v l (hb.on ha2)); clear hb ha0 ha1 ha2
  go_enter Tryz.func5, Tryz.ntmps5
  go_wp2_with fail
  refine HN.out.mono ?_
  rintro e w1 ⟨rfl, hc⟩
  have hpz := hc.lt
  simp only [World.size_alloc] at hc hpz
  replace R0 := Lib.hid (R0.out.on hc.below)
  replace R1 := Lib.hid (R1.out.on hc.below)
  replace R2 := Lib.hid (R2.out.on hc.below)
  have HD := Lib.hid (l10One _ _ v l w1 hc); clear hc
  go_wp2_with fail
  refine HD.out.mono ?_
  rintro e w2 ⟨U, rfl, ⟨x0, x1, n0, c0, n1, c1, x, rfl, hx, q1, q2⟩, hc2, hk2⟩
  have hz2 := hk2.size
  have hal := (Below.refl w2.heap.size w2).alloc (Nat.le_refl _) (.cells #[.slice x0 n0 c0, .slice x1 n1 c1] 28)
  replace R0 := Lib.hid ((blk_keep R0.out hk2 (by omega)).on hal)
  replace R1 := Lib.hid ((blk_keep R1.out hk2 (by omega)).on hal)
  replace R2 := Lib.hid ((blk_keep R2.out hk2 (by omega)).on hal)
  have HX := Lib.hid ((hx.mono (B' := w.heap.size + 1 + 1 + 1 + 1) (by omega)).on hal)
  have X6 := Lib.hid (Blk.new w2 #[.slice x0 n0 c0, .slice x1 n1 c1] 28)
  have HC := Lib.hid (hc2.on hal)
  have hpB : w.heap.size + 1 + 1 + 1 < w.heap.size + 1 + 1 + 1 + 1 := by omega
  clear hx hal hc2 hk2 HD
  have HD := Lib.hid (l10Names _ _ v l _ HC.out)
  go_wp2_with fail
  refine HD.out.mono ?_
  rintro e w3 ⟨V, rfl, ⟨y0, y1, m0, d0, m1, d1, a, b, rfl, ha, hb, qa, qb⟩, hc3, hk3⟩
  have hz3 := hk3.size
  (try simp only [World.size_alloc] at hz3)
  have hb7 := (Below.refl w3.heap.size w3).alloc (Nat.le_refl _) (.cells #[.slice y0 m0 d0] 29)
  have hb8 := (Below.refl (w3.alloc (.cells #[.slice y0 m0 d0] 29)).heap.size (w3.alloc (.cells #[.slice y0 m0 d0] 29))).alloc (Nat.le_refl _) (.cells #[.slice y1 m1 d1] 29)
  replace R0 := Lib.hid (((blk_keep R0.out hk3 (by omega)).on hb7).on hb8)
  replace R1 := Lib.hid (((blk_keep R1.out hk3 (by omega)).on hb7).on hb8)
  replace R2 := Lib.hid (((blk_keep R2.out hk3 (by omega)).on hb7).on hb8)
  replace HX := Lib.hid (((HX.out.keep hk3 hpB).on hb7).on hb8)
  replace X6 := Lib.hid (((blk_keep X6.out hk3 (by omega)).on hb7).on hb8)
  have HA := Lib.hid ((ha.on hb7).on hb8); have HB9 := Lib.hid ((hb.on hb7).on hb8)
  have X7 := Lib.hid ((Blk.new w3 #[.slice y0 m0 d0] 29).on hb8); have X8 := Lib.hid (Blk.new' (w := w3.alloc (.cells #[.slice y0 m0 d0] 29)) (n := w3.heap.size + 1) #[.slice y1 m1 d1] 29 (by simp))
  have HBW := Lib.hid (HAL.out.trans ((((hc3.on hb7).on hb8).below).mono HAL.out.size))
  clear ha hb hb7 hb8 hc3 hk3 HD HC
  obtain ⟨W, hW⟩ : ∃ W, ((w3.alloc (.cells #[.slice y0 m0 d0] 29)).alloc (.cells #[.slice y1 m1 d1] 29)) = W := ⟨_, rfl⟩
  have l0 : ((w3.alloc (.cells #[.slice y0 m0 d0] 29)).alloc (.cells #[.slice y1 m1 d1] 29)).cell? ⟨w2.heap.size, 0, none⟩ = some (.slice x0 n0 c0) := X6.out.cell 0; have l1 : ((w3.alloc (.cells #[.slice y0 m0 d0] 29)).alloc (.cells #[.slice y1 m1 d1] 29)).cell? ⟨w2.heap.size, 1, none⟩ = some (.slice x1 n1 c1) := X6.out.cell 1
  have l2 : ((w3.alloc (.cells #[.slice y0 m0 d0] 29)).alloc (.cells #[.slice y1 m1 d1] 29)).cell? ⟨w3.heap.size, 0, none⟩ = some (.slice y0 m0 d0) := X7.out.cell 0; have l3 : ((w3.alloc (.cells #[.slice y0 m0 d0] 29)).alloc (.cells #[.slice y1 m1 d1] 29)).cell? ⟨w3.heap.size + 1, 0, none⟩ = some (.slice y1 m1 d1) := X8.out.cell 0
  have r0 : ((w3.alloc (.cells #[.slice y0 m0 d0] 29)).alloc (.cells #[.slice y1 m1 d1] 29)).cell? ⟨w.heap.size, 0, none⟩ = some (.slice none 0 0) := R0.out.cell 0; have r1 : ((w3.alloc (.cells #[.slice y0 m0 d0] 29)).alloc (.cells #[.slice y1 m1 d1] 29)).cell? ⟨w.heap.size, 1, none⟩ = some (.slice none 0 0) := R0.out.cell 1
  have r2 : ((w3.alloc (.cells #[.slice y0 m0 d0] 29)).alloc (.cells #[.slice y1 m1 d1] 29)).cell? ⟨w.heap.size + 1, 0, none⟩ = some (.slice none 0 0) := R1.out.cell 0; have r3 : ((w3.alloc (.cells #[.slice y0 m0 d0] 29)).alloc (.cells #[.slice y1 m1 d1] 29)).cell? ⟨w.heap.size + 1 + 1, 0, none⟩ = some (.slice none 0 0) := R2.out.cell 0
  have t0 := R0.out.frozen 0; have t1 := R0.out.frozen 1; have t2 := R1.out.frozen 0; have t3 := R2.out.frozen 0
  rw [hW] at l0 l1 l2 l3 r0 r1 r2 r3 t0 t1 t2 t3 R0 R1 R2 HX HA HB9 HBW
  clear X6 X7 X8
  have HWW := Lib.hid hW; clear hW
  go_upto_region 4 with fail
  rw [HWW.out]
  have K1 := R0.out.set 0 (.slice x0 n0 c0)
  have K2 := K1.set 1 (.slice x1 n1 c1)
  have S1 := blk_two2 (u1 := .slice x0 n0 c0) (u2 := .slice x1 n1 c1) R1.out (g := w.heap.size) (by omega)
  have S2 := blk_two2 (u1 := .slice x0 n0 c0) (u2 := .slice x1 n1 c1) R2.out (g := w.heap.size) (by omega)
  have S3 := S2.other (a := ⟨w.heap.size + 1, 0, none⟩) (show w.heap.size + 1 ≠ w.heap.size + 1 + 1 by omega) (.slice y0 m0 d0)
  have Z0 := Lib.hid (blk_two1 (g1 := w.heap.size + 1) (g2 := w.heap.size + 1 + 1) (u1 := .slice y0 m0 d0) (u2 := .slice y1 m1 d1) K2 (by omega) (by omega))
  have Z1 := Lib.hid ((S1.set 0 (.slice y0 m0 d0)).other (a := ⟨w.heap.size + 1 + 1, 0, none⟩) (show w.heap.size + 1 + 1 ≠ w.heap.size + 1 by omega) (.slice y1 m1 d1))
  have Z2 := Lib.hid (S3.set 0 (.slice y1 m1 d1))
  have ZX := Lib.hid ((((HX.out.setT (i := 0) (u := .slice x0 n0 c0) R0.out (by decide)).setT (i := 1) (u := .slice x1 n1 c1) K1 (by decide)).setT (i := 0) (u := .slice y0 m0 d0) S1 (by decide)).setT (i := 0) (u := .slice y1 m1 d1) S3 (by decide))
  have ZA := Lib.hid ((((HA.out.setT (i := 0) (u := .slice x0 n0 c0) R0.out (by decide)).setT (i := 1) (u := .slice x1 n1 c1) K1 (by decide)).setT (i := 0) (u := .slice y0 m0 d0) S1 (by decide)).setT (i := 0) (u := .slice y1 m1 d1) S3 (by decide))
  have ZB := Lib.hid ((((HB9.out.setT (i := 0) (u := .slice x0 n0 c0) R0.out (by decide)).setT (i := 1) (u := .slice x1 n1 c1) K1 (by decide)).setT (i := 0) (u := .slice y0 m0 d0) S1 (by decide)).setT (i := 0) (u := .slice y1 m1 d1) S3 (by decide))
  have ZW := Lib.hid ((((HBW.out.setCell (p := ⟨w.heap.size, 0, none⟩) (Nat.le_refl _) (.slice x0 n0 c0)).setCell (p := ⟨w.heap.size, 1, none⟩) (Nat.le_refl _) (.slice x1 n1 c1)).setCell (p := ⟨w.heap.size + 1, 0, none⟩) (by dsimp only; omega) (.slice y0 m0 d0)).setCell (p := ⟨w.heap.size + 1 + 1, 0, none⟩) (by dsimp only; omega) (.slice y1 m1 d1))
  clear K1 K2 S1 S2 S3 R0 R1 R2 HX HA HB9 HBW
  have HDW := Lib.hid (show ∀ w' : World, Below w'.heap.size w' w'.drew from fun w' => (Below.refl _ _).drew)
  go_region
  all_goals
    clear l0 l1 l2 l3
    go_wp2_with fail
    refine bodyPost_ret (Ret.results_ccc rfl _ _ w.heap.size (w.heap.size + 1) (w.heap.size + 1 + 1) [.slice x0 n0 c0, .slice x1 n1 c1] [.slice y0 m0 d0] [.slice y1 m1 d1] rfl rfl rfl Row.aggRl Z0.out.cells Row.aggN Z1.out.cells Row.aggN Z2.out.cells) rfl ?_
    exact ⟨x, a, b, _, _, _, rfl, (ZX.out.on (HDW.out _)).at, wt_two q1 q2, hb_at (ZA.out.on (HDW.out _)), qa, hb_at (ZB.out.on (HDW.out _)), qb, ZW.out.trans ((HDW.out _).mono ZW.out.size)⟩

set_option maxHeartbeats 8000000 in
theorem l10PairC (w : World) (v : Value) (l : List UInt8) (hb : Frame.Bytes w v l) :
    Calls Tryz.prog 29 #[v] w (QP10 w) := by
  have ha0 : Below w.heap.size w (w.alloc (.cells #[.slice none 0 0] 29)) := (Below.refl _ _).alloc (Nat.le_refl _) _
  have R0 := Lib.hid (Blk.new' (w := w) (n := w.heap.size) #[.slice none 0 0] 29 (by rfl))
  have ha1 : Below w.heap.size w ((w.alloc (.cells #[.slice none 0 0] 29)).alloc (.cells #[.slice none 0 0] 29)) := ha0.alloc (by simp only [World.size_alloc]; omega) _
  replace R0 := Lib.hid (R0.out.on ((Below.refl (w.alloc (.cells #[.slice none 0 0] 29)).heap.size (w.alloc (.cells #[.slice none 0 0] 29))).alloc (Nat.le_refl _) (.cells #[.slice none 0 0] 29)))
  have R1 := Lib.hid (Blk.new' (w := (w.alloc (.cells #[.slice none 0 0] 29))) (n := w.heap.size + 1) #[.slice none 0 0] 29 (by simp))
  have HAL := Lib.hid ha1
  have HN := Lib.hid (new ((w.alloc (.cells #[.slice none 0 0] 29)).alloc (.cells #[.slice none 0 0] 29)) v l (hb.on ha1)); clear hb ha0 ha1
  go_enter Tryz.func29, Tryz.ntmps29
  go_wp2_with fail
  refine HN.out.mono ?_
  rintro e w1 ⟨rfl, hc⟩
  have hpz := hc.lt
  simp only [World.size_alloc] at hc hpz
  replace R0 := Lib.hid (R0.out.on hc.below)
  replace R1 := Lib.hid (R1.out.on hc.below)
  have HD := Lib.hid (l10Any _ _ v l w1 hc); clear hc
  go_wp2_with fail
  refine HD.out.mono ?_
  rintro e w2 ⟨U, rfl, ⟨L, hx, hL, hs⟩, hc2, hk2⟩
  obtain ⟨xl, nl, cl, rfl, -, -, hx⟩ := hx.shapeN
  have hz2 := hk2.size
  replace R0 := Lib.hid (blk_keep R0.out hk2 (by omega))
  replace R1 := Lib.hid (blk_keep R1.out hk2 (by omega))
  have HX := Lib.hid (hx.mono (B' := w.heap.size + 1 + 1 + 1) (by omega))
  have HC := Lib.hid hc2
  have HSM := Lib.hid hs
  have hpB : w.heap.size + 1 + 1 < w.heap.size + 1 + 1 + 1 := by omega
  clear hx hc2 hk2 hs HD
  have HD := Lib.hid (l10Names _ _ v l _ HC.out)
  go_wp2_with fail
  refine HD.out.mono ?_
  rintro e w3 ⟨V, rfl, ⟨y0, y1, m0, d0, m1, d1, a, b, rfl, ha, hb, qa, qb⟩, hc3, hk3⟩
  have hz3 := hk3.size
  (try simp only [World.size_alloc] at hz3)
  have hb7 := (Below.refl w3.heap.size w3).alloc (Nat.le_refl _) (.cells #[.slice y0 m0 d0] 29)
  have hb8 := (Below.refl (w3.alloc (.cells #[.slice y0 m0 d0] 29)).heap.size (w3.alloc (.cells #[.slice y0 m0 d0] 29))).alloc (Nat.le_refl _) (.cells #[.slice y1 m1 d1] 29)
  replace R0 := Lib.hid (((blk_keep R0.out hk3 (by omega)).on hb7).on hb8)
  replace R1 := Lib.hid (((blk_keep R1.out hk3 (by omega)).on hb7).on hb8)
  replace HX := Lib.hid (((HX.out.keep hk3 hpB).on hb7).on hb8)
  have HA := Lib.hid ((ha.on hb7).on hb8); have HB9 := Lib.hid ((hb.on hb7).on hb8)
  have X7 := Lib.hid ((Blk.new w3 #[.slice y0 m0 d0] 29).on hb8); have X8 := Lib.hid (Blk.new' (w := w3.alloc (.cells #[.slice y0 m0 d0] 29)) (n := w3.heap.size + 1) #[.slice y1 m1 d1] 29 (by simp))
  have HBW := Lib.hid (HAL.out.trans ((((hc3.on hb7).on hb8).below).mono HAL.out.size))
  clear ha hb hb7 hb8 hc3 hk3 HD HC
  obtain ⟨W, hW⟩ : ∃ W, ((w3.alloc (.cells #[.slice y0 m0 d0] 29)).alloc (.cells #[.slice y1 m1 d1] 29)) = W := ⟨_, rfl⟩
  have l2 : ((w3.alloc (.cells #[.slice y0 m0 d0] 29)).alloc (.cells #[.slice y1 m1 d1] 29)).cell? ⟨w3.heap.size, 0, none⟩ = some (.slice y0 m0 d0) := X7.out.cell 0; have l3 : ((w3.alloc (.cells #[.slice y0 m0 d0] 29)).alloc (.cells #[.slice y1 m1 d1] 29)).cell? ⟨w3.heap.size + 1, 0, none⟩ = some (.slice y1 m1 d1) := X8.out.cell 0
  have r2 : ((w3.alloc (.cells #[.slice y0 m0 d0] 29)).alloc (.cells #[.slice y1 m1 d1] 29)).cell? ⟨w.heap.size, 0, none⟩ = some (.slice none 0 0) := R0.out.cell 0; have r3 : ((w3.alloc (.cells #[.slice y0 m0 d0] 29)).alloc (.cells #[.slice y1 m1 d1] 29)).cell? ⟨w.heap.size + 1, 0, none⟩ = some (.slice none 0 0) := R1.out.cell 0
  have t2 := R0.out.frozen 0; have t3 := R1.out.frozen 0
  rw [hW] at l2 l3 r2 r3 t2 t3 R0 R1 HX HA HB9 HBW
  clear X7 X8
  have HWW := Lib.hid hW; clear hW
  go_upto_region 4 with fail
  rw [HWW.out]
  have S3 := R1.out.other (a := ⟨w.heap.size, 0, none⟩) (show w.heap.size ≠ w.heap.size + 1 by omega) (.slice y0 m0 d0)
  have Z1 := Lib.hid ((R0.out.set 0 (.slice y0 m0 d0)).other (a := ⟨w.heap.size + 1, 0, none⟩) (show w.heap.size + 1 ≠ w.heap.size by omega) (.slice y1 m1 d1))
  have Z2 := Lib.hid (S3.set 0 (.slice y1 m1 d1))
  have ZX := Lib.hid ((HX.out.setT (i := 0) (u := .slice y0 m0 d0) R0.out (by decide) (by decide)).setT (i := 0) (u := .slice y1 m1 d1) S3 (by decide) (by decide))
  have ZA := Lib.hid ((HA.out.setT (i := 0) (u := .slice y0 m0 d0) R0.out (by decide)).setT (i := 0) (u := .slice y1 m1 d1) S3 (by decide))
  have ZB := Lib.hid ((HB9.out.setT (i := 0) (u := .slice y0 m0 d0) R0.out (by decide)).setT (i := 0) (u := .slice y1 m1 d1) S3 (by decide))
  have ZW := Lib.hid ((HBW.out.setCell (p := ⟨w.heap.size, 0, none⟩) (Nat.le_refl _) (.slice y0 m0 d0)).setCell (p := ⟨w.heap.size + 1, 0, none⟩) (by dsimp only; omega) (.slice y1 m1 d1))
  clear S3 R0 R1 HX HA HB9 HBW
  have HDW := Lib.hid (show ∀ w' : World, Below w'.heap.size w' w'.drew from fun w' => (Below.refl _ _).drew)
  go_region
  all_goals
    clear l2 l3
    go_wp2_with fail
    refine bodyPost_ret (Ret.results_tcc rfl _ _ w.heap.size (w.heap.size + 1) [.slice y0 m0 d0] [.slice y1 m1 d1] rfl rfl Row.aggN Z1.out.cells Row.aggN Z2.out.cells) rfl ?_
    exact ⟨L, a, b, _, _, _, _, _, _, _, _, _, rfl, (ZX.out.on (HDW.out _)).mono (by omega), hL, HSM.out, (ZA.out.on (HDW.out _)).mono (by omega), qa, (ZB.out.on (HDW.out _)).mono (by omega), qb, ZW.out.trans ((HDW.out _).mono ZW.out.size)⟩

set_option maxHeartbeats 8000000 in
theorem dDrawAllowed (w : World) (v : Value) (l : List UInt8) (hb : Frame.Bytes w v l) :
    Calls Tryz.prog 6 #[v] w (QLNN w) := by
  have ha0 : Below w.heap.size w (w.alloc (.cells #[.slice none 0 0] 29)) := (Below.refl _ _).alloc (Nat.le_refl _) _
  have R0 := Lib.hid ((Blk.new w #[.slice none 0 0] 29).on ((Below.refl (w.alloc (.cells #[.slice none 0 0] 29)).heap.size _).alloc (Nat.le_refl _) (.cells #[.slice none 0 0] 29)))
  have R1 := Lib.hid (Blk.new' (w := w.alloc (.cells #[.slice none 0 0] 29)) (n := w.heap.size + 1) #[.slice none 0 0] 29 (by simp))
  have ha1 : Below w.heap.size w ((w.alloc (.cells #[.slice none 0 0] 29)).alloc (.cells #[.slice none 0 0] 29)) := ha0.alloc (by simp) _
  have HAL := Lib.hid ha1
  have HD := Lib.hid (l10PairC _ v l (hb.on ha1)); clear hb ha0 ha1
  go_enter Tryz.func6, Tryz.ntmps6
  go_wp2_with fail
  refine HD.out.mono ?_
  rintro e w1 ⟨L, n, b, xl, xn, xb, nl, cl, nn, cn, nb, cb, rfl, hl, hL, hs, hn, qn, hb, qb, hbw⟩
  replace R0 := Lib.hid (R0.out.on hbw); replace R1 := Lib.hid (R1.out.on hbw)
  have HL := Lib.hid hl; have HN := Lib.hid hn; have HX := Lib.hid hb; have HS := Lib.hid hs
  have HBW := Lib.hid (HAL.out.trans (hbw.mono HAL.out.size))
  clear hl hn hb hbw hs HD
  have r2 := R0.out.cell 0; have r3 := R1.out.cell 0; have t2 := R0.out.frozen 0; have t3 := R1.out.frozen 0
  dsimp at r2 r3
  have Z1 := Lib.hid ((R0.out.set 0 (.slice xn nn cn)).other (a := ⟨w.heap.size + 1, 0, none⟩) (show w.heap.size + 1 ≠ w.heap.size by omega) (.slice xb nb cb))
  have S3 := Lib.hid (R1.out.other (a := ⟨w.heap.size, 0, none⟩) (show w.heap.size ≠ w.heap.size + 1 by omega) (.slice xn nn cn))
  have Z2 := Lib.hid (S3.out.set 0 (.slice xb nb cb))
  have ZL := Lib.hid ((HL.out.setT (i := 0) (u := .slice xn nn cn) R0.out (by decide) (by decide)).setT (i := 0) (u := .slice xb nb cb) S3.out (by decide) (by decide))
  have ZN := Lib.hid ((HN.out.setT (i := 0) (u := .slice xn nn cn) R0.out (by decide)).setT (i := 0) (u := .slice xb nb cb) S3.out (by decide))
  have ZB := Lib.hid ((HX.out.setT (i := 0) (u := .slice xn nn cn) R0.out (by decide)).setT (i := 0) (u := .slice xb nb cb) S3.out (by decide))
  have ZW := Lib.hid ((HBW.out.setCell (p := ⟨w.heap.size, 0, none⟩) (Nat.le_refl _) (.slice xn nn cn)).setCell (p := ⟨w.heap.size + 1, 0, none⟩) (by dsimp only; omega) (.slice xb nb cb))
  go_wp2_with fail
  refine bodyPost_ret (Ret.results_tcc rfl _ _ w.heap.size (w.heap.size + 1) [.slice xn nn cn] [.slice xb nb cb] rfl rfl Row.aggN Z1.out.cells Row.aggN Z2.out.cells) rfl ?_
  exact ⟨_, n, b, _, _, _, rfl, ZL.out.at, by rw [List.length_map]; exact hL, smR_wt HS.out, hb_at ZN.out, qn, hb_at ZB.out, qb, ZW.out⟩

set_option maxHeartbeats 8000000 in
theorem dDrawFormatRule (w : World) (v : Value) (l : List UInt8) (hb : Frame.Bytes w v l) :
    Calls Tryz.prog 10 #[v] w (QR w) := by
  have ha0 : Below w.heap.size w (w.alloc (.cells #[.slice none 0 0, .slice none 0 0] 28)) := (Below.refl _ _).alloc (Nat.le_refl _) _
  have R0 := Lib.hid (Blk.new' (w := w) (n := w.heap.size) #[.slice none 0 0, .slice none 0 0] 28 (by rfl))
  have HAL := Lib.hid ha0
  have HN := Lib.hid (new (w.alloc (.cells #[.slice none 0 0, .slice none 0 0] 28)) v l (hb.on ha0)); clear hb ha0
  go_enter Tryz.func10, Tryz.ntmps10
  go_wp2_with fail
  refine HN.out.mono ?_
  rintro e w1 ⟨rfl, hc⟩
  have hpz := hc.lt
  simp only [World.size_alloc] at hc hpz
  replace R0 := Lib.hid (R0.out.on hc.below)
  have HD := Lib.hid (l10One _ _ v l w1 hc); clear hc
  go_wp2_with fail
  refine HD.out.mono ?_
  rintro e w2 ⟨U, rfl, ⟨x0, x1, n0, c0, n1, c1, x, rfl, hx, q1, q2⟩, hc2, hk2⟩
  replace R0 := Lib.hid (blk_keep R0.out hk2 (by omega))
  have HX := Lib.hid hx; have HBW := Lib.hid (HAL.out.trans (hc2.below.mono HAL.out.size))
  clear hx hc2 hk2 HD
  have r0 : w2.cell? ⟨w.heap.size, 0, none⟩ = some (.slice none 0 0) := R0.out.cell 0; have r1 : w2.cell? ⟨w.heap.size, 1, none⟩ = some (.slice none 0 0) := R0.out.cell 1; have t0 := R0.out.frozen 0; have t1 := R0.out.frozen 1
  have Z0 := Lib.hid ((R0.out.set 0 (.slice x0 n0 c0)).set 1 (.slice x1 n1 c1))
  have ZX := Lib.hid (HX.out.set2 (a := .slice x0 n0 c0) (b := .slice x1 n1 c1) R0.out (by decide))
  have ZW := Lib.hid ((HBW.out.setCell (p := ⟨w.heap.size, 0, none⟩) (Nat.le_refl _) (.slice x0 n0 c0)).setCell (p := ⟨w.heap.size, 1, none⟩) (Nat.le_refl _) (.slice x1 n1 c1))
  go_wp2_with fail
  refine bodyPost_ret (Ret.results_c rfl _ _ w.heap.size [.slice x0 n0 c0, .slice x1 n1 c1] rfl Row.aggRl Z0.out.cells) rfl ?_
  exact ⟨x, _, rfl, ZX.out.at, wt_two q1 q2, ZW.out⟩

set_option maxHeartbeats 8000000 in
theorem dDrawParseRule (w : World) (v : Value) (l : List UInt8) (hb : Frame.Bytes w v l) :
    Calls Tryz.prog 7 #[v] w (QS10 w) := by
  have HN := Lib.hid (new w v l hb); clear hb
  go_enter Tryz.func7, Tryz.ntmps7
  go_wp2_with fail
  refine HN.out.mono ?_
  rintro e w1 ⟨rfl, hc⟩
  have HD := Lib.hid (once w w.heap.size v l w1 3 hc); clear hc
  go_wp2_with fail
  refine HD.out.mono ?_
  rintro e w2 ⟨y, rfl, ⟨b, rfl⟩, hc, hk⟩
  clear hk HD
  cases b
  · have HD := Lib.hid (l10One w w.heap.size v l w2 hc); clear hc
    go_wp2_with fail
    refine HD.out.mono ?_
    rintro e w3 ⟨U, rfl, ⟨x0, x1, n0, c0, n1, c1, x, rfl, hx, q1, q2⟩, hc, hk⟩
    have HC := Lib.hid hc; have HX := Lib.hid hx; clear hc hk hx HD
    have hwt := wt_two q1 q2
    go_wp2_with fail
    refine (Row.specFormatRule _ x _ HX.out.at (by omega)).mono ?_
    rintro e w4 ⟨rfl, hb⟩
    have HB := Lib.hid (HC.out.below.trans (hb.mono HC.out.below.size)); clear hb
    have hz := fmtR_size x
    go_wp2_with fail
    go_ret
    exact ⟨_, rfl, by omega, HB.out⟩
  · have HD := Lib.hid (strLit2 w w.heap.size v l w2 hc [{ data := #[] }, { data := #[47, 97, 32, 60, 32] }, { data := #[47, 97, 32, 60, 47, 98] }, { data := #[47, 97, 32, 60, 32, 47, 63, 120] }, { data := #[47, 63, 120, 47, 42, 42, 32, 60, 32, 47, 63, 120, 47, 107, 101, 121] }, { data := #[47, 97, 32, 62, 32, 47, 98] }, { data := #[47, 32, 60, 32, 47] }] _ rfl 7 rfl (by decide) (by decide) 20 (by decide)); clear hc
    go_wp2_with fail
    refine HD.out.mono ?_
    rintro e w3 ⟨y, rfl, ⟨t, rfl, ht⟩, hc, hk⟩
    have HC := Lib.hid hc; clear hc hk
    go_wp2_with fail
    go_ret
    exact ⟨_, rfl, by omega, HC.out.below⟩
end Go.Proofs.YtkojeajjappchaaGreat.Draw
/- What FnRules uses besides the contracts: a rule's text read back; contracts with letters. No conditions but that lengths fit. -/
namespace Go.Proofs.YtkojeajjappchaaGreat.Row
open Go.ChangeShapes Go.WideShapes Go.ChangeAt Go.RowKit Go.Instr
set_option linter.unusedVariables false
set_option maxRecDepth 100000

/-! ### mathematics -/
theorem sign_mk : ({ data := #[32, 60, 32] } : ByteArray) = mk signL := rfl
theorem pr_fmt {s : ByteArray} (h : prOk s = true) : fmtR (prR s) = s := by
  obtain ⟨a, b, hs, hab⟩ := prOk_iff.1 h
  have h2 := (Bool.and_eq_true _ _).mp ((Bool.and_eq_true _ _).mp hab).1
  have e1 := (pr_three hs).2
  rw [hab] at e1
  simp only [decide_true, Bool.and_self, if_true] at e1
  rw [e1]
  unfold fmtR
  rw [pt_fmt_pN h2.1, pt_fmt_pN h2.2, sign_mk]
  obtain ⟨h3, -, -⟩ := splitSp_back hs
  conv => rhs; rw [← mk_bl s, h3]
  conv => lhs; rw [← mk_bl a, ← mk_bl b, mk_append, mk_append]
theorem pr_valid {s : ByteArray} (h : prOk s = true) : validR (prR s) = true := by
  obtain ⟨a, b, hs, hab⟩ := prOk_iff.1 h
  have e1 := (pr_three hs).2
  have h2 := ((Bool.and_eq_true _ _).mp hab).2
  rw [hab] at e1
  simp only [decide_true, Bool.and_self, if_true] at e1
  rw [e1]
  exact h2
theorem validR_pats {x : Rlt} (h : validR x = true) : validPat x.1 = true ∧ validPat x.2 = true := by
  unfold validR at h
  simp only [Bool.and_eq_true] at h
  exact h.1
theorem fmt_pr {x : Rlt} (h : validR x = true) : prOk (fmtR x) = true ∧ prR (fmtR x) = x := by
  obtain ⟨p, q⟩ := x
  obtain ⟨hp, hq⟩ := validR_pats h
  have hs : Sp.splitB (fmtR (p, q)) = [fmtS p, mk [60], fmtS q] := by
    refine splitSp_of ?_ (fmt_noSpace hp) (fmt_noSpace hq)
    unfold fmtR
    rw [sign_mk]
    conv => lhs; rw [← mk_bl (fmtS p), ← mk_bl (fmtS q), mk_append, mk_append]
    rw [bl_mk]
  have hab : prAB (fmtS p) (fmtS q) = true := by
    unfold prAB
    rw [ppOk_fmt hp, ppOk_fmt hq, ppN_fmt hp, ppN_fmt hq, h]
    rfl
  refine ⟨prOk_iff.2 ⟨_, _, hs, hab⟩, ?_⟩
  rw [(pr_three hs).2, hab, ppN_fmt hp, ppN_fmt hq]
  simp
theorem firstR_yes {l : List Rlt} {n b : List ByteArray} {k : Int} (h : firstR l n b = k) (hk : 0 ≤ k) : ∃ j : Nat, k = (j : Int) ∧ j < l.length ∧ allowsR (nth l j) n b = true := by
  unfold firstR at h
  by_cases h2 : l.findIdx (fun x => allowsR x n b) < l.length
  · rw [if_pos h2] at h
    refine ⟨_, h.symm, h2, ?_⟩
    have := List.findIdx_getElem (w := h2)
    rw [nth_eq h2]
    exact this
  · rw [if_neg h2] at h
    omega
/-! ### contracts -/
def RL10 (L : List Rlt) : Prop := L.length ≤ 9 ∧ ∀ x ∈ L, wtRl x ≤ 2000
theorem RL10.len {L : List Rlt} (h : RL10 L) : L.length ≤ 9000000 := Nat.le_trans h.1 (by decide)
theorem RL10.wt {L : List Rlt} (h : RL10 L) : ∀ x ∈ L, wtRl x ≤ 9000000 := fun x hx => Nat.le_trans (h.2 x hx) (by decide)
theorem ad_wt (x : Rlt) : adRl x ≤ wtRl x := by
  have h1 := bulk_len x.1
  have h2 := bulk_len x.2
  unfold adRl wtRl
  omega
section
variable {w : World} {V U X : Value} {t u : Rlt} {L : List Rlt} {n b : List ByteArray}
theorem iFaV (k : Int) (hk : firstR L n b = k) (h : kLRl.At w V L) (g : kN.At w U n) (g' : kN.At w X b) (hl : RL10 L) (hn : bulk n ≤ 1000) (hb : bulk b ≤ 1000) :
    Calls Tryz.prog 12 #[V, U, X] w fun e w' => e = .returned (.int .i64 k) ∧ Below w.heap.size w w' := implFirstAllowingRule V U X L n b w k hk h g g' hl.len hl.wt (Nat.le_trans hn (by decide)) (Nat.le_trans hb (by decide))
theorem sFaV (k : Int) (hk : firstR L n b = k) (h : kLRl.At w V L) (g : kN.At w U n) (g' : kN.At w X b) (hl : RL10 L) (hn : bulk n ≤ 1000) (hb : bulk b ≤ 1000) :
    Calls Tryz.prog 17 #[V, U, X] w fun e w' => e = .returned (.int .i64 k) ∧ Below w.heap.size w w' := specFirstAllowingRule V U X L n b w k hk h g g' hl.len hl.wt (Nat.le_trans hn (by decide)) (Nat.le_trans hb (by decide))
theorem iAlV (z : Bool) (hz : decide (0 ≤ firstR L n b) = z) (h : kLRl.At w V L) (g : kN.At w U n) (g' : kN.At w X b) (hl : RL10 L) (hn : bulk n ≤ 1000) (hb : bulk b ≤ 1000) :
    Calls Tryz.prog 15 #[V, U, X] w fun e w' => e = .returned (.bool z) ∧ Below w.heap.size w w' := hz ▸ implAllowed V U X L n b w h g g' hl.len hl.wt (Nat.le_trans hn (by decide)) (Nat.le_trans hb (by decide))
theorem sAlV (z : Bool) (hz : decide (0 ≤ firstR L n b) = z) (h : kLRl.At w V L) (g : kN.At w U n) (g' : kN.At w X b) (hl : RL10 L) (hn : bulk n ≤ 1000) (hb : bulk b ≤ 1000) :
    Calls Tryz.prog 16 #[V, U, X] w fun e w' => e = .returned (.bool z) ∧ Below w.heap.size w w' := hz ▸ specAllowed V U X L n b w h g g' hl.len hl.wt (Nat.le_trans hn (by decide)) (Nat.le_trans hb (by decide))
theorem iRaV (z : Bool) (hz : allowsR t n b = z) (h : kRl.At w V t) (g : kN.At w U n) (g' : kN.At w X b) (ht : wtRl t ≤ 9000000) (hn : bulk n ≤ 1000) (hb : bulk b ≤ 1000) :
    Calls Tryz.prog 13 #[V, U, X] w fun e w' => e = .returned (.bool z) ∧ Below w.heap.size w w' := implRuleAllows V U X t n b w z hz h g g' ht (Nat.le_trans hn (by decide)) (Nat.le_trans hb (by decide))
theorem sRaV (z : Bool) (hz : allowsR t n b = z) (h : kRl.At w V t) (g : kN.At w U n) (g' : kN.At w X b) (ht : wtRl t ≤ 9000000) (hn : bulk n ≤ 1000) (hb : bulk b ≤ 1000) :
    Calls Tryz.prog 14 #[V, U, X] w fun e w' => e = .returned (.bool z) ∧ Below w.heap.size w w' := specRuleAllows V U X t n b w z hz h g g' ht (Nat.le_trans hn (by decide)) (Nat.le_trans hb (by decide))
theorem iFrV (q : ByteArray) (hq : fmtR t = q) (h : kRl.At w V t) (ht : wtRl t ≤ 9000000) :
    Calls Tryz.prog 18 #[V] w fun e w' => e = .returned (.string q) ∧ Below w.heap.size w w' := hq ▸ implFormatRule V t w h ht
theorem sFrV (q : ByteArray) (hq : fmtR t = q) (h : kRl.At w V t) (ht : wtRl t ≤ 9000000) :
    Calls Tryz.prog 19 #[V] w fun e w' => e = .returned (.string q) ∧ Below w.heap.size w w' := hq ▸ specFormatRule V t w h ht
theorem iVrV (z : Bool) (hz : validR t = z) (h : kRl.At w V t) (ht : wtRl t ≤ 9000000) :
    Calls Tryz.prog 24 #[V] w fun e w' => e = .returned (.bool z) ∧ Below w.heap.size w w' := implValidRule V t w z hz h ht
theorem sVrV (z : Bool) (hz : validR t = z) (h : kRl.At w V t) (ht : wtRl t ≤ 9000000) :
    Calls Tryz.prog 25 #[V] w fun e w' => e = .returned (.bool z) ∧ Below w.heap.size w w' := specValidRule V t w z hz h ht
theorem iVsV10 (z : Bool) (hz : validRs L = z) (h : kLRl.At w V L) (hl : RL10 L) :
    Calls Tryz.prog 22 #[V] w fun e w' => e = .returned (.bool z) ∧ Below w.heap.size w w' := implValidRules V L w z hz h hl.len hl.wt
theorem sVsV10 (z : Bool) (hz : validRs L = z) (h : kLRl.At w V L) (hl : RL10 L) :
    Calls Tryz.prog 23 #[V] w fun e w' => e = .returned (.bool z) ∧ Below w.heap.size w w' := specValidRules V L w z hz h hl.len hl.wt
theorem iErV (z : Bool) (hz : decide (t = u) = z) (h : kRl.At w V t) (g : kRl.At w U u) (ht : wtRl t ≤ 9000000) (hu : wtRl u ≤ 9000000) :
    Calls Tryz.prog 20 #[V, U] w fun e w' => e = .returned (.bool z) ∧ Below w.heap.size w w' := implEqualRules V U t u w z hz h g (Nat.le_trans (ad_wt t) ht) (Nat.le_trans (ad_wt u) hu)
theorem sErV (z : Bool) (hz : decide (t = u) = z) (h : kRl.At w V t) (g : kRl.At w U u) (ht : wtRl t ≤ 9000000) (hu : wtRl u ≤ 9000000) :
    Calls Tryz.prog 21 #[V, U] w fun e w' => e = .returned (.bool z) ∧ Below w.heap.size w w' := specEqualRules V U t u w z hz h g (Nat.le_trans (ad_wt t) ht) (Nat.le_trans (ad_wt u) hu)
theorem wt_pr (s : ByteArray) : wtRl (prR s) ≤ 9000000 := by
  obtain ⟨h1, h2⟩ := Draw.prR_small s
  unfold wtRl
  omega
/-- The element of a list of rules at place j: its cells, and the rule. -/
theorem elem10 {x : Option Addr} {m c j : Nat} (h : kLRl.At w (.slice x m c) L) (hj : j < L.length) :
    ∃ (bl off : Nat) (x0 x1 : Option Addr) (n0 c0 n1 c1 : Nat), x = some ⟨bl, off, none⟩ ∧ m = L.length ∧ m ≤ c ∧ w.cell? ⟨bl, off + j * 2, none⟩ = some (.slice x0 n0 c0) ∧ w.cell? ⟨bl, off + j * 2 + 1, none⟩ = some (.slice x1 n1 c1) ∧ kRl.At w (.agg #[.slice x0 n0 c0, .slice x1 n1 c1]) (nth L j) := by
  obtain ⟨ad, n', cap, L', e, hn, rfl, hh, hel⟩ := kLRl_at h
  cases e
  rw [List.length_map] at hj
  have hcap : m ≤ c := by
    obtain ⟨ad', cap', hv, hc, -⟩ := id hh
    injection hv with e1 e2 e3
    omega
  obtain ⟨bl, off, x0, n0, c0, x1, n1, c1, hx, -, hc0, hc1, hA⟩ := kLRl_elem hh hel hj
  refine ⟨bl, off, x0, x1, n0, c0, n1, c1, hx, by rw [List.length_map]; exact hn, hcap, hc0, hc1, ?_⟩
  have : nth (L'.map kRl.strip) j = kRl.strip (nth L' j) := by
    rw [nth_eq (by rw [List.length_map]; exact hj), nth_eq hj, List.getElem_map]
  rw [this]
  exact hA
end
end Go.Proofs.YtkojeajjappchaaGreat.Row
