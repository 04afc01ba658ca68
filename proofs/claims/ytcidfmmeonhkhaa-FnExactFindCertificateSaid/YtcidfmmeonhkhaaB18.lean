/- Contracts and mathematics, joined: RingB, RingR, RingC, RingE, KInt, KFun8, ThingE, ThingQ, ThingD0, ThingD, ThingR, KFunD, RingD. No conditions but those that each states. -/
import Derived.Test.YtcidfmmeonhkhaaB12
import Derived.Test.YtcidfmmeonhkhaaB17
import Derived.WalkKit
import Derived.Deep.RegionHeld3
import Derived.Test.YtcidfmmeonhkhaaB3
import Derived.BigQuiet
import Derived.Test.YtcidfmmeonhkhaaB2
import Derived.Test.YtcidfmmeonhkhaaB13
import Derived.Test.YtcidfmmeonhkhaaB16
/- Contracts of SecretOf, the program's and the model's, and of the program's ValidKeys. No conditions but that lengths fit. -/
namespace Go.Proofs.Ytcidfmmeonhkhaa.Row.Ring
open Go.ChangeShapes Go.WideShapes Go.ChangeAt Go.RowKit Go.Instr
set_option linter.unusedVariables false
set_option maxRecDepth 100000

theorem map_on {P : Program} {k : TypeId} {R : Value → Option (DataW Value × List MemPlace)} {b n : Nat} {D : DataW Value} {w w' : World} (h : w.ownsMap P k R b n D) (hb : Below w.heap.size w w') : w'.ownsMap P k R b n D := by
  obtain ⟨es, clock, hbk, r⟩ := h
  exact ⟨es, clock, (hb.block _ (Array.getElem?_eq_some_iff.1 hbk).1).trans hbk, r⟩

set_option maxHeartbeats 2000000 in
theorem specSecretOf (v u : Value) (T : List (List ByteArray × Int)) (m : List ByteArray) (w : World) (h : TabHolds w v T) (g : Holds Value.string w u m) (hl : T.length ≤ 4000000) (hT : smT T) (hm : bulk m ≤ 9000000) :
    Calls Try.prog 54 #[v, .agg #[u]] w fun e w' => e = .returned (.int .i64 (lkN T m)) ∧ Below w.heap.size w w' := by
  obtain ⟨L, rfl, h⟩ := h
  obtain ⟨x, n, cx, rfl, hn, hcx, hh⟩ := h.shapeN
  obtain ⟨y, q, cy, rfl, -, hcy, hg⟩ := g.shapeN
  have hb0 := (Below.refl w.heap.size w).alloc (Nat.le_refl _) (.cells #[.slice y q cy] 47)
  have HF := Lib.hid (l9Find (.slice x n cx) (.slice y q cy) (strip L) m _ ⟨L, rfl, hh.on hb0⟩ (hg.on hb0) (by omega) hT (Nat.le_trans (bulk_len m) hm))
  rw [strip_length, ← hn] at hl
  have HB := Lib.hid hb0; have HN := Lib.hid hn; have HH := Lib.hid (hh.on hb0)
  clear hb0 hn hh h hg g hT
  go_enter Try.func54, Try.ntmps54
  go_wp2_with fail
  refine HF.out.mono ?_
  rintro e w1 ⟨rfl, hb⟩
  have HB1 := Lib.hid (HB.out.trans (hb.mono HB.out.size)); have HH1 := Lib.hid (HH.out.on hb)
  clear hb HF
  rcases ixT_cases (isN m) (strip L) with ⟨h1, h2, -⟩ | ⟨i, hi, h1, h2, -, -⟩
  · have HV := Lib.hid (show lkN (strip L) m = 0 by unfold lkN; rw [h2, if_neg (by omega)])
    rw [h1]
    clear h1 h2
    go_wp2_with fail
    go_ret
    exact ⟨ret_int HV.out.symm, HB1.out⟩
  · rw [strip_length] at hi
    have HV := Lib.hid (show lkN (strip L) m = (nth L i).val by unfold lkN; rw [h2, if_pos (by rw [strip_length]; exact hi), strip_nth hi]; rfl)
    obtain ⟨b, off, rfl, hc, hd, hnm⟩ := HH1.out.at hi
    have hi2 : (i : Int) < (n : Int) := by have := HN.out; omega
    have hi3 : ¬ (i : Int) < 0 := by omega
    rw [h1]
    clear h1 h2 hi hnm hc
    go_wp2_with fail
    go_ret
    exact ⟨ret_int HV.out.symm, HB1.out⟩

set_option maxHeartbeats 4000000 in
theorem implSecretOf (v u : Value) (T : List (List ByteArray × Int)) (m : List ByteArray) (w : World) (h : TabHolds w v T) (g : Holds Value.string w u m) (hl : T.length ≤ 4000000) (hT : smT T) (hm : bulk m ≤ 9000000) :
    Calls Try.prog 59 #[v, .agg #[u]] w fun e w' => e = .returned (.int .i64 (lkN T m)) ∧ Below w.heap.size w w' := by
  obtain ⟨L, rfl, h⟩ := h
  obtain ⟨x, n, cx, rfl, hn, hcx, hh⟩ := h.shapeN
  obtain ⟨y, q, cy, rfl, -, hcy, hg⟩ := g.shapeN
  have hb0 := ((Below.refl w.heap.size w).alloc (Nat.le_refl _) (.cells #[.slice y q cy] 47)).drew
  obtain ⟨ad, nn, cc, hat⟩ := pairs_key m (smN_bulk hm) (L := L) hT
  have HP := Lib.hid hat
  have HK := Lib.hid (keyTxt hm)
  rw [strip_length] at hl
  have HL := Lib.hid hl; have HT := Lib.hid hT; have HM := Lib.hid hm
  have HB := Lib.hid hb0; have HH := Lib.hid (hh.on hb0); have HG := Lib.hid (hg.on hb0)
  have HX := Lib.hid (Ret.Box.new w (.slice y q cy) 47)
  have KS0 := Lib.hid (show (w.alloc (.cells #[.slice y q cy] 47)).drew.cell? ⟨w.heap.size, 0, none⟩ = some (.slice y q cy) ∧ Below w.heap.size w (w.alloc (.cells #[.slice y q cy] 47)).drew from ⟨HX.out.cell, HB.out⟩)
  generalize lkN (strip L) m = r at *
  have hfd : ∀ wx : World, (Instr.field 89 (.agg #[.slice ad nn cc, .int .i64 r]) 1).run Try.prog wx = .ok (.int .i64 r) wx := fun wx => by kernel_rfl
  clear hb0 hn hh h hg g hT hat hl hm
  go_enter Try.func59, Try.ntmps59
  go_wp2_with fail
  go_region_held3 (fun w' => w'.cell? ⟨w.heap.size, 0, none⟩ = some (.slice y q cy) ∧ Below w.heap.size w w') (first | exact KS0.out | exact KS1.out | exact KS2.out) (first | (go_at_call 97; refine (nameText _ m _ (HG.out.on hb1) HM.out).mono ?_; rintro e w2 ⟨rfl, hb2⟩; have KS2 := Lib.hid (show w2.cell? ⟨w.heap.size, 0, none⟩ = some (.slice y q cy) ∧ Below w.heap.size w w2 from ⟨kc KS1.out.1 hb2, KS1.out.2.trans (hb2.mono KS1.out.2.size)⟩); obtain ⟨v9, ps9, hlook, hv⟩ := (map_on hown.out hb2).lookup strLaw Try.underlying118 (zeroKey w2) (zd := .held zK) (zp := []) rfl HK.out; rw [HP.out] at hv; rw [heldV_inj hv] at hlook; clear hv hb2) | (go_at_call 89; refine (keyringOf _ L _ HH.out HL.out HT.out).mono ?_; rintro e w1 ⟨b1, rfl, hown, -, hb1⟩; have hown := Lib.hid hown; have KS1 := Lib.hid (show w1.cell? ⟨w.heap.size, 0, none⟩ = some (.slice y q cy) ∧ Below w.heap.size w w1 from ⟨kc KS0.out.1 hb1, KS0.out.2.trans (hb1.mono KS0.out.2.size)⟩)))
  all_goals
    go_wp2_with fail
    go_ret
    exact ⟨rfl, KS2.out.2⟩

/-! ### ValidKeys -/
/-- The first k keys are valid by themselves, and no number occurs twice. -/
def okS (T : List (List ByteArray × Int)) (k : Nat) : Prop := (∀ x ∈ T.take k, vkey x = true) ∧ ((T.take k).map (·.2)).Nodup
end Go.Proofs.Ytcidfmmeonhkhaa.Row.Ring
/- The region of the model's ValidKeys in which guards leave operations out: whatever order is drawn, the last value is the one that the guards give. No conditions. -/
namespace Go.Proofs.Ytcidfmmeonhkhaa.Row.Ring
open Go.ChangeShapes Go.WideShapes Go.ChangeAt Go.RowKit Go.Instr
set_option linter.unusedVariables false

end Go.Proofs.Ytcidfmmeonhkhaa.Row.Ring
/- The contract of the model's ValidKeys. No conditions but that lengths fit. -/
namespace Go.Proofs.Ytcidfmmeonhkhaa.Row.Ring
open Go.ChangeShapes Go.WideShapes Go.ChangeAt Go.RowKit Go.Instr
set_option linter.unusedVariables false
set_option maxRecDepth 100000

def okM (T : List (List ByteArray × Int)) (k : Nat) : Prop := okS T k ∧ ((T.take k).map (·.1)).Nodup
theorem named {T : List (List ByteArray × Int)} {m : List ByteArray} : 0 ≤ ixT (isN m) T ↔ m ∈ T.map (·.1) := by
  rcases ixT_cases (isN m) T with ⟨h1, -, h3⟩ | ⟨i, hi, h1, -, h3, -⟩
  · rw [h1]
    constructor
    · intro h; omega
    · intro h
      obtain ⟨x, hx, rfl⟩ := List.mem_map.1 h
      obtain ⟨j, hj, rfl⟩ := List.getElem_of_mem hx
      have := h3 j hj
      rw [nth_eq hj] at this
      unfold isN at this
      rw [eqB_true rfl] at this
      cases this
  · rw [h1]
    refine ⟨fun _ => ?_, fun _ => by omega⟩
    have e : (nth T i).1 = m := by
      apply Classical.byContradiction
      intro e
      unfold isN at h3
      rw [eqB_false e] at h3
      cases h3
    rw [← e]
    exact List.mem_map_of_mem (nth_mem hi)
end Go.Proofs.Ytcidfmmeonhkhaa.Row.Ring
/- Contracts of the library's slices.Grow at the nil slice and slices.Concat at lists of keys, and of the program's AddKey. No conditions but that lengths fit. -/
namespace Go.Proofs.Ytcidfmmeonhkhaa.Row.Ring
open Go.ChangeShapes Go.WideShapes Go.ChangeAt Go.RowKit Go.Instr
set_option linter.unusedVariables false
set_option maxRecDepth 100000

/-- A row of keys of the call's own (their names may be others'). -/
def GivesK (w : World) (L : List Ent) (e : Ending) (w' : World) : Prop := ∃ v, e = .returned v ∧ OwnK 89 encE 2 w.heap.size w' v L ∧ Below w.heap.size w w'

/-- The first k lists, one behind the other. -/
def catK (ls : Nat → List Ent) : Nat → List Ent
  | 0 => []
  | k + 1 => catK ls k ++ ls k
/-! ### AddKey -/
def addK (T : List (List ByteArray × Int)) (x : List ByteArray × Int) : List (List ByteArray × Int) := if validK (T ++ [x]) then T ++ [x] else T
/-- A list of keys of the call's own, and whether the key is in it. -/
def GivesKB (w : World) (T : List (List ByteArray × Int)) (z : Bool) (e : Ending) (w' : World) : Prop := ∃ v, e = .returned (.tuple #[v, .bool z]) ∧ TabOwn w.heap.size w' v T ∧ Below w.heap.size w w'
end Go.Proofs.Ytcidfmmeonhkhaa.Row.Ring
/- Slices of ints in the words of the exact laws. No conditions but that lengths fit. -/
namespace Go.Proofs.Ytcidfmmeonhkhaa.Row
open Go.ChangeShapes Go.WideShapes Go.ChangeAt Go.RowKit Go.Instr
set_option linter.unusedVariables false
set_option maxRecDepth 100000

def kI : Kd (List Int) (Rw Int) := kS 3 (Value.int .i64) (fun _ => rfl)
section
variable {w : World} {v V : Value} {l : List Int} {B E : Nat}
end
end Go.Proofs.Ytcidfmmeonhkhaa.Row
/- Chapter 8's functions, the model's and the program's, in the words of kinds. No conditions but that lengths fit. -/
namespace Go.Proofs.Ytcidfmmeonhkhaa.Row
open Go.ChangeShapes Go.WideShapes Go.ChangeAt Go.RowKit Go.Instr
set_option linter.unusedVariables false
set_option maxRecDepth 100000

set_option maxHeartbeats 4000000 in
theorem implValidData (a b c : Value) (x : Dt) (w : World) (h : DHold w a b c x) (h1 : bulk x.1 ≤ 9000000) (h3 : bulk x.2.2.1 ≤ 9000000) :
    Calls Try.prog 93 #[.agg (dc a b c x.2.2.2.1 x.2.2.2.2)] w fun e w' => e = .returned (.bool (validD x)) ∧ Below w.heap.size w w' := by
  obtain ⟨l, m, k, f, s⟩ := x
  simp only at h1 h3 ⊢
  obtain ⟨xa, na, ca, xb, nb, cb, xc, nc, cc, rfl, rfl, rfl⟩ := h.shape
  have HA := Lib.hid (show na = l.length from Holds.lenEq h.1); have HM := Lib.hid (show nb = m.length from Sl.Holds.lenEq h.2.1)
  have HB := Lib.hid ((Below.refl w.heap.size w).alloc (Nat.le_refl _) (.cells (dc (.slice xa na ca) (.slice xb nb cb) (.slice xc nc cc) f s) 61))
  have H0 := Lib.hid h
  have HX := Lib.hid (Ret.Blk.new w (dc (.slice xa na ca) (.slice xb nb cb) (.slice xc nc cc) f s) 61)
  clear h
  obtain ⟨v1, hv1⟩ : ∃ z, validN l = z := ⟨_, rfl⟩
  obtain ⟨v2, hv2⟩ : ∃ z, validN k = z := ⟨_, rfl⟩
  have HV1 := Lib.hid hv1; have HV2 := Lib.hid hv2
  clear hv1 hv2
  go_enter Try.func93, Try.ntmps93
  go_wp2_with fail
  refine (implValidName _ l _ (H0.out.on HB.out).1 (by omega)).mono ?_
  rintro e w1 ⟨rfl, hb⟩
  rw [HV1.out]
  replace HX := Lib.hid (HX.out.on hb)
  replace HB := Lib.hid (HB.out.trans (hb.mono HB.out.size)); clear hb
  have q0 : w1.cell? ⟨w.heap.size, 0, none⟩ = some (.slice xa na ca) := HX.out.cell 0
  have q1 : w1.cell? ⟨w.heap.size, 1, none⟩ = some (.slice xb nb cb) := HX.out.cell 1
  have q2 : w1.cell? ⟨w.heap.size, 2, none⟩ = some (.slice xc nc cc) := HX.out.cell 2
  have q3 : w1.cell? ⟨w.heap.size, 3, none⟩ = some (.int .i64 f) := HX.out.cell 3
  have q4 : w1.cell? ⟨w.heap.size, 4, none⟩ = some (.int .i64 s) := HX.out.cell 4
  cases v1 with
  | false =>
    have HV := Lib.hid (validD_no (x := (l, m, k, f, s)) (fun e => by have h9 := e.1; rw [show validN l = false from HV1.out] at h9; cases h9))
    go_wp2_with fail
    go_ret
    exact ⟨ret_bool HV.out.symm, HB.out⟩
  | true =>
    by_cases hn : 0 < na
    · have t2 : decide ((0 : Int) < (na : Int)) = true := by simp; omega
      by_cases hm : nb ≤ 60
      · have t3 : decide ((nb : Int) ≤ 60) = true := by simp; omega
        go_wp2_with fail
        clear q0 q1 q2 q3 q4
        refine (implValidName _ k _ (H0.out.on HB.out).2.2 (by omega)).mono ?_
        rintro e w2 ⟨rfl, hb⟩
        rw [HV2.out]
        replace HX := Lib.hid (HX.out.on hb)
        replace HB := Lib.hid (HB.out.trans (hb.mono HB.out.size)); clear hb
        have q0 : w2.cell? ⟨w.heap.size, 0, none⟩ = some (.slice xa na ca) := HX.out.cell 0
        have q1 : w2.cell? ⟨w.heap.size, 1, none⟩ = some (.slice xb nb cb) := HX.out.cell 1
        have q2 : w2.cell? ⟨w.heap.size, 2, none⟩ = some (.slice xc nc cc) := HX.out.cell 2
        have q3 : w2.cell? ⟨w.heap.size, 3, none⟩ = some (.int .i64 f) := HX.out.cell 3
        have q4 : w2.cell? ⟨w.heap.size, 4, none⟩ = some (.int .i64 s) := HX.out.cell 4
        cases v2 with
        | false =>
          have HV := Lib.hid (validD_no (x := (l, m, k, f, s)) (fun e => by have h9 := e.2.2.2.1; rw [show validN k = false from HV2.out] at h9; cases h9))
          go_wp2_with fail
          go_ret
          exact ⟨ret_bool HV.out.symm, HB.out⟩
        | true =>
          by_cases hf : 0 ≤ f ∧ f ≤ 100000
          · have HI := Lib.hid (fun wx => Num.implIn_true hf.1 hf.2 wx)
            have H_hf := Lib.hid hf
            clear hf
            go_wp2_with fail
            refine (HI.out _).mono ?_
            rintro e w' ⟨rfl, rfl⟩
            clear HI
            by_cases hs : 0 ≤ s ∧ s ≤ 2147483646
            · have HI := Lib.hid (fun wx => Num.implIn_true hs.1 hs.2 wx)
              have H_hs := Lib.hid hs
              clear hs
              go_wp2_with fail
              refine (HI.out _).mono ?_
              rintro e w' ⟨rfl, rfl⟩
              clear HI
              have HV := Lib.hid ((validD_iff (x := (l, m, k, f, s))).2 (show validN l = true ∧ 0 < l.length ∧ m.length ≤ 60 ∧ validN k = true ∧ (0 ≤ f ∧ f ≤ 100000) ∧ (0 ≤ s ∧ s ≤ 2147483646) from ⟨HV1.out, by rw [← HA.out]; exact hn, by rw [← HM.out]; exact hm, HV2.out, H_hf.out, H_hs.out⟩))
              go_wp2_with fail
              go_ret
              exact ⟨ret_bool HV.out.symm, HB.out⟩
            · have HI := Lib.hid (fun wx => Num.implIn_false hs wx)
              have HV := Lib.hid (validD_no (x := (l, m, k, f, s)) (fun e => hs e.2.2.2.2.2))
              clear hs
              go_wp2_with fail
              refine (HI.out _).mono ?_
              rintro e w' ⟨rfl, rfl⟩
              go_wp2_with fail
              go_ret
              exact ⟨ret_bool HV.out.symm, HB.out⟩
          · have HI := Lib.hid (fun wx => Num.implIn_false hf wx)
            have HV := Lib.hid (validD_no (x := (l, m, k, f, s)) (fun e => hf e.2.2.2.2.1))
            clear hf
            go_wp2_with fail
            refine (HI.out _).mono ?_
            rintro e w' ⟨rfl, rfl⟩
            go_wp2_with fail
            go_ret
            exact ⟨ret_bool HV.out.symm, HB.out⟩
      · have t3 : decide ((nb : Int) ≤ 60) = false := by simp; omega
        have HV := Lib.hid (validD_no (x := (l, m, k, f, s)) (fun e => hm (by rw [HM.out]; exact e.2.2.1)))
        go_wp2_with fail
        go_ret
        exact ⟨ret_bool HV.out.symm, HB.out⟩
    · have t2 : decide ((0 : Int) < (na : Int)) = false := by simp; omega
      have HV := Lib.hid (validD_no (x := (l, m, k, f, s)) (fun e => hn (by rw [HA.out]; exact e.2.1)))
      go_wp2_with fail
      go_ret
      exact ⟨ret_bool HV.out.symm, HB.out⟩

theorem implFreshAt (a b c : Value) (x : Dt) (n : Int) (w : World) (hv : ∃ xa na ca xb nb cb xc nc cc, a = .slice xa na ca ∧ b = .slice xb nb cb ∧ c = .slice xc nc cc) :
    Calls Try.prog 72 #[.agg (dc a b c x.2.2.2.1 x.2.2.2.2), .int .i64 n] w fun e w' => e = .returned (.bool (decide (n ≤ x.2.2.2.1))) ∧ Below w.heap.size w w' := by
  obtain ⟨l, m, k, f, s⟩ := x
  obtain ⟨xa, na, ca, xb, nb, cb, xc, nc, cc, rfl, rfl, rfl⟩ := hv
  simp only
  obtain ⟨z, hz⟩ : ∃ z, decide (n ≤ f) = z := ⟨_, rfl⟩
  have HB := Lib.hid ((Below.refl w.heap.size w).alloc (Nat.le_refl _) (.cells (dc (.slice xa na ca) (.slice xb nb cb) (.slice xc nc cc) f s) 61))
  rw [hz]
  go_enter Try.func72, Try.ntmps72
  go_wp2_with fail
  go_ret
  exact ⟨rfl, HB.out⟩

theorem specFreshAtK (V : Value) (x : Dt) (n : Int) (w : World) (h : kD.At w V x) :
    Calls Try.prog 66 #[V, .int .i64 n] w fun e w' => e = .returned (.bool (decide (n ≤ x.2.2.2.1))) ∧ Below w.heap.size w w' := by
  obtain ⟨a, b, c, rfl, h9⟩ := kD_at h
  exact specFreshAt a b c x n w h9.shape

theorem implFreshAtK (V : Value) (x : Dt) (n : Int) (w : World) (h : kD.At w V x) :
    Calls Try.prog 72 #[V, .int .i64 n] w fun e w' => e = .returned (.bool (decide (n ≤ x.2.2.2.1))) ∧ Below w.heap.size w w' := by
  obtain ⟨a, b, c, rfl, h9⟩ := kD_at h
  exact implFreshAt a b c x n w h9.shape
end Go.Proofs.Ytcidfmmeonhkhaa.Row
/- EncodeData, model and program; the program's numbers. No conditions but that lengths fit. -/
namespace Go.Proofs.Ytcidfmmeonhkhaa.Row
open Go.ChangeShapes Go.WideShapes Go.ChangeAt Go.RowKit Go.Instr
set_option linter.unusedVariables false
set_option maxRecDepth 100000

def encD (x : Dt) : List Int := if validD x = true then appName (appName [] x.1 ++ Var.var x.2.1.length ++ x.2.1) x.2.2.1 ++ Sl.encs [x.2.2.2.1, x.2.2.2.2] else []
end Go.Proofs.Ytcidfmmeonhkhaa.Row
/- Contract of the program's EqualData. No conditions but that lengths fit. -/
namespace Go.Proofs.Ytcidfmmeonhkhaa.Row
open Go.ChangeShapes Go.WideShapes Go.ChangeAt Go.RowKit Go.Instr
set_option linter.unusedVariables false
set_option maxRecDepth 100000

end Go.Proofs.Ytcidfmmeonhkhaa.Row
/- Mathematics of DecodeData. No conditions but that lengths fit. -/
namespace Go.Proofs.Ytcidfmmeonhkhaa.Row
open Go.ChangeShapes Go.WideShapes Go.ChangeAt Go.RowKit Go.Instr
set_option linter.unusedVariables false
set_option maxRecDepth 100000

def d0 : Dt := ([], [], [], 0, 0)
def rN1 (b : List Int) : List ByteArray × Int × Bool := rdN b 0
def rB1 (b : List Int) : List Int × Int × Bool := Sl.readB b (rN1 b).2.1 60
def rN2 (b : List Int) : List ByteArray × Int × Bool := rdN b (rB1 b).2.1
def rI1 (b : List Int) : List Int × Int × Bool := Sl.readIs b (rN2 b).2.1 2
/-- What DecodeData reads. -/
def gotD (b : List Int) : Dt := ((rN1 b).1, (rB1 b).1, (rN2 b).1, Sl.nth (rI1 b).1 0, Sl.nth (rI1 b).1 1)
def okD (b : List Int) : Prop := (rN1 b).2.2 = true ∧ (rB1 b).2.2 = true ∧ (rN2 b).2.2 = true ∧ (rI1 b).2.2 = true
noncomputable def dcD (b : List Int) : Dt × Bool := open Classical in if okD b ∧ (rI1 b).2.1 = b.length ∧ validD (gotD b) = true then (gotD b, true) else (d0, false)
theorem DOwn.nil (B : Nat) (w : World) : DOwn B w (.slice none 0 0) (.slice none 0 0) (.slice none 0 0) d0 := ⟨Own.nil _ _ _ _, Sl.Own.nil _ _ _ _, Own.nil _ _ _ _, fun g e => by (cases e), fun g e => by (cases e), fun g e => by (cases e)⟩
theorem DOwn.on {B : Nat} {w w' : World} {a b c : Value} {x : Dt} (h : DOwn B w a b c x) (hb : Below w.heap.size w w') : DOwn B w' a b c x := ⟨h.1.on hb, Sl.Own.on h.2.1 hb, h.2.2.1.on hb, h.2.2.2⟩
end Go.Proofs.Ytcidfmmeonhkhaa.Row
/- Contract of the model's DecodeData. No conditions but that lengths fit. -/
namespace Go.Proofs.Ytcidfmmeonhkhaa.Row
open Go.ChangeShapes Go.WideShapes Go.ChangeAt Go.RowKit Go.Instr
set_option linter.unusedVariables false
set_option maxRecDepth 100000

end Go.Proofs.Ytcidfmmeonhkhaa.Row
/- Contract of the program's read and DecodeData. No conditions but that lengths fit. -/
namespace Go.Proofs.Ytcidfmmeonhkhaa.Row
open Go.ChangeShapes Go.WideShapes Go.ChangeAt Go.RowKit Go.Instr
set_option linter.unusedVariables false
set_option maxRecDepth 100000

/-- What read leaves: the packet at block g, or nothing. -/
def ReadPost (w : World) (g : Nat) (b : List Int) (e : Ending) (w' : World) : Prop :=
  (okD b ∧ e = .returned (.tuple #[.int .i64 (rI1 b).2.1, .bool true]) ∧ w.grownBy w' (some g) ∧ ∃ a1 b1 c1, Ret.Blk w' g (dc a1 b1 c1 (gotD b).2.2.2.1 (gotD b).2.2.2.2) 61 ∧ DOwn w.heap.size w' a1 b1 c1 (gotD b)) ∨
  (¬ okD b ∧ e = .returned (.tuple #[.int .i64 0, .bool false]) ∧ Below w.heap.size w w')
end Go.Proofs.Ytcidfmmeonhkhaa.Row
/- Chapter 8's functions, the model's and the program's, in the words of kinds. No conditions but that lengths fit. -/
namespace Go.Proofs.Ytcidfmmeonhkhaa.Row
open Go.ChangeShapes Go.WideShapes Go.ChangeAt Go.RowKit Go.Instr
set_option linter.unusedVariables false
set_option maxRecDepth 100000

def eqD (x y : Dt) : Bool := decide (x = y)
theorem sgD_adv (t : Int) (x : Dt) : advD (sgD t x) = advD x := rfl
theorem WfD.byt {x : Dt} (h : WfD x) : Sl.Byt x.2.1 := Sl.byt_of_wf h.2.1
section
variable {P : Program} {f : FuncId} {args : Array Value} {w : World}
theorem giveDB {x : Dt} {z : Bool} (h : Calls P f args w (GivesDB w x z)) : Calls P f args w fun e w' => ∃ U, e = .returned (.tuple #[U, .bool z]) ∧ kD.In w.heap.size w'.heap.size w' U x ∧ Below w.heap.size w w' := h.mono fun e w' ⟨a, b, c, p, q, r⟩ => ⟨_, p, kD_own q, r⟩
end
theorem specVerifyDataK (V : Value) (t : Int) (x : Dt) (w : World) (h : kD.At w V x) (hn : WfD x) (hl : bulkD x ≤ 1200000) :
    Calls Try.prog 103 #[.int .i64 t, V] w fun e w' => e = .returned (.bool (verD t x)) ∧ Below w.heap.size w w' := by
  obtain ⟨a, b, c, rfl, h9⟩ := kD_at h
  exact specVerifyData a b c x t w h9 hn.byt (smD_of hl)
theorem implVerifyDataK (V : Value) (t : Int) (x : Dt) (w : World) (h : kD.At w V x) (hn : WfD x) (hl : bulkD x ≤ 1200000) :
    Calls Try.prog 106 #[.int .i64 t, V] w fun e w' => e = .returned (.bool (verD t x)) ∧ Below w.heap.size w w' := by
  obtain ⟨a, b, c, rfl, h9⟩ := kD_at h
  exact implVerifyData a b c x t w h9 hn.byt (smD_of hl)
end Go.Proofs.Ytcidfmmeonhkhaa.Row
/- Contracts of VerifySignature and MatchingKeys, the program's and the model's. No conditions but that lengths fit. -/
namespace Go.Proofs.Ytcidfmmeonhkhaa.Row.Ring
open Go.ChangeShapes Go.WideShapes Go.ChangeAt Go.RowKit Go.Instr
set_option linter.unusedVariables false
set_option maxRecDepth 100000

/-- A packet's cells, with its parts' slices. -/
theorem kD_cells {w : World} {xa xb xc : Option Addr} {na ca nb cb nc cc : Nat} {f0 s0 : Int} {x : Dt} (h : kD.At w (.agg #[.slice xa na ca, .slice xb nb cb, .slice xc nc cc, .int .i64 f0, .int .i64 s0]) x) : DHold w (.slice xa na ca) (.slice xb nb cb) (.slice xc nc cc) x ∧ f0 = x.2.2.2.1 ∧ s0 = x.2.2.2.2 := by
  obtain ⟨a, b, c, e, hd⟩ := kD_at h
  simp only [Value.agg.injEq] at e
  have e2 := congrArg Array.toList e
  simp only [List.cons.injEq, Value.int.injEq, true_and, and_true] at e2
  obtain ⟨rfl, rfl, rfl, rfl, rfl⟩ := e2
  exact ⟨hd, rfl, rfl⟩
/-- The places of the keys that verify, up to place k. -/
def matTo (T : List (List ByteArray × Int)) (x : Dt) (k : Nat) : List Int := ((List.range k).filter (fun i => verD (nth T i).2 x)).map (fun i : Nat => (i : Int))
def matK (T : List (List ByteArray × Int)) (x : Dt) : List Int := matTo T x T.length
set_option maxHeartbeats 4000000 in
theorem specVerifySignature (v V : Value) (T : List (List ByteArray × Int)) (x : Dt) (w : World) (h : TabHolds w v T) (g : kD.At w V x) (gn : WfD x) (hl : T.length ≤ 4000000) (hT : smT T) (hx : bulkD x ≤ 1200000) :
    Calls Try.prog 67 #[v, V] w fun e w' => e = .returned (.bool (verD (lkN T x.2.2.1) x)) ∧ Below w.heap.size w w' := by
  obtain ⟨y, n, cy, rfl, -, -, hh⟩ := h.shapeN
  obtain ⟨xa, na, ca, xb, nb, cb, xc, nc, cc, rfl, hg⟩ := kD_shapeA g
  obtain ⟨l, m, k, f, s⟩ := x
  simp only at hg ⊢
  have hb0 := ((Below.refl w.heap.size w).alloc (Nat.le_refl _) (.cells #[.slice xa na ca, .slice xb nb cb, .slice xc nc cc, .int .i64 f, .int .i64 s] 61)).drew
  have HB := Lib.hid hb0; have HH := Lib.hid (hh.on hb0); have HG := Lib.hid (hg.on hb0)
  have HK := Lib.hid ((kD_cells hg).1.2.2.on hb0)
  have HX := Lib.hid (Ret.Blk.new w #[.slice xa na ca, .slice xb nb cb, .slice xc nc cc, .int .i64 f, .int .i64 s] 61)
  have HL := Lib.hid hl; have HT := Lib.hid hT; have HN := Lib.hid gn; have HZ := Lib.hid hx
  have HKB := Lib.hid (show bulk k ≤ 9000000 by unfold bulkD at hx; simp only at hx; omega)
  obtain ⟨r, hr⟩ : ∃ r, lkN T k = r := ⟨_, rfl⟩
  obtain ⟨z, hz⟩ : ∃ z, verD r (l, m, k, f, s) = z := ⟨_, rfl⟩
  have HRR := Lib.hid hr; have HZZ := Lib.hid hz
  have KS0 := Lib.hid (show (w.alloc (.cells #[.slice xa na ca, .slice xb nb cb, .slice xc nc cc, .int .i64 f, .int .i64 s] 61)).drew.cell? ⟨w.heap.size, 0, none⟩ = some (.slice xa na ca) ∧ (w.alloc (.cells #[.slice xa na ca, .slice xb nb cb, .slice xc nc cc, .int .i64 f, .int .i64 s] 61)).drew.cell? ⟨w.heap.size, 1, none⟩ = some (.slice xb nb cb) ∧ (w.alloc (.cells #[.slice xa na ca, .slice xb nb cb, .slice xc nc cc, .int .i64 f, .int .i64 s] 61)).drew.cell? ⟨w.heap.size, 2, none⟩ = some (.slice xc nc cc) ∧ (w.alloc (.cells #[.slice xa na ca, .slice xb nb cb, .slice xc nc cc, .int .i64 f, .int .i64 s] 61)).drew.cell? ⟨w.heap.size, 3, none⟩ = some (.int .i64 f) ∧ (w.alloc (.cells #[.slice xa na ca, .slice xb nb cb, .slice xc nc cc, .int .i64 f, .int .i64 s] 61)).drew.cell? ⟨w.heap.size, 4, none⟩ = some (.int .i64 s) ∧ Below w.heap.size w (w.alloc (.cells #[.slice xa na ca, .slice xb nb cb, .slice xc nc cc, .int .i64 f, .int .i64 s] 61)).drew from ⟨HX.out.cell 0, HX.out.cell 1, HX.out.cell 2, HX.out.cell 3, HX.out.cell 4, HB.out⟩)
  rw [hr, hz]
  clear hb0 hh hg h g gn hl hT hx hr hz
  go_enter Try.func67, Try.ntmps67
  go_wp2_with fail
  go_region_held3 (fun w' => w'.cell? ⟨w.heap.size, 0, none⟩ = some (.slice xa na ca) ∧ w'.cell? ⟨w.heap.size, 1, none⟩ = some (.slice xb nb cb) ∧ w'.cell? ⟨w.heap.size, 2, none⟩ = some (.slice xc nc cc) ∧ w'.cell? ⟨w.heap.size, 3, none⟩ = some (.int .i64 f) ∧ w'.cell? ⟨w.heap.size, 4, none⟩ = some (.int .i64 s) ∧ Below w.heap.size w w') (first | exact KS0.out | exact KS1.out | exact KS2.out) (first | (go_at_call 103; refine (specVerifyDataK _ r (l, m, k, f, s) _ (HG.out.on hb1) HN.out HZ.out).mono ?_; rintro e w2 ⟨rfl, hb2⟩; rw [HZZ.out]; have KS2 := Lib.hid (show w2.cell? ⟨w.heap.size, 0, none⟩ = some (.slice xa na ca) ∧ w2.cell? ⟨w.heap.size, 1, none⟩ = some (.slice xb nb cb) ∧ w2.cell? ⟨w.heap.size, 2, none⟩ = some (.slice xc nc cc) ∧ w2.cell? ⟨w.heap.size, 3, none⟩ = some (.int .i64 f) ∧ w2.cell? ⟨w.heap.size, 4, none⟩ = some (.int .i64 s) ∧ Below w.heap.size w w2 from ⟨kc KS1.out.1 hb2, kc KS1.out.2.1 hb2, kc KS1.out.2.2.1 hb2, kc KS1.out.2.2.2.1 hb2, kc KS1.out.2.2.2.2.1 hb2, KS1.out.2.2.2.2.2.trans (hb2.mono KS1.out.2.2.2.2.2.size)⟩)) | (go_at_call 54; refine (specSecretOf _ _ T k _ HH.out HK.out HL.out HT.out HKB.out).mono ?_; rintro e w1 ⟨rfl, hb1⟩; rw [HRR.out]; have KS1 := Lib.hid (show w1.cell? ⟨w.heap.size, 0, none⟩ = some (.slice xa na ca) ∧ w1.cell? ⟨w.heap.size, 1, none⟩ = some (.slice xb nb cb) ∧ w1.cell? ⟨w.heap.size, 2, none⟩ = some (.slice xc nc cc) ∧ w1.cell? ⟨w.heap.size, 3, none⟩ = some (.int .i64 f) ∧ w1.cell? ⟨w.heap.size, 4, none⟩ = some (.int .i64 s) ∧ Below w.heap.size w w1 from ⟨kc KS0.out.1 hb1, kc KS0.out.2.1 hb1, kc KS0.out.2.2.1 hb1, kc KS0.out.2.2.2.1 hb1, kc KS0.out.2.2.2.2.1 hb1, KS0.out.2.2.2.2.2.trans (hb1.mono KS0.out.2.2.2.2.2.size)⟩)))
  all_goals
    go_wp2_with fail
    go_ret
    exact ⟨rfl, KS2.out.2.2.2.2.2⟩

set_option maxHeartbeats 4000000 in
theorem implVerifySignature (v V : Value) (T : List (List ByteArray × Int)) (x : Dt) (w : World) (h : TabHolds w v T) (g : kD.At w V x) (gn : WfD x) (hl : T.length ≤ 4000000) (hT : smT T) (hx : bulkD x ≤ 1200000) :
    Calls Try.prog 74 #[v, V] w fun e w' => e = .returned (.bool (verD (lkN T x.2.2.1) x)) ∧ Below w.heap.size w w' := by
  obtain ⟨y, n, cy, rfl, -, -, hh⟩ := h.shapeN
  obtain ⟨xa, na, ca, xb, nb, cb, xc, nc, cc, rfl, hg⟩ := kD_shapeA g
  obtain ⟨l, m, k, f, s⟩ := x
  simp only at hg ⊢
  have hb0 := ((Below.refl w.heap.size w).alloc (Nat.le_refl _) (.cells #[.slice xa na ca, .slice xb nb cb, .slice xc nc cc, .int .i64 f, .int .i64 s] 61)).drew
  have HB := Lib.hid hb0; have HH := Lib.hid (hh.on hb0); have HG := Lib.hid (hg.on hb0)
  have HK := Lib.hid ((kD_cells hg).1.2.2.on hb0)
  have HX := Lib.hid (Ret.Blk.new w #[.slice xa na ca, .slice xb nb cb, .slice xc nc cc, .int .i64 f, .int .i64 s] 61)
  have HL := Lib.hid hl; have HT := Lib.hid hT; have HN := Lib.hid gn; have HZ := Lib.hid hx
  have HKB := Lib.hid (show bulk k ≤ 9000000 by unfold bulkD at hx; simp only at hx; omega)
  obtain ⟨r, hr⟩ : ∃ r, lkN T k = r := ⟨_, rfl⟩
  obtain ⟨z, hz⟩ : ∃ z, verD r (l, m, k, f, s) = z := ⟨_, rfl⟩
  have HRR := Lib.hid hr; have HZZ := Lib.hid hz
  have KS0 := Lib.hid (show (w.alloc (.cells #[.slice xa na ca, .slice xb nb cb, .slice xc nc cc, .int .i64 f, .int .i64 s] 61)).drew.cell? ⟨w.heap.size, 0, none⟩ = some (.slice xa na ca) ∧ (w.alloc (.cells #[.slice xa na ca, .slice xb nb cb, .slice xc nc cc, .int .i64 f, .int .i64 s] 61)).drew.cell? ⟨w.heap.size, 1, none⟩ = some (.slice xb nb cb) ∧ (w.alloc (.cells #[.slice xa na ca, .slice xb nb cb, .slice xc nc cc, .int .i64 f, .int .i64 s] 61)).drew.cell? ⟨w.heap.size, 2, none⟩ = some (.slice xc nc cc) ∧ (w.alloc (.cells #[.slice xa na ca, .slice xb nb cb, .slice xc nc cc, .int .i64 f, .int .i64 s] 61)).drew.cell? ⟨w.heap.size, 3, none⟩ = some (.int .i64 f) ∧ (w.alloc (.cells #[.slice xa na ca, .slice xb nb cb, .slice xc nc cc, .int .i64 f, .int .i64 s] 61)).drew.cell? ⟨w.heap.size, 4, none⟩ = some (.int .i64 s) ∧ Below w.heap.size w (w.alloc (.cells #[.slice xa na ca, .slice xb nb cb, .slice xc nc cc, .int .i64 f, .int .i64 s] 61)).drew from ⟨HX.out.cell 0, HX.out.cell 1, HX.out.cell 2, HX.out.cell 3, HX.out.cell 4, HB.out⟩)
  rw [hr, hz]
  clear hb0 hh hg h g gn hl hT hx hr hz
  go_enter Try.func74, Try.ntmps74
  go_wp2_with fail
  go_region_held3 (fun w' => w'.cell? ⟨w.heap.size, 0, none⟩ = some (.slice xa na ca) ∧ w'.cell? ⟨w.heap.size, 1, none⟩ = some (.slice xb nb cb) ∧ w'.cell? ⟨w.heap.size, 2, none⟩ = some (.slice xc nc cc) ∧ w'.cell? ⟨w.heap.size, 3, none⟩ = some (.int .i64 f) ∧ w'.cell? ⟨w.heap.size, 4, none⟩ = some (.int .i64 s) ∧ Below w.heap.size w w') (first | exact KS0.out | exact KS1.out | exact KS2.out) (first | (go_at_call 106; refine (implVerifyDataK _ r (l, m, k, f, s) _ (HG.out.on hb1) HN.out HZ.out).mono ?_; rintro e w2 ⟨rfl, hb2⟩; rw [HZZ.out]; have KS2 := Lib.hid (show w2.cell? ⟨w.heap.size, 0, none⟩ = some (.slice xa na ca) ∧ w2.cell? ⟨w.heap.size, 1, none⟩ = some (.slice xb nb cb) ∧ w2.cell? ⟨w.heap.size, 2, none⟩ = some (.slice xc nc cc) ∧ w2.cell? ⟨w.heap.size, 3, none⟩ = some (.int .i64 f) ∧ w2.cell? ⟨w.heap.size, 4, none⟩ = some (.int .i64 s) ∧ Below w.heap.size w w2 from ⟨kc KS1.out.1 hb2, kc KS1.out.2.1 hb2, kc KS1.out.2.2.1 hb2, kc KS1.out.2.2.2.1 hb2, kc KS1.out.2.2.2.2.1 hb2, KS1.out.2.2.2.2.2.trans (hb2.mono KS1.out.2.2.2.2.2.size)⟩)) | (go_at_call 59; refine (implSecretOf _ _ T k _ HH.out HK.out HL.out HT.out HKB.out).mono ?_; rintro e w1 ⟨rfl, hb1⟩; rw [HRR.out]; have KS1 := Lib.hid (show w1.cell? ⟨w.heap.size, 0, none⟩ = some (.slice xa na ca) ∧ w1.cell? ⟨w.heap.size, 1, none⟩ = some (.slice xb nb cb) ∧ w1.cell? ⟨w.heap.size, 2, none⟩ = some (.slice xc nc cc) ∧ w1.cell? ⟨w.heap.size, 3, none⟩ = some (.int .i64 f) ∧ w1.cell? ⟨w.heap.size, 4, none⟩ = some (.int .i64 s) ∧ Below w.heap.size w w1 from ⟨kc KS0.out.1 hb1, kc KS0.out.2.1 hb1, kc KS0.out.2.2.1 hb1, kc KS0.out.2.2.2.1 hb1, kc KS0.out.2.2.2.2.1 hb1, KS0.out.2.2.2.2.2.trans (hb1.mono KS0.out.2.2.2.2.2.size)⟩)))
  all_goals
    go_wp2_with fail
    go_ret
    exact ⟨rfl, KS2.out.2.2.2.2.2⟩

end Go.Proofs.Ytcidfmmeonhkhaa.Row.Ring
