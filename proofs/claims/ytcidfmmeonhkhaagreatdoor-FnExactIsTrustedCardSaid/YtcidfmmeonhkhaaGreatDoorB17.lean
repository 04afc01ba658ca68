/- Contracts and mathematics, joined: RingB, RingR, RingC, RingE, KInt, KFun8, ThingE, ThingQ, ThingD0, ThingD, ThingR, KFunD, RingD, RingG, RingH, KRing, TrustB, TrustC, NameMath, Let. No conditions but those that each states. -/
import Derived.Test.YtcidfmmeonhkhaaGreatDoorB12
import Derived.Test.YtcidfmmeonhkhaaGreatDoorB16
import Derived.WalkKit
import Derived.Deep.RegionHeld3
import Derived.Test.YtcidfmmeonhkhaaGreatDoorB3
import Derived.BigQuiet
import Derived.Test.YtcidfmmeonhkhaaGreatDoorB1
import Derived.Test.YtcidfmmeonhkhaaGreatDoorB13
import Derived.Test.YtcidfmmeonhkhaaGreatDoorB11
import Derived.Test.YtcidfmmeonhkhaaGreatDoorB10
import Derived.Test.YtcidfmmeonhkhaaGreatDoorB9
import Derived.Lib.Join
/- Contracts of SecretOf, the program's and the model's, and of the program's ValidKeys. No conditions but that lengths fit. -/
namespace Go.Proofs.YtcidfmmeonhkhaaGreatDoor.Row.Ring
open Go.ChangeShapes Go.WideShapes Go.ChangeAt Go.RowKit Go.Instr
set_option linter.unusedVariables false
set_option maxRecDepth 100000

theorem map_on {P : Program} {k : TypeId} {R : Value → Option (DataW Value × List MemPlace)} {b n : Nat} {D : DataW Value} {w w' : World} (h : w.ownsMap P k R b n D) (hb : Below w.heap.size w w') : w'.ownsMap P k R b n D := by
  obtain ⟨es, clock, hbk, r⟩ := h
  exact ⟨es, clock, (hb.block _ (Array.getElem?_eq_some_iff.1 hbk).1).trans hbk, r⟩

set_option maxHeartbeats 2000000 in
theorem specSecretOf (v u : Value) (T : List (List ByteArray × Int)) (m : List ByteArray) (w : World) (h : TabHolds w v T) (g : Holds Value.string w u m) (hl : T.length ≤ 4000000) (hT : smT T) (hm : bulk m ≤ 9000000) :
    Calls Tryz.prog 69 #[v, .agg #[u]] w fun e w' => e = .returned (.int .i64 (lkN T m)) ∧ Below w.heap.size w w' := by
  obtain ⟨L, rfl, h⟩ := h
  obtain ⟨x, n, cx, rfl, hn, hcx, hh⟩ := h.shapeN
  obtain ⟨y, q, cy, rfl, -, hcy, hg⟩ := g.shapeN
  have hb0 := (Below.refl w.heap.size w).alloc (Nat.le_refl _) (.cells #[.slice y q cy] 32)
  have HF := Lib.hid (l9Find (.slice x n cx) (.slice y q cy) (strip L) m _ ⟨L, rfl, hh.on hb0⟩ (hg.on hb0) (by omega) hT (Nat.le_trans (bulk_len m) hm))
  rw [strip_length, ← hn] at hl
  have HB := Lib.hid hb0; have HN := Lib.hid hn; have HH := Lib.hid (hh.on hb0)
  clear hb0 hn hh h hg g hT
  go_enter Tryz.func69, Tryz.ntmps69
  go_wp2_with fail
  refine HF.out.mono ?_
  rintro e w1 ⟨rfl, hb⟩
  have HB1 := Lib.hid (HB.out.trans (hb.mono HB.out.size)); have HH1 := Lib.hid (HH.out.on hb)
  clear hb HF
  rcases ixT_cases (isN m) (strip L) with ⟨h1, h2, -⟩ | ⟨i, hi, h1, h2, -, -⟩
  · have HV := Lib.hid (show lkN (strip L) m = 0 by unfold lkN; rw [h2, if_neg (by omega)])
    rw [h1]
    clear h1 h2
    go_wp2_with fail
    go_ret
    exact ⟨ret_int HV.out.symm, HB1.out⟩
  · rw [strip_length] at hi
    have HV := Lib.hid (show lkN (strip L) m = (nth L i).val by unfold lkN; rw [h2, if_pos (by rw [strip_length]; exact hi), strip_nth hi]; rfl)
    obtain ⟨b, off, rfl, hc, hd, hnm⟩ := HH1.out.at hi
    have hi2 : (i : Int) < (n : Int) := by have := HN.out; omega
    have hi3 : ¬ (i : Int) < 0 := by omega
    rw [h1]
    clear h1 h2 hi hnm hc
    go_wp2_with fail
    go_ret
    exact ⟨ret_int HV.out.symm, HB1.out⟩

set_option maxHeartbeats 4000000 in
theorem implSecretOf (v u : Value) (T : List (List ByteArray × Int)) (m : List ByteArray) (w : World) (h : TabHolds w v T) (g : Holds Value.string w u m) (hl : T.length ≤ 4000000) (hT : smT T) (hm : bulk m ≤ 9000000) :
    Calls Tryz.prog 82 #[v, .agg #[u]] w fun e w' => e = .returned (.int .i64 (lkN T m)) ∧ Below w.heap.size w w' := by
  obtain ⟨L, rfl, h⟩ := h
  obtain ⟨x, n, cx, rfl, hn, hcx, hh⟩ := h.shapeN
  obtain ⟨y, q, cy, rfl, -, hcy, hg⟩ := g.shapeN
  have hb0 := ((Below.refl w.heap.size w).alloc (Nat.le_refl _) (.cells #[.slice y q cy] 32)).drew
  obtain ⟨ad, nn, cc, hat⟩ := pairs_key m (smN_bulk hm) (L := L) hT
  have HP := Lib.hid hat
  have HK := Lib.hid (keyTxt hm)
  rw [strip_length] at hl
  have HL := Lib.hid hl; have HT := Lib.hid hT; have HM := Lib.hid hm
  have HB := Lib.hid hb0; have HH := Lib.hid (hh.on hb0); have HG := Lib.hid (hg.on hb0)
  have HX := Lib.hid (Ret.Box.new w (.slice y q cy) 32)
  have KS0 := Lib.hid (show (w.alloc (.cells #[.slice y q cy] 32)).drew.cell? ⟨w.heap.size, 0, none⟩ = some (.slice y q cy) ∧ Below w.heap.size w (w.alloc (.cells #[.slice y q cy] 32)).drew from ⟨HX.out.cell, HB.out⟩)
  generalize lkN (strip L) m = r at *
  have hfd : ∀ wx : World, (Instr.field 156 (.agg #[.slice ad nn cc, .int .i64 r]) 1).run Tryz.prog wx = .ok (.int .i64 r) wx := fun wx => by kernel_rfl
  clear hb0 hn hh h hg g hT hat hl hm
  go_enter Tryz.func82, Tryz.ntmps82
  go_wp2_with fail
  go_region_held3 (fun w' => w'.cell? ⟨w.heap.size, 0, none⟩ = some (.slice y q cy) ∧ Below w.heap.size w w') (first | exact KS0.out | exact KS1.out | exact KS2.out) (first | (go_at_call 149; refine (nameText _ m _ (HG.out.on hb1) HM.out).mono ?_; rintro e w2 ⟨rfl, hb2⟩; have KS2 := Lib.hid (show w2.cell? ⟨w.heap.size, 0, none⟩ = some (.slice y q cy) ∧ Below w.heap.size w w2 from ⟨kc KS1.out.1 hb2, KS1.out.2.trans (hb2.mono KS1.out.2.size)⟩); obtain ⟨v9, ps9, hlook, hv⟩ := (map_on hown.out hb2).lookup strLaw Tryz.underlying164 (zeroKey w2) (zd := .held zK) (zp := []) rfl HK.out; rw [HP.out] at hv; rw [heldV_inj hv] at hlook; clear hv hb2) | (go_at_call 141; refine (keyringOf _ L _ HH.out HL.out HT.out).mono ?_; rintro e w1 ⟨b1, rfl, hown, -, hb1⟩; have hown := Lib.hid hown; have KS1 := Lib.hid (show w1.cell? ⟨w.heap.size, 0, none⟩ = some (.slice y q cy) ∧ Below w.heap.size w w1 from ⟨kc KS0.out.1 hb1, KS0.out.2.trans (hb1.mono KS0.out.2.size)⟩)))
  all_goals
    go_wp2_with fail
    go_ret
    exact ⟨rfl, KS2.out.2⟩

/-! ### ValidKeys -/
/-- The first k keys are valid by themselves, and no number occurs twice. -/
def okS (T : List (List ByteArray × Int)) (k : Nat) : Prop := (∀ x ∈ T.take k, vkey x = true) ∧ ((T.take k).map (·.2)).Nodup
end Go.Proofs.YtcidfmmeonhkhaaGreatDoor.Row.Ring
/- The region of the model's ValidKeys in which guards leave operations out: whatever order is drawn, the last value is the one that the guards give. No conditions. -/
namespace Go.Proofs.YtcidfmmeonhkhaaGreatDoor.Row.Ring
open Go.ChangeShapes Go.WideShapes Go.ChangeAt Go.RowKit Go.Instr
set_option linter.unusedVariables false

end Go.Proofs.YtcidfmmeonhkhaaGreatDoor.Row.Ring
/- The contract of the model's ValidKeys. No conditions but that lengths fit. -/
namespace Go.Proofs.YtcidfmmeonhkhaaGreatDoor.Row.Ring
open Go.ChangeShapes Go.WideShapes Go.ChangeAt Go.RowKit Go.Instr
set_option linter.unusedVariables false
set_option maxRecDepth 100000

def okM (T : List (List ByteArray × Int)) (k : Nat) : Prop := okS T k ∧ ((T.take k).map (·.1)).Nodup
end Go.Proofs.YtcidfmmeonhkhaaGreatDoor.Row.Ring
/- Contracts of the library's slices.Grow at the nil slice and slices.Concat at lists of keys, and of the program's AddKey. No conditions but that lengths fit. -/
namespace Go.Proofs.YtcidfmmeonhkhaaGreatDoor.Row.Ring
open Go.ChangeShapes Go.WideShapes Go.ChangeAt Go.RowKit Go.Instr
set_option linter.unusedVariables false
set_option maxRecDepth 100000

/-- A row of keys of the call's own (their names may be others'). -/
def GivesK (w : World) (L : List Ent) (e : Ending) (w' : World) : Prop := ∃ v, e = .returned v ∧ OwnK 156 encE 2 w.heap.size w' v L ∧ Below w.heap.size w w'

/-- The first k lists, one behind the other. -/
def catK (ls : Nat → List Ent) : Nat → List Ent
  | 0 => []
  | k + 1 => catK ls k ++ ls k
/-! ### AddKey -/
def addK (T : List (List ByteArray × Int)) (x : List ByteArray × Int) : List (List ByteArray × Int) := if validK (T ++ [x]) then T ++ [x] else T
/-- A list of keys of the call's own, and whether the key is in it. -/
def GivesKB (w : World) (T : List (List ByteArray × Int)) (z : Bool) (e : Ending) (w' : World) : Prop := ∃ v, e = .returned (.tuple #[v, .bool z]) ∧ TabOwn w.heap.size w' v T ∧ Below w.heap.size w w'
end Go.Proofs.YtcidfmmeonhkhaaGreatDoor.Row.Ring
/- Slices of ints in the words of the exact laws. No conditions but that lengths fit. -/
namespace Go.Proofs.YtcidfmmeonhkhaaGreatDoor.Row
open Go.ChangeShapes Go.WideShapes Go.ChangeAt Go.RowKit Go.Instr
set_option linter.unusedVariables false
set_option maxRecDepth 100000

def kI : Kd (List Int) (Rw Int) := kS 3 (Value.int .i64) (fun _ => rfl)
section
variable {w : World} {v V : Value} {l : List Int} {B E : Nat}
end
end Go.Proofs.YtcidfmmeonhkhaaGreatDoor.Row
/- Chapter 8's functions, the model's and the program's, in the words of kinds. No conditions but that lengths fit. -/
namespace Go.Proofs.YtcidfmmeonhkhaaGreatDoor.Row
open Go.ChangeShapes Go.WideShapes Go.ChangeAt Go.RowKit Go.Instr
set_option linter.unusedVariables false
set_option maxRecDepth 100000

set_option maxHeartbeats 4000000 in
theorem implValidData (a b c : Value) (x : Dt) (w : World) (h : DHold w a b c x) (h1 : bulk x.1 ≤ 9000000) (h3 : bulk x.2.2.1 ≤ 9000000) :
    Calls Tryz.prog 62 #[.agg (dc a b c x.2.2.2.1 x.2.2.2.2)] w fun e w' => e = .returned (.bool (validD x)) ∧ Below w.heap.size w w' := by
  obtain ⟨l, m, k, f, s⟩ := x
  simp only at h1 h3 ⊢
  obtain ⟨xa, na, ca, xb, nb, cb, xc, nc, cc, rfl, rfl, rfl⟩ := h.shape
  have HA := Lib.hid (show na = l.length from Holds.lenEq h.1); have HM := Lib.hid (show nb = m.length from Sl.Holds.lenEq h.2.1)
  have HB := Lib.hid ((Below.refl w.heap.size w).alloc (Nat.le_refl _) (.cells (dc (.slice xa na ca) (.slice xb nb cb) (.slice xc nc cc) f s) 34))
  have H0 := Lib.hid h
  have HX := Lib.hid (Ret.Blk.new w (dc (.slice xa na ca) (.slice xb nb cb) (.slice xc nc cc) f s) 34)
  clear h
  obtain ⟨v1, hv1⟩ : ∃ z, validN l = z := ⟨_, rfl⟩
  obtain ⟨v2, hv2⟩ : ∃ z, validN k = z := ⟨_, rfl⟩
  have HV1 := Lib.hid hv1; have HV2 := Lib.hid hv2
  clear hv1 hv2
  go_enter Tryz.func62, Tryz.ntmps62
  go_wp2_with fail
  refine (implValidName _ l _ (H0.out.on HB.out).1 (by omega)).mono ?_
  rintro e w1 ⟨rfl, hb⟩
  rw [HV1.out]
  replace HX := Lib.hid (HX.out.on hb)
  replace HB := Lib.hid (HB.out.trans (hb.mono HB.out.size)); clear hb
  have q0 : w1.cell? ⟨w.heap.size, 0, none⟩ = some (.slice xa na ca) := HX.out.cell 0
  have q1 : w1.cell? ⟨w.heap.size, 1, none⟩ = some (.slice xb nb cb) := HX.out.cell 1
  have q2 : w1.cell? ⟨w.heap.size, 2, none⟩ = some (.slice xc nc cc) := HX.out.cell 2
  have q3 : w1.cell? ⟨w.heap.size, 3, none⟩ = some (.int .i64 f) := HX.out.cell 3
  have q4 : w1.cell? ⟨w.heap.size, 4, none⟩ = some (.int .i64 s) := HX.out.cell 4
  cases v1 with
  | false =>
    have HV := Lib.hid (validD_no (x := (l, m, k, f, s)) (fun e => by have h9 := e.1; rw [show validN l = false from HV1.out] at h9; cases h9))
    go_wp2_with fail
    go_ret
    exact ⟨ret_bool HV.out.symm, HB.out⟩
  | true =>
    by_cases hn : 0 < na
    · have t2 : decide ((0 : Int) < (na : Int)) = true := by simp; omega
      by_cases hm : nb ≤ 60
      · have t3 : decide ((nb : Int) ≤ 60) = true := by simp; omega
        go_wp2_with fail
        clear q0 q1 q2 q3 q4
        refine (implValidName _ k _ (H0.out.on HB.out).2.2 (by omega)).mono ?_
        rintro e w2 ⟨rfl, hb⟩
        rw [HV2.out]
        replace HX := Lib.hid (HX.out.on hb)
        replace HB := Lib.hid (HB.out.trans (hb.mono HB.out.size)); clear hb
        have q0 : w2.cell? ⟨w.heap.size, 0, none⟩ = some (.slice xa na ca) := HX.out.cell 0
        have q1 : w2.cell? ⟨w.heap.size, 1, none⟩ = some (.slice xb nb cb) := HX.out.cell 1
        have q2 : w2.cell? ⟨w.heap.size, 2, none⟩ = some (.slice xc nc cc) := HX.out.cell 2
        have q3 : w2.cell? ⟨w.heap.size, 3, none⟩ = some (.int .i64 f) := HX.out.cell 3
        have q4 : w2.cell? ⟨w.heap.size, 4, none⟩ = some (.int .i64 s) := HX.out.cell 4
        cases v2 with
        | false =>
          have HV := Lib.hid (validD_no (x := (l, m, k, f, s)) (fun e => by have h9 := e.2.2.2.1; rw [show validN k = false from HV2.out] at h9; cases h9))
          go_wp2_with fail
          go_ret
          exact ⟨ret_bool HV.out.symm, HB.out⟩
        | true =>
          by_cases hf : 0 ≤ f ∧ f ≤ 100000
          · have HI := Lib.hid (fun wx => Num.implIn_true hf.1 hf.2 wx)
            have H_hf := Lib.hid hf
            clear hf
            go_wp2_with fail
            refine (HI.out _).mono ?_
            rintro e w' ⟨rfl, rfl⟩
            clear HI
            by_cases hs : 0 ≤ s ∧ s ≤ 2147483646
            · have HI := Lib.hid (fun wx => Num.implIn_true hs.1 hs.2 wx)
              have H_hs := Lib.hid hs
              clear hs
              go_wp2_with fail
              refine (HI.out _).mono ?_
              rintro e w' ⟨rfl, rfl⟩
              clear HI
              have HV := Lib.hid ((validD_iff (x := (l, m, k, f, s))).2 (show validN l = true ∧ 0 < l.length ∧ m.length ≤ 60 ∧ validN k = true ∧ (0 ≤ f ∧ f ≤ 100000) ∧ (0 ≤ s ∧ s ≤ 2147483646) from ⟨HV1.out, by rw [← HA.out]; exact hn, by rw [← HM.out]; exact hm, HV2.out, H_hf.out, H_hs.out⟩))
              go_wp2_with fail
              go_ret
              exact ⟨ret_bool HV.out.symm, HB.out⟩
            · have HI := Lib.hid (fun wx => Num.implIn_false hs wx)
              have HV := Lib.hid (validD_no (x := (l, m, k, f, s)) (fun e => hs e.2.2.2.2.2))
              clear hs
              go_wp2_with fail
              refine (HI.out _).mono ?_
              rintro e w' ⟨rfl, rfl⟩
              go_wp2_with fail
              go_ret
              exact ⟨ret_bool HV.out.symm, HB.out⟩
          · have HI := Lib.hid (fun wx => Num.implIn_false hf wx)
            have HV := Lib.hid (validD_no (x := (l, m, k, f, s)) (fun e => hf e.2.2.2.2.1))
            clear hf
            go_wp2_with fail
            refine (HI.out _).mono ?_
            rintro e w' ⟨rfl, rfl⟩
            go_wp2_with fail
            go_ret
            exact ⟨ret_bool HV.out.symm, HB.out⟩
      · have t3 : decide ((nb : Int) ≤ 60) = false := by simp; omega
        have HV := Lib.hid (validD_no (x := (l, m, k, f, s)) (fun e => hm (by rw [HM.out]; exact e.2.2.1)))
        go_wp2_with fail
        go_ret
        exact ⟨ret_bool HV.out.symm, HB.out⟩
    · have t2 : decide ((0 : Int) < (na : Int)) = false := by simp; omega
      have HV := Lib.hid (validD_no (x := (l, m, k, f, s)) (fun e => hn (by rw [HA.out]; exact e.2.1)))
      go_wp2_with fail
      go_ret
      exact ⟨ret_bool HV.out.symm, HB.out⟩

theorem implFreshAt (a b c : Value) (x : Dt) (n : Int) (w : World) (hv : ∃ xa na ca xb nb cb xc nc cc, a = .slice xa na ca ∧ b = .slice xb nb cb ∧ c = .slice xc nc cc) :
    Calls Tryz.prog 67 #[.agg (dc a b c x.2.2.2.1 x.2.2.2.2), .int .i64 n] w fun e w' => e = .returned (.bool (decide (n ≤ x.2.2.2.1))) ∧ Below w.heap.size w w' := by
  obtain ⟨l, m, k, f, s⟩ := x
  obtain ⟨xa, na, ca, xb, nb, cb, xc, nc, cc, rfl, rfl, rfl⟩ := hv
  simp only
  obtain ⟨z, hz⟩ : ∃ z, decide (n ≤ f) = z := ⟨_, rfl⟩
  have HB := Lib.hid ((Below.refl w.heap.size w).alloc (Nat.le_refl _) (.cells (dc (.slice xa na ca) (.slice xb nb cb) (.slice xc nc cc) f s) 34))
  rw [hz]
  go_enter Tryz.func67, Tryz.ntmps67
  go_wp2_with fail
  go_ret
  exact ⟨rfl, HB.out⟩

theorem specValidDataK (V : Value) (x : Dt) (w : World) (h : kD.At w V x) (hl : bulkD x ≤ 9000000) :
    Calls Tryz.prog 63 #[V] w fun e w' => e = .returned (.bool (validD x)) ∧ Below w.heap.size w w' := by
  obtain ⟨a, b, c, rfl, h9⟩ := kD_at h
  unfold bulkD at hl
  exact specValidData a b c x w h9 (by omega) (by omega)
theorem specFreshAtK (V : Value) (x : Dt) (n : Int) (w : World) (h : kD.At w V x) :
    Calls Tryz.prog 71 #[V, .int .i64 n] w fun e w' => e = .returned (.bool (decide (n ≤ x.2.2.2.1))) ∧ Below w.heap.size w w' := by
  obtain ⟨a, b, c, rfl, h9⟩ := kD_at h
  exact specFreshAt a b c x n w h9.shape

theorem implValidDataK (V : Value) (x : Dt) (w : World) (h : kD.At w V x) (hl : bulkD x ≤ 9000000) :
    Calls Tryz.prog 62 #[V] w fun e w' => e = .returned (.bool (validD x)) ∧ Below w.heap.size w w' := by
  obtain ⟨a, b, c, rfl, h9⟩ := kD_at h
  unfold bulkD at hl
  exact implValidData a b c x w h9 (by omega) (by omega)
theorem implFreshAtK (V : Value) (x : Dt) (n : Int) (w : World) (h : kD.At w V x) :
    Calls Tryz.prog 67 #[V, .int .i64 n] w fun e w' => e = .returned (.bool (decide (n ≤ x.2.2.2.1))) ∧ Below w.heap.size w w' := by
  obtain ⟨a, b, c, rfl, h9⟩ := kD_at h
  exact implFreshAt a b c x n w h9.shape
end Go.Proofs.YtcidfmmeonhkhaaGreatDoor.Row
/- EncodeData, model and program; the program's numbers. No conditions but that lengths fit. -/
namespace Go.Proofs.YtcidfmmeonhkhaaGreatDoor.Row
open Go.ChangeShapes Go.WideShapes Go.ChangeAt Go.RowKit Go.Instr
set_option linter.unusedVariables false
set_option maxRecDepth 100000

def encD (x : Dt) : List Int := if validD x = true then appName (appName [] x.1 ++ Var.var x.2.1.length ++ x.2.1) x.2.2.1 ++ Sl.encs [x.2.2.2.1, x.2.2.2.2] else []
end Go.Proofs.YtcidfmmeonhkhaaGreatDoor.Row
/- Contract of the program's EqualData. No conditions but that lengths fit. -/
namespace Go.Proofs.YtcidfmmeonhkhaaGreatDoor.Row
open Go.ChangeShapes Go.WideShapes Go.ChangeAt Go.RowKit Go.Instr
set_option linter.unusedVariables false
set_option maxRecDepth 100000

end Go.Proofs.YtcidfmmeonhkhaaGreatDoor.Row
/- Mathematics of DecodeData. No conditions but that lengths fit. -/
namespace Go.Proofs.YtcidfmmeonhkhaaGreatDoor.Row
open Go.ChangeShapes Go.WideShapes Go.ChangeAt Go.RowKit Go.Instr
set_option linter.unusedVariables false
set_option maxRecDepth 100000

def d0 : Dt := ([], [], [], 0, 0)
def rN1 (b : List Int) : List ByteArray × Int × Bool := rdN b 0
def rB1 (b : List Int) : List Int × Int × Bool := Sl.readB b (rN1 b).2.1 60
def rN2 (b : List Int) : List ByteArray × Int × Bool := rdN b (rB1 b).2.1
def rI1 (b : List Int) : List Int × Int × Bool := Sl.readIs b (rN2 b).2.1 2
/-- What DecodeData reads. -/
def gotD (b : List Int) : Dt := ((rN1 b).1, (rB1 b).1, (rN2 b).1, Sl.nth (rI1 b).1 0, Sl.nth (rI1 b).1 1)
def okD (b : List Int) : Prop := (rN1 b).2.2 = true ∧ (rB1 b).2.2 = true ∧ (rN2 b).2.2 = true ∧ (rI1 b).2.2 = true
noncomputable def dcD (b : List Int) : Dt × Bool := open Classical in if okD b ∧ (rI1 b).2.1 = b.length ∧ validD (gotD b) = true then (gotD b, true) else (d0, false)
theorem DOwn.nil (B : Nat) (w : World) : DOwn B w (.slice none 0 0) (.slice none 0 0) (.slice none 0 0) d0 := ⟨Own.nil _ _ _ _, Sl.Own.nil _ _ _ _, Own.nil _ _ _ _, fun g e => by (cases e), fun g e => by (cases e), fun g e => by (cases e)⟩
theorem DOwn.on {B : Nat} {w w' : World} {a b c : Value} {x : Dt} (h : DOwn B w a b c x) (hb : Below w.heap.size w w') : DOwn B w' a b c x := ⟨h.1.on hb, Sl.Own.on h.2.1 hb, h.2.2.1.on hb, h.2.2.2⟩
end Go.Proofs.YtcidfmmeonhkhaaGreatDoor.Row
/- Contract of the model's DecodeData. No conditions but that lengths fit. -/
namespace Go.Proofs.YtcidfmmeonhkhaaGreatDoor.Row
open Go.ChangeShapes Go.WideShapes Go.ChangeAt Go.RowKit Go.Instr
set_option linter.unusedVariables false
set_option maxRecDepth 100000

end Go.Proofs.YtcidfmmeonhkhaaGreatDoor.Row
/- Contract of the program's read and DecodeData. No conditions but that lengths fit. -/
namespace Go.Proofs.YtcidfmmeonhkhaaGreatDoor.Row
open Go.ChangeShapes Go.WideShapes Go.ChangeAt Go.RowKit Go.Instr
set_option linter.unusedVariables false
set_option maxRecDepth 100000

/-- What read leaves: the packet at block g, or nothing. -/
def ReadPost (w : World) (g : Nat) (b : List Int) (e : Ending) (w' : World) : Prop :=
  (okD b ∧ e = .returned (.tuple #[.int .i64 (rI1 b).2.1, .bool true]) ∧ w.grownBy w' (some g) ∧ ∃ a1 b1 c1, Ret.Blk w' g (dc a1 b1 c1 (gotD b).2.2.2.1 (gotD b).2.2.2.2) 34 ∧ DOwn w.heap.size w' a1 b1 c1 (gotD b)) ∨
  (¬ okD b ∧ e = .returned (.tuple #[.int .i64 0, .bool false]) ∧ Below w.heap.size w w')
end Go.Proofs.YtcidfmmeonhkhaaGreatDoor.Row
/- Chapter 8's functions, the model's and the program's, in the words of kinds. No conditions but that lengths fit. -/
namespace Go.Proofs.YtcidfmmeonhkhaaGreatDoor.Row
open Go.ChangeShapes Go.WideShapes Go.ChangeAt Go.RowKit Go.Instr
set_option linter.unusedVariables false
set_option maxRecDepth 100000

def eqD (x y : Dt) : Bool := decide (x = y)
theorem WfD.byt {x : Dt} (h : WfD x) : Sl.Byt x.2.1 := Sl.byt_of_wf h.2.1
section
variable {P : Program} {f : FuncId} {args : Array Value} {w : World}
end
theorem specVerifyDataK (V : Value) (t : Int) (x : Dt) (w : World) (h : kD.At w V x) (hn : WfD x) (hl : bulkD x ≤ 1200000) :
    Calls Tryz.prog 123 #[.int .i64 t, V] w fun e w' => e = .returned (.bool (verD t x)) ∧ Below w.heap.size w w' := by
  obtain ⟨a, b, c, rfl, h9⟩ := kD_at h
  exact specVerifyData a b c x t w h9 hn.byt (smD_of hl)
theorem implVerifyDataK (V : Value) (t : Int) (x : Dt) (w : World) (h : kD.At w V x) (hn : WfD x) (hl : bulkD x ≤ 1200000) :
    Calls Tryz.prog 89 #[.int .i64 t, V] w fun e w' => e = .returned (.bool (verD t x)) ∧ Below w.heap.size w w' := by
  obtain ⟨a, b, c, rfl, h9⟩ := kD_at h
  exact implVerifyData a b c x t w h9 hn.byt (smD_of hl)
end Go.Proofs.YtcidfmmeonhkhaaGreatDoor.Row
/- Contracts of VerifySignature and MatchingKeys, the program's and the model's. No conditions but that lengths fit. -/
namespace Go.Proofs.YtcidfmmeonhkhaaGreatDoor.Row.Ring
open Go.ChangeShapes Go.WideShapes Go.ChangeAt Go.RowKit Go.Instr
set_option linter.unusedVariables false
set_option maxRecDepth 100000

/-- A packet's cells, with its parts' slices. -/
theorem kD_cells {w : World} {xa xb xc : Option Addr} {na ca nb cb nc cc : Nat} {f0 s0 : Int} {x : Dt} (h : kD.At w (.agg #[.slice xa na ca, .slice xb nb cb, .slice xc nc cc, .int .i64 f0, .int .i64 s0]) x) : DHold w (.slice xa na ca) (.slice xb nb cb) (.slice xc nc cc) x ∧ f0 = x.2.2.2.1 ∧ s0 = x.2.2.2.2 := by
  obtain ⟨a, b, c, e, hd⟩ := kD_at h
  simp only [Value.agg.injEq] at e
  have e2 := congrArg Array.toList e
  simp only [List.cons.injEq, Value.int.injEq, true_and, and_true] at e2
  obtain ⟨rfl, rfl, rfl, rfl, rfl⟩ := e2
  exact ⟨hd, rfl, rfl⟩
/-- The places of the keys that verify, up to place k. -/
def matTo (T : List (List ByteArray × Int)) (x : Dt) (k : Nat) : List Int := ((List.range k).filter (fun i => verD (nth T i).2 x)).map (fun i : Nat => (i : Int))
def matK (T : List (List ByteArray × Int)) (x : Dt) : List Int := matTo T x T.length
set_option maxHeartbeats 4000000 in
theorem specVerifySignature (v V : Value) (T : List (List ByteArray × Int)) (x : Dt) (w : World) (h : TabHolds w v T) (g : kD.At w V x) (gn : WfD x) (hl : T.length ≤ 4000000) (hT : smT T) (hx : bulkD x ≤ 1200000) :
    Calls Tryz.prog 51 #[v, V] w fun e w' => e = .returned (.bool (verD (lkN T x.2.2.1) x)) ∧ Below w.heap.size w w' := by
  obtain ⟨y, n, cy, rfl, -, -, hh⟩ := h.shapeN
  obtain ⟨xa, na, ca, xb, nb, cb, xc, nc, cc, rfl, hg⟩ := kD_shapeA g
  obtain ⟨l, m, k, f, s⟩ := x
  simp only at hg ⊢
  have hb0 := ((Below.refl w.heap.size w).alloc (Nat.le_refl _) (.cells #[.slice xa na ca, .slice xb nb cb, .slice xc nc cc, .int .i64 f, .int .i64 s] 34)).drew
  have HB := Lib.hid hb0; have HH := Lib.hid (hh.on hb0); have HG := Lib.hid (hg.on hb0)
  have HK := Lib.hid ((kD_cells hg).1.2.2.on hb0)
  have HX := Lib.hid (Ret.Blk.new w #[.slice xa na ca, .slice xb nb cb, .slice xc nc cc, .int .i64 f, .int .i64 s] 34)
  have HL := Lib.hid hl; have HT := Lib.hid hT; have HN := Lib.hid gn; have HZ := Lib.hid hx
  have HKB := Lib.hid (show bulk k ≤ 9000000 by unfold bulkD at hx; simp only at hx; omega)
  obtain ⟨r, hr⟩ : ∃ r, lkN T k = r := ⟨_, rfl⟩
  obtain ⟨z, hz⟩ : ∃ z, verD r (l, m, k, f, s) = z := ⟨_, rfl⟩
  have HRR := Lib.hid hr; have HZZ := Lib.hid hz
  have KS0 := Lib.hid (show (w.alloc (.cells #[.slice xa na ca, .slice xb nb cb, .slice xc nc cc, .int .i64 f, .int .i64 s] 34)).drew.cell? ⟨w.heap.size, 0, none⟩ = some (.slice xa na ca) ∧ (w.alloc (.cells #[.slice xa na ca, .slice xb nb cb, .slice xc nc cc, .int .i64 f, .int .i64 s] 34)).drew.cell? ⟨w.heap.size, 1, none⟩ = some (.slice xb nb cb) ∧ (w.alloc (.cells #[.slice xa na ca, .slice xb nb cb, .slice xc nc cc, .int .i64 f, .int .i64 s] 34)).drew.cell? ⟨w.heap.size, 2, none⟩ = some (.slice xc nc cc) ∧ (w.alloc (.cells #[.slice xa na ca, .slice xb nb cb, .slice xc nc cc, .int .i64 f, .int .i64 s] 34)).drew.cell? ⟨w.heap.size, 3, none⟩ = some (.int .i64 f) ∧ (w.alloc (.cells #[.slice xa na ca, .slice xb nb cb, .slice xc nc cc, .int .i64 f, .int .i64 s] 34)).drew.cell? ⟨w.heap.size, 4, none⟩ = some (.int .i64 s) ∧ Below w.heap.size w (w.alloc (.cells #[.slice xa na ca, .slice xb nb cb, .slice xc nc cc, .int .i64 f, .int .i64 s] 34)).drew from ⟨HX.out.cell 0, HX.out.cell 1, HX.out.cell 2, HX.out.cell 3, HX.out.cell 4, HB.out⟩)
  rw [hr, hz]
  clear hb0 hh hg h g gn hl hT hx hr hz
  go_enter Tryz.func51, Tryz.ntmps51
  go_wp2_with fail
  go_region_held3 (fun w' => w'.cell? ⟨w.heap.size, 0, none⟩ = some (.slice xa na ca) ∧ w'.cell? ⟨w.heap.size, 1, none⟩ = some (.slice xb nb cb) ∧ w'.cell? ⟨w.heap.size, 2, none⟩ = some (.slice xc nc cc) ∧ w'.cell? ⟨w.heap.size, 3, none⟩ = some (.int .i64 f) ∧ w'.cell? ⟨w.heap.size, 4, none⟩ = some (.int .i64 s) ∧ Below w.heap.size w w') (first | exact KS0.out | exact KS1.out | exact KS2.out) (first | (go_at_call 123; refine (specVerifyDataK _ r (l, m, k, f, s) _ (HG.out.on hb1) HN.out HZ.out).mono ?_; rintro e w2 ⟨rfl, hb2⟩; rw [HZZ.out]; have KS2 := Lib.hid (show w2.cell? ⟨w.heap.size, 0, none⟩ = some (.slice xa na ca) ∧ w2.cell? ⟨w.heap.size, 1, none⟩ = some (.slice xb nb cb) ∧ w2.cell? ⟨w.heap.size, 2, none⟩ = some (.slice xc nc cc) ∧ w2.cell? ⟨w.heap.size, 3, none⟩ = some (.int .i64 f) ∧ w2.cell? ⟨w.heap.size, 4, none⟩ = some (.int .i64 s) ∧ Below w.heap.size w w2 from ⟨kc KS1.out.1 hb2, kc KS1.out.2.1 hb2, kc KS1.out.2.2.1 hb2, kc KS1.out.2.2.2.1 hb2, kc KS1.out.2.2.2.2.1 hb2, KS1.out.2.2.2.2.2.trans (hb2.mono KS1.out.2.2.2.2.2.size)⟩)) | (go_at_call 69; refine (specSecretOf _ _ T k _ HH.out HK.out HL.out HT.out HKB.out).mono ?_; rintro e w1 ⟨rfl, hb1⟩; rw [HRR.out]; have KS1 := Lib.hid (show w1.cell? ⟨w.heap.size, 0, none⟩ = some (.slice xa na ca) ∧ w1.cell? ⟨w.heap.size, 1, none⟩ = some (.slice xb nb cb) ∧ w1.cell? ⟨w.heap.size, 2, none⟩ = some (.slice xc nc cc) ∧ w1.cell? ⟨w.heap.size, 3, none⟩ = some (.int .i64 f) ∧ w1.cell? ⟨w.heap.size, 4, none⟩ = some (.int .i64 s) ∧ Below w.heap.size w w1 from ⟨kc KS0.out.1 hb1, kc KS0.out.2.1 hb1, kc KS0.out.2.2.1 hb1, kc KS0.out.2.2.2.1 hb1, kc KS0.out.2.2.2.2.1 hb1, KS0.out.2.2.2.2.2.trans (hb1.mono KS0.out.2.2.2.2.2.size)⟩)))
  all_goals
    go_wp2_with fail
    go_ret
    exact ⟨rfl, KS2.out.2.2.2.2.2⟩

set_option maxHeartbeats 4000000 in
theorem implVerifySignature (v V : Value) (T : List (List ByteArray × Int)) (x : Dt) (w : World) (h : TabHolds w v T) (g : kD.At w V x) (gn : WfD x) (hl : T.length ≤ 4000000) (hT : smT T) (hx : bulkD x ≤ 1200000) :
    Calls Tryz.prog 33 #[v, V] w fun e w' => e = .returned (.bool (verD (lkN T x.2.2.1) x)) ∧ Below w.heap.size w w' := by
  obtain ⟨y, n, cy, rfl, -, -, hh⟩ := h.shapeN
  obtain ⟨xa, na, ca, xb, nb, cb, xc, nc, cc, rfl, hg⟩ := kD_shapeA g
  obtain ⟨l, m, k, f, s⟩ := x
  simp only at hg ⊢
  have hb0 := ((Below.refl w.heap.size w).alloc (Nat.le_refl _) (.cells #[.slice xa na ca, .slice xb nb cb, .slice xc nc cc, .int .i64 f, .int .i64 s] 34)).drew
  have HB := Lib.hid hb0; have HH := Lib.hid (hh.on hb0); have HG := Lib.hid (hg.on hb0)
  have HK := Lib.hid ((kD_cells hg).1.2.2.on hb0)
  have HX := Lib.hid (Ret.Blk.new w #[.slice xa na ca, .slice xb nb cb, .slice xc nc cc, .int .i64 f, .int .i64 s] 34)
  have HL := Lib.hid hl; have HT := Lib.hid hT; have HN := Lib.hid gn; have HZ := Lib.hid hx
  have HKB := Lib.hid (show bulk k ≤ 9000000 by unfold bulkD at hx; simp only at hx; omega)
  obtain ⟨r, hr⟩ : ∃ r, lkN T k = r := ⟨_, rfl⟩
  obtain ⟨z, hz⟩ : ∃ z, verD r (l, m, k, f, s) = z := ⟨_, rfl⟩
  have HRR := Lib.hid hr; have HZZ := Lib.hid hz
  have KS0 := Lib.hid (show (w.alloc (.cells #[.slice xa na ca, .slice xb nb cb, .slice xc nc cc, .int .i64 f, .int .i64 s] 34)).drew.cell? ⟨w.heap.size, 0, none⟩ = some (.slice xa na ca) ∧ (w.alloc (.cells #[.slice xa na ca, .slice xb nb cb, .slice xc nc cc, .int .i64 f, .int .i64 s] 34)).drew.cell? ⟨w.heap.size, 1, none⟩ = some (.slice xb nb cb) ∧ (w.alloc (.cells #[.slice xa na ca, .slice xb nb cb, .slice xc nc cc, .int .i64 f, .int .i64 s] 34)).drew.cell? ⟨w.heap.size, 2, none⟩ = some (.slice xc nc cc) ∧ (w.alloc (.cells #[.slice xa na ca, .slice xb nb cb, .slice xc nc cc, .int .i64 f, .int .i64 s] 34)).drew.cell? ⟨w.heap.size, 3, none⟩ = some (.int .i64 f) ∧ (w.alloc (.cells #[.slice xa na ca, .slice xb nb cb, .slice xc nc cc, .int .i64 f, .int .i64 s] 34)).drew.cell? ⟨w.heap.size, 4, none⟩ = some (.int .i64 s) ∧ Below w.heap.size w (w.alloc (.cells #[.slice xa na ca, .slice xb nb cb, .slice xc nc cc, .int .i64 f, .int .i64 s] 34)).drew from ⟨HX.out.cell 0, HX.out.cell 1, HX.out.cell 2, HX.out.cell 3, HX.out.cell 4, HB.out⟩)
  rw [hr, hz]
  clear hb0 hh hg h g gn hl hT hx hr hz
  go_enter Tryz.func33, Tryz.ntmps33
  go_wp2_with fail
  go_region_held3 (fun w' => w'.cell? ⟨w.heap.size, 0, none⟩ = some (.slice xa na ca) ∧ w'.cell? ⟨w.heap.size, 1, none⟩ = some (.slice xb nb cb) ∧ w'.cell? ⟨w.heap.size, 2, none⟩ = some (.slice xc nc cc) ∧ w'.cell? ⟨w.heap.size, 3, none⟩ = some (.int .i64 f) ∧ w'.cell? ⟨w.heap.size, 4, none⟩ = some (.int .i64 s) ∧ Below w.heap.size w w') (first | exact KS0.out | exact KS1.out | exact KS2.out) (first | (go_at_call 89; refine (implVerifyDataK _ r (l, m, k, f, s) _ (HG.out.on hb1) HN.out HZ.out).mono ?_; rintro e w2 ⟨rfl, hb2⟩; rw [HZZ.out]; have KS2 := Lib.hid (show w2.cell? ⟨w.heap.size, 0, none⟩ = some (.slice xa na ca) ∧ w2.cell? ⟨w.heap.size, 1, none⟩ = some (.slice xb nb cb) ∧ w2.cell? ⟨w.heap.size, 2, none⟩ = some (.slice xc nc cc) ∧ w2.cell? ⟨w.heap.size, 3, none⟩ = some (.int .i64 f) ∧ w2.cell? ⟨w.heap.size, 4, none⟩ = some (.int .i64 s) ∧ Below w.heap.size w w2 from ⟨kc KS1.out.1 hb2, kc KS1.out.2.1 hb2, kc KS1.out.2.2.1 hb2, kc KS1.out.2.2.2.1 hb2, kc KS1.out.2.2.2.2.1 hb2, KS1.out.2.2.2.2.2.trans (hb2.mono KS1.out.2.2.2.2.2.size)⟩)) | (go_at_call 82; refine (implSecretOf _ _ T k _ HH.out HK.out HL.out HT.out HKB.out).mono ?_; rintro e w1 ⟨rfl, hb1⟩; rw [HRR.out]; have KS1 := Lib.hid (show w1.cell? ⟨w.heap.size, 0, none⟩ = some (.slice xa na ca) ∧ w1.cell? ⟨w.heap.size, 1, none⟩ = some (.slice xb nb cb) ∧ w1.cell? ⟨w.heap.size, 2, none⟩ = some (.slice xc nc cc) ∧ w1.cell? ⟨w.heap.size, 3, none⟩ = some (.int .i64 f) ∧ w1.cell? ⟨w.heap.size, 4, none⟩ = some (.int .i64 s) ∧ Below w.heap.size w w1 from ⟨kc KS0.out.1 hb1, kc KS0.out.2.1 hb1, kc KS0.out.2.2.1 hb1, kc KS0.out.2.2.2.1 hb1, kc KS0.out.2.2.2.2.1 hb1, KS0.out.2.2.2.2.2.trans (hb1.mono KS0.out.2.2.2.2.2.size)⟩)))
  all_goals
    go_wp2_with fail
    go_ret
    exact ⟨rfl, KS2.out.2.2.2.2.2⟩

end Go.Proofs.YtcidfmmeonhkhaaGreatDoor.Row.Ring
/- Contracts of the model's AddKey, and of SignWithKey, the model's and the program's. No conditions but that lengths fit. -/
namespace Go.Proofs.YtcidfmmeonhkhaaGreatDoor.Row.Ring
open Go.ChangeShapes Go.WideShapes Go.ChangeAt Go.RowKit Go.Instr
set_option linter.unusedVariables false
set_option maxRecDepth 100000

/-! ### SignWithKey -/
end Go.Proofs.YtcidfmmeonhkhaaGreatDoor.Row.Ring
namespace Go.Proofs.YtcidfmmeonhkhaaGreatDoor.Row
open Go.ChangeShapes Go.WideShapes Go.ChangeAt Go.RowKit Go.Instr
set_option linter.unusedVariables false
set_option maxRecDepth 100000
theorem own_ne9 {α : Type} [Inhabited α] {enc : α → Value} {e t : TypeId} {B g : Nat} {w : World} {v : Value} {l : List α} {cs : Array Value} (h : Row.Own e enc B w v l) (hb : Ret.Blk w g cs t) (hne : e ≠ t) : v.ownBlock = none ∨ v.ownBlock ≠ some g := by
  rcases h.2 with ⟨rfl, -⟩ | ⟨g2, cap, cur, rfl, -, hh, -⟩
  · exact Or.inl rfl
  · refine Or.inr fun e1 => ?_
    have e2 : g2 = g := by simpa [Value.ownBlock] using e1
    rw [e2, show w.heap[g]? = some (.cells cs t) from hb] at hh
    cases hh
    exact hne rfl
theorem own_setT9 {α : Type} [Inhabited α] {enc : α → Value} {e t : TypeId} {B g i : Nat} {w : World} {v u : Value} {l : List α} {cs : Array Value} (h : Row.Own e enc B w v l) (hb : Ret.Blk w g cs t) (hne : e ≠ t) : Row.Own e enc B (w.setCell ⟨g, i, none⟩ u) v l := h.grown (Ret.grownBy_set w ⟨g, i, none⟩ u) (own_ne9 h hb hne)
theorem DOwn.setT {B g i : Nat} {w : World} {a b c u : Value} {x : Dt} {cs : Array Value} (h : DOwn B w a b c x) (hb : Ret.Blk w g cs 34) : DOwn B (w.setCell ⟨g, i, none⟩ u) a b c x := ⟨own_setT9 h.1 hb (by decide), own_setT9 (enc := Value.int .u8) h.2.1 hb (by decide), own_setT9 h.2.2.1 hb (by decide), h.2.2.2⟩
theorem DOwn.five {B g : Nat} {w : World} {a b c a1 b1 c1 : Value} {f s : Int} {x : Dt} {cs : Array Value} (h : DOwn B w a1 b1 c1 x) (hb : Ret.Blk w g cs 34) : DOwn B (((((((w).setCell ⟨g, 0, none⟩ (a)).setCell ⟨g, 1, none⟩ (b)).setCell ⟨g, 2, none⟩ (c)).setCell ⟨g, 3, none⟩ (.int .i64 f)).setCell ⟨g, 4, none⟩ (.int .i64 s))) a1 b1 c1 x := ((((h.setT hb).setT (hb.set 0 a)).setT ((hb.set 0 a).set 1 b)).setT (((hb.set 0 a).set 1 b).set 2 c)).setT ((((hb.set 0 a).set 1 b).set 2 c).set 3 (.int .i64 f))
theorem DOwn.mono {B B' : Nat} {w : World} {a b c : Value} {x : Dt} (h : DOwn B w a b c x) (hB : B' ≤ B) : DOwn B' w a b c x := ⟨h.1.mono hB, Sl.Own.mono h.2.1 hB, h.2.2.1.mono hB, h.2.2.2⟩
end Go.Proofs.YtcidfmmeonhkhaaGreatDoor.Row
namespace Go.Proofs.YtcidfmmeonhkhaaGreatDoor.Row.Ring
open Go.ChangeShapes Go.WideShapes Go.ChangeAt Go.RowKit Go.Instr
set_option linter.unusedVariables false
set_option maxRecDepth 100000
theorem blk_five {g : Nat} {w : World} {a b c a0 b0 c0 : Value} {f s f0 s0 : Int} (hb : Ret.Blk w g (dc a0 b0 c0 f0 s0) 34) : Ret.Blk (((((((w).setCell ⟨g, 0, none⟩ (a)).setCell ⟨g, 1, none⟩ (b)).setCell ⟨g, 2, none⟩ (c)).setCell ⟨g, 3, none⟩ (.int .i64 f)).setCell ⟨g, 4, none⟩ (.int .i64 s))) g (dc a b c f s) 34 := ((((hb.set 0 a).set 1 b).set 2 c).set 3 (.int .i64 f)).set 4 (.int .i64 s)
theorem below_five {X g : Nat} {w0 w : World} {a b c : Value} {f s : Int} (h : Below X w0 w) (hX : X ≤ g) : Below X w0 (((((((w).setCell ⟨g, 0, none⟩ (a)).setCell ⟨g, 1, none⟩ (b)).setCell ⟨g, 2, none⟩ (c)).setCell ⟨g, 3, none⟩ (.int .i64 f)).setCell ⟨g, 4, none⟩ (.int .i64 s))) := by
  have st : ∀ {w1 : World} (i : Nat) (u : Value), Below X w0 w1 → Below X w0 (w1.setCell ⟨g, i, none⟩ u) := fun {w1} i u h1 => h1.trans ⟨rfl, rfl, rfl, by simp [World.setCell], fun k hk => Go.RowKit.Below.heap_setCell _ _ _ _ (by simp; omega)⟩
  exact st 4 _ (st 3 _ (st 2 _ (st 1 _ (st 0 _ h))))
theorem blk_five_other {g p : Nat} {w : World} {a b c : Value} {f s : Int} {cs : Array Value} {t : TypeId} (h : Ret.Blk w p cs t) (hne : p ≠ g) : Ret.Blk (((((((w).setCell ⟨g, 0, none⟩ (a)).setCell ⟨g, 1, none⟩ (b)).setCell ⟨g, 2, none⟩ (c)).setCell ⟨g, 3, none⟩ (.int .i64 f)).setCell ⟨g, 4, none⟩ (.int .i64 s))) p cs t :=
  ((((h.other (a := ⟨g, 0, none⟩) (Ne.symm hne) a).other (a := ⟨g, 1, none⟩) (Ne.symm hne) b).other (a := ⟨g, 2, none⟩) (Ne.symm hne) c).other (a := ⟨g, 3, none⟩) (Ne.symm hne) (.int .i64 f)).other (a := ⟨g, 4, none⟩) (Ne.symm hne) (.int .i64 s)
def zD : Dt := ([], [], [], 0, 0)
/-- What SignWithKey signs. -/
def sgX (T : List (List ByteArray × Int)) (key n : List ByteArray) (b : List Int) (u : Int) : Dt := sgD (lkN T key) (n, b, key, u, 0)
def sgOk (T : List (List ByteArray × Int)) (key n : List ByteArray) (b : List Int) (u : Int) : Bool := !(lkN T key == 0) && validD (sgX T key n b u)
def sgK (T : List (List ByteArray × Int)) (key n : List ByteArray) (b : List Int) (u : Int) : Dt := if sgOk T key n b u then sgX T key n b u else zD
/-- A signed packet: its cells in letters. -/
def GivesX (w : World) (ln : List ByteArray) (lb : List Int) (lk : List ByteArray) (u M : Int) (e : Ending) (w' : World) : Prop :=
  ∃ xa na ca xb nb cb xc nc cc, e = .returned (.agg #[.slice xa na ca, .slice xb nb cb, .slice xc nc cc, .int .i64 u, .int .i64 M]) ∧ DOwn w.heap.size w' (.slice xa na ca) (.slice xb nb cb) (.slice xc nc cc) (ln, lb, lk, u, M) ∧ Below w.heap.size w w'
end Go.Proofs.YtcidfmmeonhkhaaGreatDoor.Row.Ring
/- Contracts of SignWithKey, the model's and the program's. No conditions but that lengths fit. -/
namespace Go.Proofs.YtcidfmmeonhkhaaGreatDoor.Row.Ring
open Go.ChangeShapes Go.WideShapes Go.ChangeAt Go.RowKit Go.Instr
set_option linter.unusedVariables false
set_option maxRecDepth 100000

end Go.Proofs.YtcidfmmeonhkhaaGreatDoor.Row.Ring
/- Lists of keys, and a key, in the words of the exact laws; chapter 9's functions, the model's and the program's, in these words. No conditions but that lengths fit. -/
namespace Go.Proofs.YtcidfmmeonhkhaaGreatDoor.Row.Ring
open Go.ChangeShapes Go.WideShapes Go.ChangeAt Go.RowKit Go.Instr
set_option linter.unusedVariables false
set_option maxRecDepth 100000

abbrev Kt := List (List ByteArray × Int)
def kK.At (w : World) (V : Value) (T : Kt) : Prop := TabHolds w V T
def kK.In (B E : Nat) (w : World) (V : Value) (T : Kt) : Prop := TabIn B E w V T
section
variable {B E B' E' : Nat} {w w' : World} {V : Value} {T : Kt}
theorem kK.At.on (h : kK.At w V T) (hb : Below w.heap.size w w') : kK.At w' V T := TabHolds.on h hb
theorem kK.In.on (h : kK.In B E w V T) (hb : Below w.heap.size w w') : kK.In B E w' V T := TabIn.on h hb
theorem kK.In.at (h : kK.In B E w V T) : kK.At w V T := TabIn.holds h
theorem kK_shapeA (h : kK.At w V T) : ∃ x n c, V = .slice x n c ∧ kK.At w (.slice x n c) T := by
  obtain ⟨x, n, c, rfl, -, -, h⟩ := TabHolds.shapeN h
  exact ⟨x, n, c, rfl, h⟩
end
/-! ### a key -/
abbrev K1 := List ByteArray × Int
def k1.At (w : World) (V : Value) (x : K1) : Prop := ∃ v, V = .agg #[v, .int .i64 x.2] ∧ Holds Value.string w v x.1
def k1.In (B E : Nat) (w : World) (V : Value) (x : K1) : Prop := ∃ v, V = .agg #[v, .int .i64 x.2] ∧ Own 9 Value.string B w v x.1 ∧ ∀ g, v.ownBlock = some g → g < E
section
variable {B E B' E' : Nat} {w w' : World} {V : Value} {x : K1}
theorem k1.At.on (h : k1.At w V x) (hb : Below w.heap.size w w') : k1.At w' V x := by
  obtain ⟨v, rfl, h⟩ := h
  exact ⟨v, rfl, h.on hb⟩
theorem k1.In.on (h : k1.In B E w V x) (hb : Below w.heap.size w w') : k1.In B E w' V x := by
  obtain ⟨v, rfl, h, h1⟩ := h
  exact ⟨v, rfl, h.on hb, h1⟩
theorem k1.In.at (h : k1.In B E w V x) : k1.At w V x := by
  obtain ⟨v, rfl, h, h1⟩ := h
  exact ⟨v, rfl, h.holds⟩
end
def WfK1 (x : K1) : Prop := (∀ y ∈ x.1, y.size ≤ maxLen) ∧ (Lit.int .i64 x.2).wf = true
def mk1 (k : Int) (x : K1) : K1 := (marks markT k x.1.length, x.2)
/-! ### the functions -/
theorem len_bulkT {T : Kt} (h : bulkT T ≤ 1200000) : T.length ≤ 3000000 := by have := bulkT_len T; omega
theorem sm_bulkT {T : Kt} (h : bulkT T ≤ 1200000) : smT T := smT_of (by omega)
theorem specSecretOfK (V U : Value) (T : Kt) (m : List ByteArray) (w : World) (h : kK.At w V T) (g : kN.At w U m) (hl : bulkT T ≤ 1200000) (hm : bulk m ≤ 1200000) :
    Calls Tryz.prog 69 #[V, U] w fun e w' => e = .returned (.int .i64 (lkN T m)) ∧ Below w.heap.size w w' := by
  obtain ⟨v, rfl, g9⟩ := kN_at g
  exact specSecretOf V v T m w h g9 (Nat.le_trans (len_bulkT hl) (by decide)) (sm_bulkT hl) (by omega)
theorem specVerifySignatureK (V U : Value) (T : Kt) (x : Dt) (w : World) (h : kK.At w V T) (g : kD.At w U x) (gn : WfD x) (hl : bulkT T ≤ 1200000) (hx : bulkD x ≤ 1200000) :
    Calls Tryz.prog 51 #[V, U] w fun e w' => e = .returned (.bool (verD (lkN T x.2.2.1) x)) ∧ Below w.heap.size w w' := specVerifySignature V U T x w h g gn (Nat.le_trans (len_bulkT hl) (by decide)) (sm_bulkT hl) hx
theorem implSecretOfK (V U : Value) (T : Kt) (m : List ByteArray) (w : World) (h : kK.At w V T) (g : kN.At w U m) (hl : bulkT T ≤ 1200000) (hm : bulk m ≤ 1200000) :
    Calls Tryz.prog 82 #[V, U] w fun e w' => e = .returned (.int .i64 (lkN T m)) ∧ Below w.heap.size w w' := by
  obtain ⟨v, rfl, g9⟩ := kN_at g
  exact implSecretOf V v T m w h g9 (Nat.le_trans (len_bulkT hl) (by decide)) (sm_bulkT hl) (by omega)
theorem implVerifySignatureK (V U : Value) (T : Kt) (x : Dt) (w : World) (h : kK.At w V T) (g : kD.At w U x) (gn : WfD x) (hl : bulkT T ≤ 1200000) (hx : bulkD x ≤ 1200000) :
    Calls Tryz.prog 33 #[V, U] w fun e w' => e = .returned (.bool (verD (lkN T x.2.2.1) x)) ∧ Below w.heap.size w w' := implVerifySignature V U T x w h g gn (Nat.le_trans (len_bulkT hl) (by decide)) (sm_bulkT hl) hx
end Go.Proofs.YtcidfmmeonhkhaaGreatDoor.Row.Ring
/- Lists of keys and data packets of kstruct.py's kinds, as chapters 8 and 9 read them. No conditions. -/
namespace Go.Proofs.YtcidfmmeonhkhaaGreatDoor.Row
open Go.ChangeShapes Go.WideShapes Go.ChangeAt Go.RowKit Go.Instr
set_option linter.unusedVariables false
set_option maxRecDepth 100000

/-! ### what is read as a kind is read as the elder words say -/
theorem kD_ofK {w : World} {V : Value} {x : Dzt} (h : kDz.At w V x) : kD.At w V x := by
  obtain ⟨x0, n0, c0, x1, n1, c1, x2, n2, c2, rfl, g0, g1, g2⟩ := kDz_at h
  obtain ⟨v, e, h0⟩ := kN_at g0
  cases e
  obtain ⟨v, e, h1⟩ := kB_at g1
  cases e
  obtain ⟨v, e, h2⟩ := kN_at g2
  cases e
  exact kD_of (x := x) ⟨h0, h1, h2⟩
def entOf (m : Kym) : Ring.Ent := ⟨m.1.ad, m.1.n, m.1.cap, m.1.els, m.2⟩
theorem kK_ofK {w : World} {V : Value} {l : List Kyt} (h : kLKy.At w V l) : Ring.kK.At w V l := by
  obtain ⟨ad, n, cap, L, rfl, hn, rfl, hh, hel⟩ := kLKy_at h
  have hc : ∀ m : Kym, Ring.encE (entOf m) = kKy.cells m := fun m => rfl
  have hf : ∀ L : List Kym, flat Ring.encE (L.map entOf) = flat kKy.cells L := fun L => by
    unfold flat
    rw [List.flatMap_map]
    rfl
  refine ⟨L.map entOf, ?_, ?_, fun x hx => ?_⟩
  · unfold Ring.strip
    rw [List.map_map]
    refine List.map_congr_left fun m hm => ?_
    show (m.1.els, m.2) = (kN.strip m.1, m.2)
    rw [kN_strip]
  · obtain ⟨a, b, hv, hb, h9⟩ := hh
    refine ⟨a, b, by rw [List.length_map]; exact hv, by rw [List.length_map]; exact hb, ?_⟩
    rcases h9 with h9 | ⟨g, off, e, h9⟩
    · exact Or.inl (by rw [h9]; rfl)
    · exact Or.inr ⟨g, off, e, by rw [hf, List.length_map]; exact h9⟩
  · obtain ⟨m, hm, rfl⟩ := List.mem_map.1 hx
    have h1 := (hel m hm).1
    obtain ⟨v, e, h2⟩ := kN_at (Kd.at_of (k := kN) h1)
    rw [kN_strip] at h2
    have e2 : v = m.1.v := by
      have e3 : (Value.agg #[m.1.v]) = .agg #[v] := e
      injection e3 with e3
      exact (List.cons.inj (congrArg Array.toList e3)).1.symm
    rw [e2] at h2
    exact h2

end Go.Proofs.YtcidfmmeonhkhaaGreatDoor.Row
/- The model's KeyDigest. No conditions but that lengths fit. -/
namespace Go.Proofs.YtcidfmmeonhkhaaGreatDoor.Row
open Go.ChangeShapes Go.WideShapes Go.ChangeAt Go.RowKit Go.Instr
set_option linter.unusedVariables false
set_option maxRecDepth 100000

/-- What a key's certificate holds: nothing where there is no such key. -/
def digK (T : Ring.Kt) (m : List ByteArray) : List Int := if Ring.lkN T m = 0 then [] else Var.var (Seal.digest [Ring.lkN T m])
set_option maxHeartbeats 4000000 in
theorem specKeyDigest (V U : Value) (T : Ring.Kt) (m : List ByteArray) (w : World) (z : List Int) (hz : digK T m = z) (h : Ring.kK.At w V T) (g : kN.At w U m) (hl : Ring.bulkT T ≤ 1200000) (hm : bulk m ≤ 1200000) :
    Calls Tryz.prog 30 #[V, U] w (Sl.GivesB w z) := by
  obtain ⟨x, n, c, rfl, h⟩ := Ring.kK_shapeA h
  obtain ⟨xn, nn, cn, rfl, g⟩ := kN_shapeA g
  have hal := (Below.refl w.heap.size w).alloc (Nat.le_refl _) (.cells #[.slice xn nn cn] 32)
  have HB := Lib.hid hal
  have HC := Lib.hid (Ret.Box.new w (.slice xn nn cn) 32)
  have HS := Lib.hid (Ring.specSecretOfK _ _ T m _ (h.on hal) (g.on hal) hl hm)
  have HZ := Lib.hid hz
  clear h g hal hz hl hm
  go_enter Tryz.func30, Tryz.ntmps30
  have c0 := HC.out.cell
  go_wp2_with fail
  refine HS.out.mono ?_
  rintro e w1 ⟨rfl, hb⟩
  replace HB := Lib.hid (HB.out.trans (hb.mono HB.out.size))
  clear hb c0 HS HC
  obtain ⟨s, hs⟩ : ∃ s, Ring.lkN T m = s := ⟨_, rfl⟩
  rw [hs]
  have HK := Lib.hid hs
  clear hs
  by_cases h0 : s = 0
  · subst h0
    have HE := Lib.hid (show z = [] by rw [← HZ.out]; unfold digK; rw [if_pos HK.out])
    have HO := Lib.hid (Sl.own_empty .u8 5 w1)
    go_wp2_with fail
    go_ret
    exact ⟨_, rfl, by rw [HE.out]; exact Sl.Own.mono HO.out HB.out.size, HB.out.alloc HB.out.size _⟩
  · have HE := Lib.hid (show z = [] ++ Var.var (Seal.digest [s]) by rw [← HZ.out]; unfold digK; rw [HK.out, if_neg h0]; rfl)
    have hb1 := (Below.refl w1.heap.size w1).alloc (Nat.le_refl _) (.cells #[] 5)
    have hb2 := (Below.refl (w1.alloc (.cells #[] 5)).heap.size (w1.alloc (.cells #[] 5))).alloc (Nat.le_refl _) (.cells #[.int .i64 s] 3)
    have HO := Lib.hid ((Sl.own_empty .u8 5 w1).holds.on hb2)
    have hi := Sl.holds_one .i64 3 (w1.alloc (.cells #[] 5)) s
    rw [World.size_alloc] at hi
    have HI := Lib.hid hi
    clear hi
    have HBB := Lib.hid ((HB.out.trans (hb1.mono HB.out.size)).trans (hb2.mono (Nat.le_trans HB.out.size hb1.size)))
    clear hb1 hb2
    go_wp2_with fail
    refine (Sl.specDigest _ [s] _ HI.out (by simp)).mono ?_
    rintro e w2 ⟨rfl, rfl⟩
    go_wp2_with fail
    refine (Sl.specAppendVarint _ [] _ _ HO.out (by decide)).mono ?_
    rintro e w3 ⟨v, rfl, ho, hb⟩
    have HV := Lib.hid (Sl.Own.mono ho HBB.out.size); have HB3 := Lib.hid (HBB.out.trans (hb.mono HBB.out.size))
    clear ho hb
    go_wp2_with fail
    go_ret
    exact ⟨_, rfl, by rw [HE.out]; exact HV.out, HB3.out⟩
end Go.Proofs.YtcidfmmeonhkhaaGreatDoor.Row
/- Plain mathematics of names and their texts, no program in sight: a text is split at its slashes; joined again it is the text; a joined list of parts without slashes is split into the parts; runes and bytes. No conditions. -/
namespace Go.Proofs.YtcidfmmeonhkhaaGreatDoor.Row
open Go.ChangeShapes Go.WideShapes Go.ChangeAt Go.RowKit Go.Instr
set_option linter.unusedVariables false
set_option maxRecDepth 100000

def bl (s : ByteArray) : List UInt8 := s.data.toList
def mk (l : List UInt8) : ByteArray := ⟨l.toArray⟩
theorem bl_length (s : ByteArray) : (bl s).length = s.size := by
  show s.data.toList.length = s.data.size
  exact Array.length_toList
theorem bl_get (s : ByteArray) (i : Nat) (h : i < s.size) : (bl s)[i]'(by rw [bl_length]; exact h) = s[i]'h := by
  simp [bl]; rfl
/-! ### splitting at slashes -/
def goS (cur : List UInt8) : List UInt8 → List (List UInt8)
  | [] => [cur]
  | c :: t => if c = 47 then cur :: goS [] t else goS (cur ++ [c]) t
/-! ### texts of names -/
def fmtL (l : List ByteArray) : List UInt8 := 47 :: Lib.join (l.map bl) [47]
def fmtS (l : List ByteArray) : ByteArray := mk (fmtL l)
def splitB (s : ByteArray) : List ByteArray := (goS [] (bl s)).map mk
def fullB (s : ByteArray) : Bool := decide (s.size ≠ 0)
def partsB (s : ByteArray) : List ByteArray := (splitB s).filter fullB
def pOk (s : ByteArray) : Bool := validN (partsB s) && decide (fmtS (partsB s) = s)
def pN (s : ByteArray) : List ByteArray := if pOk s = true then partsB s else []
/-! ### runs of bytes and runes -/
def seg (s : ByteArray) (f i : Nat) : List UInt8 := ((bl s).drop f).take (i - f)
def rest (s : ByteArray) (i : Nat) : List UInt8 := (bl s).drop i
theorem rest_cons (s : ByteArray) {i : Nat} (h : i < s.size) : rest s i = s[i]'h :: rest s (i + 1) := by
  unfold rest
  rw [List.drop_eq_getElem_cons (by rw [bl_length]; exact h), bl_get s i h]
theorem seg_succ (s : ByteArray) {f i : Nat} (hf : f ≤ i) (h : i < s.size) : seg s f (i + 1) = seg s f i ++ [s[i]'h] := by
  unfold seg
  have e : i + 1 - f = (i - f) + 1 := by omega
  rw [e, List.take_add_one, List.getElem?_drop, show f + (i - f) = i by omega, List.getElem?_eq_getElem (by rw [bl_length]; exact h), bl_get s i h]
  rfl
theorem goS_byte (s : ByteArray) {f i : Nat} (hf : f ≤ i) (h : i < s.size) (hc : s[i]'h ≠ 47) : goS (seg s f i) (rest s i) = goS (seg s f (i + 1)) (rest s (i + 1)) := by
  rw [rest_cons s h, goS, if_neg hc, seg_succ s hf h]
theorem goS_bytes (s : ByteArray) {f i : Nat} (hf : f ≤ i) : ∀ m, (hm : i + m ≤ s.size) → (∀ j (hj : j < m), s[i + j]'(by omega) ≠ 47) → goS (seg s f i) (rest s i) = goS (seg s f (i + m)) (rest s (i + m))
  | 0, _, _ => rfl
  | m + 1, hm, hc => by
    rw [goS_bytes s hf m (by omega) (fun j hj => hc j (by omega)), goS_byte s (by omega) (by omega) (hc m (by omega))]
    rfl

end Go.Proofs.YtcidfmmeonhkhaaGreatDoor.Row
/- What a pattern's parts are: a variable (a question mark and a letter), the program's and the model's test of it; the texts * and **; which parts are right. No conditions but that lengths fit. -/
namespace Go.Proofs.YtcidfmmeonhkhaaGreatDoor.Row
open Go.ChangeShapes Go.WideShapes Go.ChangeAt Go.RowKit Go.Instr
set_option linter.unusedVariables false
set_option maxRecDepth 100000

def letterP (s : ByteArray) : Bool := decide (∃ h : s.size = 2, (s[0]'(by omega)).toNat = 63 ∧ 97 ≤ (s[1]'(by omega)).toNat ∧ (s[1]'(by omega)).toNat ≤ 122)
theorem letterP_size {s : ByteArray} (h : ¬ s.size = 2) : letterP s = false := decide_eq_false fun ⟨e, _⟩ => h e
theorem letterP_0 {s : ByteArray} (h : s.size = 2) (h0 : ¬ (s[0]'(by omega)).toNat = 63) : letterP s = false := decide_eq_false fun ⟨e, h1, _⟩ => h0 h1
theorem letterP_1 {s : ByteArray} (h : s.size = 2) (h0 : ¬ (97 ≤ (s[1]'(by omega)).toNat ∧ (s[1]'(by omega)).toNat ≤ 122)) : letterP s = false := decide_eq_false fun ⟨e, _, h1⟩ => h0 h1
theorem letterP_yes {s : ByteArray} (h : s.size = 2) (h0 : (s[0]'(by omega)).toNat = 63) (h1 : 97 ≤ (s[1]'(by omega)).toNat ∧ (s[1]'(by omega)).toNat ≤ 122) : letterP s = true := decide_eq_true ⟨h, h0, h1⟩
theorem letterP_iff {s : ByteArray} : letterP s = true ↔ ∃ h : s.size = 2, (s[0]'(by omega)).toNat = 63 ∧ 97 ≤ (s[1]'(by omega)).toNat ∧ (s[1]'(by omega)).toNat ≤ 122 := by unfold letterP; exact decide_eq_true_iff

set_option maxHeartbeats 1000000 in
theorem isVariable (s : ByteArray) (w : World) (hl : s.size ≤ 140737488351232) :
    Calls Tryz.prog 216 #[.string s] w fun e w' => e = .returned (.bool (letterP s)) ∧ w = w' := by
  by_cases h2 : s.size = 2
  · have hb0 := (s[0]'(by omega)).toNat_lt
    have hb1 := (s[1]'(by omega)).toNat_lt
    by_cases h0 : (s[0]'(by omega)).toNat = 63
    · by_cases ha : 97 ≤ (s[1]'(by omega)).toNat
      · by_cases hz : (s[1]'(by omega)).toNat ≤ 122
        · have HV := Lib.hid (letterP_yes h2 h0 ⟨ha, hz⟩)
          have t0 : (((s[0]'(by omega)).toNat : Int) == 63) = true := by simp [h0]
          clear h0
          go_enter Tryz.func216, Tryz.ntmps216
          go_wp2
          go_ret
          refine ⟨ret_bool ?_, rfl⟩
          rw [HV.out]; exact decide_eq_true (by omega)
        · have HV := Lib.hid (letterP_1 h2 (fun e => hz e.2))
          have t0 : (((s[0]'(by omega)).toNat : Int) == 63) = true := by simp [h0]
          clear h0
          go_enter Tryz.func216, Tryz.ntmps216
          go_wp2
          go_ret
          refine ⟨ret_bool ?_, rfl⟩
          rw [HV.out]; exact decide_eq_false (by omega)
      · have HV := Lib.hid (letterP_1 h2 (fun e => ha e.1))
        have t0 : (((s[0]'(by omega)).toNat : Int) == 63) = true := by simp [h0]
        clear h0
        go_enter Tryz.func216, Tryz.ntmps216
        go_wp2
        go_ret
        exact ⟨ret_bool HV.out.symm, rfl⟩
    · have HV := Lib.hid (letterP_0 h2 h0)
      have t0 : (((s[0]'(by omega)).toNat : Int) == 63) = false := by simp; omega
      clear h0
      go_enter Tryz.func216, Tryz.ntmps216
      go_wp2
      go_ret
      exact ⟨ret_bool HV.out.symm, rfl⟩
  · have HV := Lib.hid (letterP_size h2)
    have t0 : (((s.size : Nat) : Int) == 2) = false := by simp; omega
    clear h2
    go_enter Tryz.func216, Tryz.ntmps216
    go_wp2
    go_ret
    exact ⟨ret_bool HV.out.symm, rfl⟩

set_option maxHeartbeats 1000000 in
theorem l5Letter (s : ByteArray) (w : World) (hl : s.size ≤ 140737488351232) :
    Calls Tryz.prog 195 #[.string s] w fun e w' => e = .returned (.bool (letterP s)) ∧ w = w' := by
  by_cases h2 : s.size = 2
  · have hb0 := (s[0]'(by omega)).toNat_lt
    have hb1 := (s[1]'(by omega)).toNat_lt
    by_cases h0 : (s[0]'(by omega)).toNat = 63
    · have t0 : (((s[0]'(by omega)).toNat : Int) == 63) = true := by simp [h0]
      by_cases ha : 97 ≤ (s[1]'(by omega)).toNat ∧ (s[1]'(by omega)).toNat ≤ 122
      · have HV := Lib.hid (letterP_yes h2 h0 ha)
        have ha1 : (97 : Int) ≤ ((s[1]'(by omega)).toNat : Int) := by omega
        have ha2 : ((s[1]'(by omega)).toNat : Int) ≤ 122 := by omega
        clear h0 ha
        go_enter Tryz.func195, Tryz.ntmps195
        go_wp2_with fail
        refine (Num.specIn_true ha1 ha2 _).mono ?_
        rintro e w2 ⟨rfl, rfl⟩
        go_wp2
        go_ret
        exact ⟨ret_bool HV.out.symm, rfl⟩
      · have HV := Lib.hid (letterP_1 h2 ha)
        have hn : ¬ ((97 : Int) ≤ ((s[1]'(by omega)).toNat : Int) ∧ ((s[1]'(by omega)).toNat : Int) ≤ 122) := by omega
        have HNN := Lib.hid hn
        clear h0 ha hn
        go_enter Tryz.func195, Tryz.ntmps195
        go_wp2_with fail
        refine (Num.specIn_false HNN.out _).mono ?_
        rintro e w2 ⟨rfl, rfl⟩
        go_wp2
        go_ret
        exact ⟨ret_bool HV.out.symm, rfl⟩
    · have HV := Lib.hid (letterP_0 h2 h0)
      have t0 : (((s[0]'(by omega)).toNat : Int) == 63) = false := by simp; omega
      clear h0
      go_enter Tryz.func195, Tryz.ntmps195
      go_wp2
      go_ret
      exact ⟨ret_bool HV.out.symm, rfl⟩
  · have HV := Lib.hid (letterP_size h2)
    have t0 : (((s.size : Nat) : Int) == 2) = false := by simp; omega
    clear h2
    go_enter Tryz.func195, Tryz.ntmps195
    go_wp2
    go_ret
    exact ⟨ret_bool HV.out.symm, rfl⟩

end Go.Proofs.YtcidfmmeonhkhaaGreatDoor.Row
