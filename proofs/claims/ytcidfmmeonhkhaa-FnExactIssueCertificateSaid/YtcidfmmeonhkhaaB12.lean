/- Contracts and mathematics, joined: WantE, WantR, WantP, WantQ, DecI, VarBack, WantD, EncMath, RingMath, RingA, Thing. No conditions but those that each states. -/
import Derived.Test.YtcidfmmeonhkhaaB11
import Derived.Deep.RegionHeld3
import Derived.Deep.RegionLaw
import Derived.Maps.OwnSet
import Derived.Lib.AppendStr
import Derived.Test.YtcidfmmeonhkhaaB3
/- Contract of the model's EncodeInterest. No conditions but that lengths fit. -/
namespace Go.Proofs.Ytcidfmmeonhkhaa.Sl
open Go.ChangeShapes Go.WideShapes Go.ChangeAt Go.RowKit Go.Instr
set_option linter.unusedVariables false
/-- append to a slice of numbers of the call's own, as a step of a statement that draws its order. -/
theorem step_app2 {P : Program} {ops : Array Oper} {o : Oper} {a : Act} {w : World} {K : Act → World → Prop} {Q : Exit → Act → World → Prop} {E : Prop} {k : IntKind} {e t : TypeId} {bytes : Nat} {z : Value}
    (hg : o.guard = none) (s x : Operand) (hop : o.op = Op.call { callee := Callee.builtin Builtin.append, args := #[s, x], argTypes := #[t, t] }) (ht : P.underlying t = some (.slice e)) (hi : Elem P e z bytes) (hz : z.cells.size = 1)
    {B : Nat} {v : Value} {ad : Addr} {n c : Nat} {l m : List Int} (hs : a.eval s = v) (hx : a.eval x = .slice (some ad) n c) (hown : Own e k B w v l) (hsrc : Holds k w (.slice (some ad) n c) m) (hlen : (l.length + m.length) * 8 ≤ 140737488355328) (hby : bytes ≤ 8) (hB : B ≤ w.heap.size)
    (hK : ∀ v' w', Own e k B w' v' (l ++ m) → w.grownBy w' v.ownBlock → K (a.put o.dst v') w') :
    if Region.wanted o (yielded ops a.tmps) = true then Oper.wp P o a w K Q else E := by
  have hw : Region.wanted o (yielded ops a.tmps) = true := by simp [Region.wanted, hg]
  rw [if_pos hw]
  obtain ⟨i, h1, h2, h3, h4⟩ := info_parts hi
  have hbytes : (l.length + m.length) * bytes ≤ 140737488355328 := Nat.le_trans (Nat.mul_le_mul_left _ hby) hlen
  have h63 : l.length + m.length ≤ maxLen := by unfold maxLen; omega
  obtain rfl := hsrc.lenEq
  obtain ⟨v', w', hrun, r1, r2, _⟩ := run_append_own (P := P) w B t o.type e i z 1 bytes ht h1 h2 h3 h4 hz (by decide) v l.length (l.map (Value.int k)) hown ad m.length c (m.map (Value.int k)) (by simp) hsrc.cells (oneCell k m) h63 hbytes hB
  unfold Oper.wp
  simp [execOp, hop, resolve, invoke, builtin, hs, hx, hrun, Result.andThen]
  refine hK v' w' ?_ r2
  unfold Own
  rw [List.length_append, List.map_append]; exact r1
end Go.Proofs.Ytcidfmmeonhkhaa.Sl
namespace Go.Proofs.Ytcidfmmeonhkhaa.Row
open Go.ChangeShapes Go.WideShapes Go.ChangeAt Go.RowKit Go.Instr
set_option linter.unusedVariables false
set_option maxRecDepth 100000

def encW (x : Wt) : List Int := if validW x = true then appName [] x.1 ++ Sl.encs [x.2.1, x.2.2.1, x.2.2.2] else []
end Go.Proofs.Ytcidfmmeonhkhaa.Row
/- Contract of the model's ReadName. No conditions but that lengths fit. -/
namespace Go.Proofs.Ytcidfmmeonhkhaa.Row
open Go.ChangeShapes Go.WideShapes Go.ChangeAt Go.RowKit Go.Instr
set_option linter.unusedVariables false
set_option maxRecDepth 100000

/-- So many parts are read from place i on, behind those that were read. -/
def rdP : Nat → List Int → Int → List ByteArray → Option (List ByteArray × Int)
  | 0, _, i, acc => some (acc, i)
  | k + 1, b, i, acc => if (Sl.readB b i 8).2.2 = true then rdP k b (Sl.readB b i 8).2.1 (acc ++ [strOfNums (Sl.readB b i 8).1]) else none
def rdN (b : List Int) (i : Int) : List ByteArray × Int × Bool :=
  if (Var.readV b i).2.2 = false ∨ 6 < (Var.readV b i).1 then ([], 0, false)
  else match rdP (Var.readV b i).1.toNat b (Var.readV b i).2.1 [] with
    | none => ([], 0, false)
    | some (l, j) => if validN l = true then (l, j, true) else ([], 0, false)
def GivesN3 (w : World) (l : List ByteArray) (n : Int) (ok : Bool) (e : Ending) (w' : World) : Prop := ∃ v, e = .returned (.tuple #[.agg #[v], .int .i64 n, .bool ok]) ∧ Own 9 Value.string w.heap.size w' v l ∧ Below w.heap.size w w'
end Go.Proofs.Ytcidfmmeonhkhaa.Row
namespace Go.Proofs.Ytcidfmmeonhkhaa.Ret
variable {P : Program}
end Go.Proofs.Ytcidfmmeonhkhaa.Ret
namespace Go.Proofs.Ytcidfmmeonhkhaa.Row
open Go.ChangeShapes Go.WideShapes Go.ChangeAt Go.RowKit Go.Instr
set_option linter.unusedVariables false
set_option maxRecDepth 100000
end Go.Proofs.Ytcidfmmeonhkhaa.Row
/- Contracts of the program's functions on interests: validity, AppendName, the numbers, copy, the hop limit. No conditions but that lengths fit. -/
namespace Go.Proofs.Ytcidfmmeonhkhaa.Row
open Go.ChangeShapes Go.WideShapes Go.ChangeAt Go.RowKit Go.Instr
set_option linter.unusedVariables false
set_option maxRecDepth 100000

set_option maxHeartbeats 4000000 in
theorem implAppendName (v u : Value) (b : List Int) (l : List ByteArray) (w : World) (h : Sl.Holds .u8 w v b) (g : Holds Value.string w u l) (hb : b.length ≤ 2000000) (hl : bulk l ≤ 1200000) :
    Calls Try.prog 151 #[v, .agg #[u]] w (Sl.GivesB w (appName b l)) := by
  obtain ⟨x, cx, rfl, hcx, hh⟩ := h.shape
  obtain ⟨y, q, cy, rfl, hq, hcy, hg⟩ := g.shapeN
  obtain ⟨m, hm⟩ : ∃ m, m = b.length := ⟨_, rfl⟩
  rw [← hm] at hcx hh hb ⊢
  have HM := Lib.hid hm; have HQ := Lib.hid hq
  have hb0 := (Below.refl w.heap.size w).alloc (Nat.le_refl _) (.cells #[.slice y q cy] 47)
  have HB1 := Lib.hid hb0
  have HH := Lib.hid hh
  have HG := Lib.hid (hg.on hb0)
  have HX := Lib.hid (Ret.Box.new w (.slice y q cy) 47)
  have HBL := Lib.hid hl
  have HG0 := Lib.hid hg
  have hql : q ≤ 1200000 := by rw [hq]; exact Nat.le_trans (bulk_len l) hl
  clear hh h g hg hm hq hb0
  obtain ⟨ok, hok⟩ : ∃ z, validN l = z := ⟨_, rfl⟩
  have HOK := Lib.hid hok
  go_enter Try.func151, Try.ntmps151
  go_wp2_with fail
  refine (implValidName _ l _ HG.out (by omega)).mono ?_
  rintro e w2 ⟨rfl, hb2⟩
  rw [hok]
  have HB2 := Lib.hid (HB1.out.trans (hb2.mono HB1.out.size))
  have HX2 := Lib.hid (HX.out.on hb2)
  have HH2 := Lib.hid (HH.out.on HB2.out)
  have hx2 := HX2.out.cell
  clear hb2 hok
  cases ok with
  | false =>
    have HV : Hid (appName b l = b) := Lib.hid (by unfold appName; rw [if_neg (by rw [HOK.out]; simp)])
    have HOE := Lib.hid (Sl.own_empty .u8 5 w2)
    have HHE := Lib.hid (HH2.out.on ((Below.refl _ _).alloc (Nat.le_refl _) (.cells #[] 5)))
    have HBE := Lib.hid (HB2.out.alloc HB2.out.size (.cells #[] 5))
    go_wp2_with (at_builtin; refine Sl.wpList_app (k := .u8) (B := w2.heap.size) (l := []) (m := b) rfl _ _ rfl Try.underlying44 Sl.elemBYTE rfl rfl rfl HOE.out HHE.out ?_ (by decide) ?_ ?_)
    · have := HM.out; simp; omega
    · simp
    intro v1 w1 ho hg
    have HB := Lib.hid (HBE.out.grown hg HBE.out.size (fun g e => by cases e; exact HB2.out.size))
    have HO := Lib.hid (show Sl.Own 5 .u8 w.heap.size w1 v1 b from ho.mono HB2.out.size)
    clear ho hg
    go_wp2_with fail
    go_ret
    exact ⟨_, rfl, by rw [HV.out]; exact HO.out, HB.out⟩
  | true =>
    have HV : Hid (appName b l = b ++ encN l) := Lib.hid (by unfold appName; rw [if_pos HOK.out])
    go_wp2_with fail
    refine (Sl.implAppendVarint _ b q _ HH2.out (by rw [← HM.out]; omega)).mono ?_
    rintro e w3 ⟨v3, rfl, ho3, hb3⟩
    have HO3 := Lib.hid (show Sl.Own 5 .u8 w.heap.size w3 v3 (b ++ Var.var q ++ encPs (l.take 0)) by rw [List.take_zero, show encPs [] = [] from rfl, List.append_nil]; exact ho3.mono HB2.out.size)
    have HB3 := Lib.hid (HB2.out.trans (hb3.mono HB2.out.size))
    have HX3 := Lib.hid (HX2.out.on hb3)
    clear ho3 hb3 hx2
    have hx3 := HX3.out.cell
    go_wp2_with fail
    go_loopw [0, 6, 21] (fun tv pv iv wr => ∃ k : Nat, k ≤ q ∧ iv = .int .i64 k ∧ Hid (Sl.Own 5 .u8 w.heap.size wr tv (b ++ Var.var q ++ encPs (l.take k))) ∧ Hid (Below w.heap.size w wr)) (fun _ _ iv _ => q - (intOf iv).toNat)
    case atStart => exact ⟨0, Nat.zero_le _, rfl, HO3, HB3⟩
    case round =>
      obtain ⟨k, hk, rfl, hO, hB⟩ := hrel
      by_cases hlt : k < q
      · obtain ⟨b0, off0, hy, hc⟩ := (HG0.out.on hB.out).at (j := k) (by rw [← HQ.out]; exact hlt)
        subst hy
        have hsz : (nth l k).size ≤ 1200000 := by
          have h2 := size_bulk (l := l) (k := k) (by rw [← HQ.out]; exact hlt)
          have h3 := HBL.out
          omega
        have hle : (encPs (l.take k)).length ≤ 7200000 := by
          have h1 := encPs_len (l.take k)
          have h2 := bulk_take_le l k
          have h3 := HBL.out
          omega
        have hll : (b ++ Var.var q ++ encPs (l.take k)).length ≤ 10000000 := by
          have h1 := Var.var_len q
          rw [List.length_append, List.length_append, ← HM.out]; omega
        have HN := Lib.hid (encPs_next (l := l) (k := k) (by rw [← HQ.out]; exact hlt))
        obtain ⟨cp, wc', e0, h0, b0'⟩ := Sl.conv_bytes wr (nth l k)
        have H0 := Lib.hid h0; have B0 := Lib.hid b0'
        have HLL := Lib.hid hll
        clear h0 b0' hle hll
        go_wp2_with fail
        refine (Sl.implAppendBytes _ _ (b ++ Var.var q ++ encPs (l.take k)) (Sl.bytesOf (nth l k)) wc' (hO.out.on B0.out).holds H0.out HLL.out (by rw [Sl.bytesOf_length]; omega)).mono ?_
        rintro e w4 ⟨v4, rfl, ho4, hb4⟩
        have HB4 := Lib.hid ((hB.out.trans (B0.out.mono hB.out.size)).trans (hb4.mono (Nat.le_trans hB.out.size B0.out.size)))
        have HO4 := Lib.hid (show Sl.Own 5 .u8 w.heap.size w4 v4 (b ++ Var.var q ++ encPs (l.take (k + 1))) by
          have h9 := ho4.mono (Nat.le_trans hB.out.size B0.out.size)
          rw [HN.out, ← List.append_assoc, ← Sl.bytesOf_length, ← List.append_assoc]
          exact h9)
        clear ho4 hb4 e0 hc
        go_wp2_with fail
        go_roundw
        case rel => exact ⟨k + 1, by omega, by go_num, HO4, HB4⟩
        case measure => simp [intOf]; omega
      · obtain rfl : k = q := by omega
        clear hlt
        go_wp2_with fail
        go_ret
        refine ⟨_, rfl, ?_, hB.out⟩
        have h9 := hO.out
        rw [HQ.out, List.take_length] at h9
        rw [HV.out]
        unfold encN
        rw [← List.append_assoc]
        exact h9
end Go.Proofs.Ytcidfmmeonhkhaa.Row
/- Contract of the program's ReadName. No conditions but that lengths fit. -/
namespace Go.Proofs.Ytcidfmmeonhkhaa.Row
open Go.ChangeShapes Go.WideShapes Go.ChangeAt Go.RowKit Go.Instr
set_option linter.unusedVariables false
set_option maxRecDepth 100000

end Go.Proofs.Ytcidfmmeonhkhaa.Row
/- Contracts of DecodeInts, the reference model's and the program's: so many numbers at the offset, the offset behind them, true; or an empty slice, 0 and false. What is returned lies in memory of the call's own. No conditions but that the elements are bytes and the length fits. -/
namespace Go.Proofs.Ytcidfmmeonhkhaa.Sl
open Go.ChangeShapes Go.WideShapes Go.ChangeAt Go.RowKit Go.Instr
set_option linter.unusedVariables false
set_option maxRecDepth 100000

def decA : Nat → List Int → Int → List Int → List Int × Int × Bool
  | 0, _, i, acc => (acc, i, true)
  | k + 1, l, i, acc => if (Var.readV l i).2.2 = true then decA k l (Var.readV l i).2.1 (acc ++ [(Var.readV l i).1]) else ([], 0, false)
/-- What DecodeInts returns. -/
def readIs (l : List Int) (i n : Int) : List Int × Int × Bool := if (0 ≤ n ∧ n ≤ 100) ∧ 0 ≤ i ∧ i ≤ l.length then decA n.toNat l i [] else ([], 0, false)
def GivesI3 (w : World) (l : List Int) (n : Int) (ok : Bool) (e : Ending) (w' : World) : Prop := ∃ v, e = .returned (.tuple #[v, .int .i64 n, .bool ok]) ∧ Own 3 .i64 w.heap.size w' v l ∧ Below w.heap.size w w'
theorem GivesI3.of {w w' : World} {v : Value} {l m : List Int} {n p : Int} {a b : Bool} (h : (l, n, a) = (m, p, b)) (ho : Own 3 .i64 w.heap.size w' v l) (hb : Below w.heap.size w w') :
    GivesI3 w m p b (.returned (.tuple #[v, .int .i64 n, .bool a])) w' := by
  cases h; exact ⟨v, rfl, ho, hb⟩
end Go.Proofs.Ytcidfmmeonhkhaa.Sl
/- Plain mathematics: what the encoding writes is read back, and what is read is what the encoding writes. No program in sight. -/
namespace Go.Proofs.Ytcidfmmeonhkhaa.Var
open Sl (Byt)

end Go.Proofs.Ytcidfmmeonhkhaa.Var
/- Contract of the model's DecodeInterest. No conditions but that lengths fit. -/
namespace Go.Proofs.Ytcidfmmeonhkhaa.Row
open Go.ChangeShapes Go.WideShapes Go.ChangeAt Go.RowKit Go.Instr
set_option linter.unusedVariables false
set_option maxRecDepth 100000

def w0 : Wt := ([], 0, 0, 0)
/-- What DecodeInterest reads. -/
def gotW (b : List Int) : Wt := ((rdN b 0).1, Sl.nth (Sl.readIs b (rdN b 0).2.1 3).1 0, Sl.nth (Sl.readIs b (rdN b 0).2.1 3).1 1, Sl.nth (Sl.readIs b (rdN b 0).2.1 3).1 2)
def dcW (b : List Int) : Wt × Bool :=
  if (rdN b 0).2.2 = true ∧ (Sl.readIs b (rdN b 0).2.1 3).2.2 = true ∧ (Sl.readIs b (rdN b 0).2.1 3).2.1 = b.length ∧ validW (gotW b) = true then (gotW b, true) else (w0, false)
end Go.Proofs.Ytcidfmmeonhkhaa.Row
/- Plain mathematics of encodings: what is encoded is read back, what is read is what is encoded. No conditions but those that are named. -/
namespace Go.Proofs.Ytcidfmmeonhkhaa.Row
open Go.RowKit
set_option linter.unusedVariables false
set_option maxRecDepth 100000

/-! ### what is read is what is encoded -/
/-! ### what is encoded is read back -/
theorem str_back (s : ByteArray) : strOfNums (Sl.bytesOf s) = s := by
  obtain ⟨⟨d⟩⟩ := s
  unfold strOfNums Sl.bytesOf
  simp only [List.map_map]
  congr 1
  congr 1
  conv => rhs; rw [← List.map_id d]
  apply List.map_congr_left
  intro x hx
  simp only [Function.comp, id, Int.toNat_natCast, UInt8.ofNat_toNat]
end Go.Proofs.Ytcidfmmeonhkhaa.Row
/- Keyrings as data: a map from a name's text to the first key with this name; the numbers that are in use; valid lists of keys. No conditions. -/
namespace Go.Proofs.Ytcidfmmeonhkhaa.Row.Ring
open Go.ChangeShapes Go.WideShapes Go.ChangeAt Go.RowKit Go.Instr
set_option linter.unusedVariables false
set_option maxRecDepth 100000

/-! ### names' texts -/
theorem enc_app (n : Nat) : ∀ (m : Nat) (s t : List Int), Var.enc n ++ s = Var.enc m ++ t → n = m ∧ s = t := by
  induction n using Nat.strongRecOn with
  | ind n ih =>
    intro m s t h
    by_cases hn : n < 128
    · by_cases hm : m < 128
      · rw [Var.enc_small hn, Var.enc_small hm] at h
        simp only [List.cons_append, List.nil_append, List.cons.injEq] at h
        exact ⟨by omega, h.2⟩
      · rw [Var.enc_small hn, Var.enc_big hm] at h
        simp only [List.cons_append, List.nil_append, List.cons.injEq] at h
        exact absurd h.1 (by omega)
    · by_cases hm : m < 128
      · rw [Var.enc_big hn, Var.enc_small hm] at h
        simp only [List.cons_append, List.nil_append, List.cons.injEq] at h
        exact absurd h.1 (by omega)
      · rw [Var.enc_big hn, Var.enc_big hm] at h
        simp only [List.cons_append, List.cons.injEq] at h
        obtain ⟨e1, e2⟩ := ih (n / 128) (by omega) (m / 128) s t h.2
        exact ⟨by omega, e2⟩
theorem encPs_cons (s : ByteArray) (r : List ByteArray) : encPs (s :: r) = Var.var s.size ++ (Sl.bytesOf s ++ encPs r) := by simp [encPs]
/-- The parts are no longer than an integer that is encoded. -/
def smN (l : List ByteArray) : Prop := ∀ x ∈ l, x.size ≤ 1000000000000
theorem smN_bulk {l : List ByteArray} (h : bulk l ≤ 9000000) : smN l := fun x hx => by
  obtain ⟨k, hk, rfl⟩ := List.getElem_of_mem hx
  have := size_bulk hk
  rw [nth_eq hk] at this
  omega
theorem encPs_inj : ∀ (l m : List ByteArray), smN l → smN m → encPs l = encPs m → l = m
  | [], [], _, _, _ => rfl
  | [], s :: r, _, hm, h => by
    rw [encPs_cons, Var.var_in (by omega) (by have := hm s (by simp); omega)] at h
    have h1 := congrArg List.length h
    have h2 := Var.enc_pos (s.size : Int).toNat
    simp only [List.length_append] at h1
    have h3 : (encPs []).length = 0 := rfl
    omega
  | s :: r, [], hl, _, h => by
    rw [encPs_cons, Var.var_in (by omega) (by have := hl s (by simp); omega)] at h
    have h1 := congrArg List.length h
    have h2 := Var.enc_pos (s.size : Int).toNat
    simp only [List.length_append] at h1
    have h3 : (encPs []).length = 0 := rfl
    omega
  | s :: r, t :: q, hl, hm, h => by
    rw [encPs_cons, encPs_cons, Var.var_in (by omega) (by have := hl s (by simp); omega), Var.var_in (by omega) (by have := hm t (by simp); omega)] at h
    obtain ⟨e1, e2⟩ := enc_app _ _ _ _ h
    have e3 : s.size = t.size := by omega
    obtain ⟨e4, e5⟩ := List.append_inj e2 (by rw [Sl.bytesOf_length, Sl.bytesOf_length, e3])
    have e6 : s = t := by rw [← str_back s, ← str_back t, e4]
    rw [e6, encPs_inj r q (fun x hx => hl x (by simp [hx])) (fun x hx => hm x (by simp [hx])) e5]
theorem encPs_byt : ∀ l : List ByteArray, Sl.Byt (encPs l)
  | [] => fun x hx => by simp [encPs] at hx
  | s :: r => fun x hx => by
    rw [encPs_cons] at hx
    rcases List.mem_append.1 hx with hx | hx
    · unfold Var.var at hx
      split at hx
      · exact Var.enc_byte _ x hx
      · simp at hx
    · rcases List.mem_append.1 hx with hx | hx
      · exact Sl.bytesOf_byt s x hx
      · exact encPs_byt r x hx
/-- What the program keeps a name's key under. -/
def txt (l : List ByteArray) : ByteArray := strOfNums (encPs l)
def kl (l : List ByteArray) : Lit := .string (txt l).data.toList
theorem bytes_inj : ∀ (a b : List Int), Sl.Byt a → Sl.Byt b → (a.map fun n => UInt8.ofNat n.toNat) = (b.map fun n => UInt8.ofNat n.toNat) → a = b
  | [], [], _, _, _ => rfl
  | [], _ :: _, _, _, h => by simp at h
  | _ :: _, [], _, _, h => by simp at h
  | x :: r, y :: s, ha, hb, h => by
    simp only [List.map_cons, List.cons.injEq] at h
    have h1 := ha x (by simp)
    have h2 := hb y (by simp)
    have h3 := congrArg UInt8.toNat h.1
    simp at h3
    have h4 : x = y := by omega
    rw [h4, bytes_inj r s (fun z hz => ha z (by simp [hz])) (fun z hz => hb z (by simp [hz])) h.2]
theorem kl_inj {l m : List ByteArray} (hl : smN l) (hm : smN m) (h : kl l = kl m) : l = m := by
  have h1 : (txt l).data.toList = (txt m).data.toList := by
    unfold kl at h
    injection h
  unfold txt at h1
  rw [strOfNums_data, strOfNums_data] at h1
  exact encPs_inj l m hl hm (bytes_inj _ _ (encPs_byt l) (encPs_byt m) (by simpa using h1))
theorem kl_key (l : List ByteArray) : WideAt.IsKeyLit (kl l) := trivial
theorem txt_size (l : List ByteArray) : (txt l).size ≤ 6 * bulk l := by
  have h := encPs_len l
  have e : (txt l).size = (encPs l).length := by
    show (txt l).data.size = _
    unfold txt
    have := congrArg List.length (strOfNums_data (encPs l))
    simpa using this
  omega

/-! ### the keyring -/
/-- An element is held as it is. -/
def heldV (v : Value) : Option (DataW Value × List MemPlace) := some (.held v, [])
theorem heldV_inj {v u : Value} {ps : List MemPlace} (h : heldV v = some (.held u, ps)) : v = u := by
  unfold heldV at h
  cases h
  rfl
def step (D : DataW Value) (x : List ByteArray × Value) : DataW Value := if Maps.has D (kl x.1) then D else D.put (kl x.1) (.held x.2)
def ringD (l : List (List ByteArray × Value)) : DataW Value := l.foldl step (.map [])
theorem ringD_next (l : List (List ByteArray × Value)) (x : List ByteArray × Value) : ringD (l ++ [x]) = step (ringD l) x := by simp [ringD, List.foldl_append]
theorem step_tidy {D : DataW Value} (h : Maps.Tidy D) (x : List ByteArray × Value) : Maps.Tidy (step D x) := by
  unfold step
  split
  · exact h
  · exact h.put (kl_key _) _
/-- The first one with this name. -/
def fst1 (m : List ByteArray) : List (List ByteArray × Value) → DataW Value → DataW Value
  | [], z => z
  | x :: r, z => if x.1 = m then .held x.2 else fst1 m r z
theorem fold_at (m : List ByteArray) (hm : smN m) (z : DataW Value) : ∀ (l : List (List ByteArray × Value)) (D : DataW Value), (∀ x ∈ l, smN x.1) → Maps.Tidy D →
    (l.foldl step D).atKey (kl m) z = if Maps.has D (kl m) then D.atKey (kl m) z else fst1 m l z
  | [], D, _, _ => by
    show D.atKey (kl m) z = _
    split
    · rfl
    · rename_i h
      exact Maps.atKey_of_not_has (by simpa using h) z
  | x :: r, D, hl, hD => by
    have ih := fold_at m hm z r (step D x) (fun y hy => hl y (by simp [hy])) (step_tidy hD x)
    rw [List.foldl_cons, ih]
    by_cases he : x.1 = m
    · rw [show fst1 m (x :: r) z = .held x.2 from if_pos he]
      unfold step
      rw [he]
      cases hh : Maps.has D (kl m) with
      | true => simp [hh]
      | false =>
        simp only [Bool.false_eq_true, if_false]
        rw [Maps.has_put_same hD.isMap (kl_key m), Maps.atKey_put_same hD.isMap (kl_key m)]
        simp
    · rw [show fst1 m (x :: r) z = fst1 m r z from if_neg he]
      have hne : kl m ≠ kl x.1 := fun e => he (kl_inj hm (hl x (by simp)) e).symm
      unfold step
      cases hh : Maps.has D (kl x.1) with
      | true => simp
      | false =>
        simp only [Bool.false_eq_true, if_false]
        rw [Maps.has_put_other hne, Maps.atKey_put_other hne]
theorem ringD_at {l : List (List ByteArray × Value)} {m : List ByteArray} (hl : ∀ x ∈ l, smN x.1) (hm : smN m) (z : DataW Value) : (ringD l).atKey (kl m) z = fst1 m l z := by
  unfold ringD
  rw [fold_at m hm z l _ hl Maps.tidy_empty]
  simp [Maps.has]
/-! ### the numbers in use -/
def sk (s : Int) : Lit := .int .i64 s
def secD (l : List Int) : DataW Value := l.foldl (fun D s => D.put (sk s) (.held (.bool true))) (.map [])
/-! ### lists of keys -/
/-- The keys as they are held. -/
def pairs (L : List Ent) : List (List ByteArray × Value) := L.map fun x => (x.ps, x.whole)
theorem pairs_take (L : List Ent) {k : Nat} (h : k < L.length) : pairs (L.take (k + 1)) = pairs (L.take k) ++ [((nth L k).ps, (nth L k).whole)] := by
  rw [List.take_succ_eq_append_getElem h, ← nth_eq h]; simp [pairs]
theorem pairs_sm {L : List Ent} (h : smT (strip L)) : ∀ x ∈ pairs L, smN x.1 := by
  intro x hx
  obtain ⟨y, hy, rfl⟩ := List.mem_map.1 hx
  exact smN_bulk (h _ (strip_mem hy))
theorem lkN_cons (x : List ByteArray × Int) (T : List (List ByteArray × Int)) (n : List ByteArray) : lkN (x :: T) n = if x.1 = n then x.2 else lkN T n := by
  by_cases he : x.1 = n
  · have h1 : isN n x = true := by unfold isN; exact eqB_true he
    unfold lkN
    rw [List.findIdx_cons, h1, if_pos he]
    simp [nth]
  · have h1 : isN n x = false := by unfold isN; exact eqB_false he
    unfold lkN
    rw [List.findIdx_cons, h1, if_neg he]
    simp only [cond_false, List.length_cons, Nat.add_lt_add_iff_right]
    by_cases h2 : T.findIdx (isN n) < T.length
    · rw [if_pos h2, if_pos h2]; simp [nth]
    · rw [if_neg h2, if_neg h2]
theorem lkN_nil (n : List ByteArray) : lkN [] n = 0 := by simp [lkN]
def zK : Value := .agg #[.slice none 0 0, .int .i64 0]
/-- What is held under a name: a key with the number that the model finds. -/
theorem fst1_lk (m : List ByteArray) : ∀ L : List Ent, ∃ ad n cap, fst1 m (pairs L) (.held zK) = .held (.agg #[.slice ad n cap, .int .i64 (lkN (strip L) m)])
  | [] => ⟨none, 0, 0, by show DataW.held zK = _; rw [show strip [] = [] from rfl, lkN_nil]; rfl⟩
  | x :: L => by
    have e1 : pairs (x :: L) = (x.ps, x.whole) :: pairs L := rfl
    have e2 : strip (x :: L) = x.t :: strip L := rfl
    rw [e1, e2, lkN_cons]
    unfold fst1
    by_cases he : x.ps = m
    · rw [if_pos (show (x.ps, x.whole).1 = m from he), if_pos (show x.t.1 = m from he)]
      exact ⟨x.ad, x.n, x.cap, rfl⟩
    · rw [if_neg (show ¬ (x.ps, x.whole).1 = m from he), if_neg (show ¬ x.t.1 = m from he)]
      exact fst1_lk m L
/-- A key that is valid by itself. -/
def vkey (x : List ByteArray × Int) : Bool := validN x.1 && decide (0 < x.1.length) && Num.inB x.2 1 2147483646
def Vk (T : List (List ByteArray × Int)) : Prop := (∀ x ∈ T, vkey x = true) ∧ (T.map (·.1)).Nodup ∧ (T.map (·.2)).Nodup
def validK (T : List (List ByteArray × Int)) : Bool := decide ((∀ x ∈ T, vkey x = true) ∧ (T.map (·.1)).Nodup ∧ (T.map (·.2)).Nodup ∧ T.length ≤ 8)
end Go.Proofs.Ytcidfmmeonhkhaa.Row.Ring
/- Contracts of the program's keyring: the text under which a name's key is kept, the map, the search in it; of the model's search. No conditions but that lengths fit. -/
namespace Go.Proofs.Ytcidfmmeonhkhaa.Row.Ring
open Go.ChangeShapes Go.WideShapes Go.ChangeAt Go.RowKit Go.Instr
set_option linter.unusedVariables false
set_option maxRecDepth 100000

theorem own_str {B : Nat} {w : World} {v : Value} {l : List Int} {s : ByteArray} (h : w.ownsRow B 5 1 v (l.length + s.size) (l.map (Value.int .u8) ++ Lib.strCells s)) : Sl.Own 5 .u8 B w v (l ++ Sl.bytesOf s) := by
  unfold Sl.Own
  have e : (l ++ Sl.bytesOf s).map (Value.int .u8) = l.map (Value.int .u8) ++ Lib.strCells s := by
    rw [List.map_append]
    unfold Sl.bytesOf Lib.strCells
    rw [List.map_map]
    rfl
  rw [e, List.length_append, Sl.bytesOf_length]
  exact h

set_option maxHeartbeats 2000000 in
theorem nameText (v : Value) (l : List ByteArray) (w : World) (h : Holds Value.string w v l) (hl : bulk l ≤ 9000000) :
    Calls Try.prog 97 #[.agg #[v]] w fun e w' => e = .returned (.string (txt l)) ∧ Below w.heap.size w w' := by
  obtain ⟨x, n, cap, rfl, hn, hcap, hh⟩ := h.shapeN
  obtain ⟨i0, hi, hz0, hz1, hz2⟩ := info_parts (show (Try.prog.info? 5).map (fun i => (i.zero, i.size, i.bytes)) = some (some (.int .u8 0), 1, 1) by kernel_rfl)
  have hb0 := (Below.refl w.heap.size w).alloc (Nat.le_refl _) (.cells #[.slice x n cap] 47)
  have hb1 := hb0.alloc (by simp) (.cells #[] 5)
  have HB1 := Lib.hid hb1
  have HH := Lib.hid hh
  have hoe := Sl.own_empty .u8 5 (w.alloc (.cells #[.slice x n cap] 47))
  rw [World.size_alloc] at hoe
  have HO0 := Lib.hid (show Sl.Own 5 .u8 w.heap.size ((w.alloc (.cells #[.slice x n cap] 47)).alloc (.cells #[] 5)) (.slice (some ⟨w.heap.size + 1, 0, none⟩) 0 0) (encPs (l.take 0)) from hoe.mono (Nat.le_succ _))
  have HN := Lib.hid hn
  have HL := Lib.hid hl
  have hnl : n ≤ 9000000 := by rw [hn]; exact Nat.le_trans (bulk_len l) hl
  have HI := Lib.hid hi; have HZ0 := Lib.hid hz0; have HZ1 := Lib.hid hz1; have HZ2 := Lib.hid hz2
  clear hh h hn hl hb0 hb1 hoe hi hz0 hz1 hz2
  go_enter Try.func97, Try.ntmps97
  go_wp2_with fail
  go_loopw [3, 10] (fun bv iv wr => ∃ k : Nat, k ≤ n ∧ iv = .int .i64 k ∧ Hid (Sl.Own 5 .u8 w.heap.size wr bv (encPs (l.take k))) ∧ Hid (Below w.heap.size w wr)) (fun _ iv _ => n - (intOf iv).toNat)
  case atStart => exact ⟨0, Nat.zero_le _, rfl, HO0, HB1⟩
  case round =>
    obtain ⟨k, hk, rfl, hO, hB⟩ := hrel
    by_cases hlt : k < n
    · obtain ⟨b0, off0, hy, hc⟩ := (HH.out.on hB.out).at (j := k) (by rw [← HN.out]; exact hlt)
      subst hy
      have hsz : (nth l k).size ≤ 9000000 := by
        have h2 := size_bulk (l := l) (k := k) (by rw [← HN.out]; exact hlt)
        have h3 := HL.out
        omega
      have hle : (encPs (l.take k)).length ≤ 54000000 := by
        have h1 := encPs_len (l.take k)
        have h2 := bulk_take_le l k
        have h3 := HL.out
        omega
      have HLE := Lib.hid hle
      have HNX := Lib.hid (encPs_next (l := l) (k := k) (by rw [← HN.out]; exact hlt))
      clear hle
      go_wp2_with fail
      refine (Sl.addVarint w.heap.size _ (encPs (l.take k)) (nth l k).size wr (Or.inl hO.out) hB.out.size (by have := HLE.out; omega) (by omega) (by omega)).mono ?_
      rintro e w1 ⟨v1, rfl, ho1, hb1⟩
      have HO1 := Lib.hid ho1
      have HB2 := Lib.hid (hB.out.trans hb1)
      have hvl := Var.var_len (nth l k).size
      clear ho1 hb1 hc
      go_wp2_with (at_builtin; refine Lib.wpList_append_own_string _ rfl _ _ 44 9 rfl w.heap.size 5 i0 Try.underlying44 Try.underlying9 HI.out HZ0.out HZ1.out HZ2.out _ _ _ rfl HO1.out (nth l k) rfl ?_ ?_ HB2.out.size ?_)
      · unfold maxLen; have := HLE.out; rw [List.length_append]; omega
      · have := HLE.out; rw [List.length_append]; omega
      intro v2 w2 ho2 hg2 _
      have HO2 := Lib.hid (show Sl.Own 5 .u8 w.heap.size w2 v2 (encPs (l.take (k + 1))) by
        have h9 := own_str (l := encPs (l.take k) ++ Var.var (nth l k).size) (s := nth l k) (by rw [List.length_append, List.map_append, List.append_assoc]; exact ho2)
        rw [HNX.out, ← List.append_assoc]
        exact h9)
      have HB3 := Lib.hid (HB2.out.grown hg2 HB2.out.size (fun g hg => (HO1.out.lt g hg).1))
      clear ho2 hg2
      go_wp2_with fail
      go_roundw
      case rel => exact ⟨k + 1, by omega, by go_num, HO2, HB3⟩
      case measure => simp [intOf]; omega
    · obtain rfl : k = n := by omega
      clear hlt
      have ho := hO.out
      rw [HN.out, List.take_length] at ho
      obtain ⟨x1, c1, rfl, -, hh1⟩ := ho.holds.shape
      have hcv := Sl.conv_holds hh1
      clear ho hh1
      go_wp2_with fail
      go_ret
      exact ⟨rfl, hB.out⟩

theorem zeroKey (w : World) : (zeroValue 89).run Try.prog w = .ok zK w := by kernel_rfl
theorem strLaw : Maps.Keyed Try.prog 9 := Maps.string_keyed Try.underlying9
theorem keyTxt {l : List ByteArray} (h : bulk l ≤ 9000000) : keyOf Try.prog 9 (.string (txt l)) = some (kl l) := Go.WideMaps.keyOf_string_mk Try.underlying9 (by have := txt_size l; unfold maxLen; omega)
theorem pairs_key (m : List ByteArray) (hm : smN m) {L : List Ent} (hL : smT (strip L)) : ∃ ad n cap, (ringD (pairs L)).atKey (kl m) (.held zK) = .held (.agg #[.slice ad n cap, .int .i64 (lkN (strip L) m)]) := by
  rw [ringD_at (pairs_sm hL) hm]
  exact fst1_lk m L
/-- What the program's keyring is. -/
def GivesRing (w : World) (L : List Ent) (e : Ending) (w' : World) : Prop := ∃ b, e = .returned (.map (some b)) ∧ w'.ownsMap Try.prog 9 heldV b L.length (ringD (pairs L)) ∧ w.heap.size ≤ b ∧ Below w.heap.size w w'
theorem smT_take {T : List (List ByteArray × Int)} (h : smT T) (k : Nat) : smT (T.take k) := fun t ht => h t (List.mem_of_mem_take ht)

set_option maxHeartbeats 4000000 in
theorem keyringOf (v : Value) (L : List Ent) (w : World) (h : TabH w v L) (hl : L.length ≤ 4000000) (hT : smT (strip L)) :
    Calls Try.prog 89 #[v] w (GivesRing w L) := by
  obtain ⟨x, n, cx, rfl, hn, hcx, hh⟩ := h.shapeN
  rw [← hn] at hl
  have HN := Lib.hid hn
  have HH := Lib.hid hh
  have HT := Lib.hid hT
  have HM0 := Lib.hid (show (w.alloc (.map #[] 0)).ownsMap Try.prog 9 heldV w.heap.size 0 (ringD (pairs (L.take 0))) from World.ownsMap_made w _ _ _)
  have HB0 := Lib.hid ((Below.refl w.heap.size w).alloc (Nat.le_refl _) (.map #[] 0))
  have hmm := @run_makeMap Try.prog
  clear hn h hh hT
  go_enter Try.func89, Try.ntmps89
  go_wp2_with fail
  go_loopw [12] (fun i wr => ∃ k : Nat, k ≤ n ∧ i = .int .i64 k ∧ Hid (wr.ownsMap Try.prog 9 heldV w.heap.size k (ringD (pairs (L.take k)))) ∧ Hid (Below w.heap.size w wr) ∧ Hid (w.heap.size + 1 ≤ wr.heap.size)) (fun i _ => n - (intOf i).toNat)
  case atStart => exact ⟨0, Nat.zero_le _, rfl, HM0, HB0, Lib.hid (by simp)⟩
  case round =>
    obtain ⟨k, hk, rfl, hM, hB, hS⟩ := hrel
    by_cases hlt : k < n
    · have hlen := HN.out
      obtain ⟨b, off, rfl, hc, hd, hnm⟩ := (HH.out.on hB.out).at (k := k) (by omega)
      have HPS := Lib.hid (smT_ps HT.out (k := k) (by omega))
      have hal := ((Below.refl wr.heap.size wr).alloc (Nat.le_refl _) (.cells #[.slice (nth L k).ad (nth L k).n (nth L k).cap, .int .i64 (nth L k).val] 89))
      have HNM := Lib.hid (hnm.on hal)
      have HB1 := Lib.hid (hB.out.trans (hal.mono hB.out.size))
      have HM1 := Lib.hid (hM.out.alloc (.cells #[.slice (nth L k).ad (nth L k).n (nth L k).cap, .int .i64 (nth L k).val] 89))
      have HX := Lib.hid (Ret.Blk.new wr #[.slice (nth L k).ad (nth L k).n (nth L k).cap, .int .i64 (nth L k).val] 89)
      have HKL := Lib.hid (show k < L.length by omega)
      have HS1 := Lib.hid (show (wr.alloc (.cells #[.slice (nth L k).ad (nth L k).n (nth L k).cap, .int .i64 (nth L k).val] 89)).heap.size = wr.heap.size + 1 from World.size_alloc _ _)
      clear hlen hnm hal hmm
      go_wp2_with fail
      refine (nameText _ (nth L k).ps _ HNM.out HPS.out).mono ?_
      rintro e w1 ⟨rfl, hb1⟩
      have HB2 := Lib.hid (HB1.out.trans (hb1.mono HB1.out.size))
      have HM2 := Lib.hid (show w1.ownsMap Try.prog 9 heldV w.heap.size k (ringD (pairs (L.take k))) by
        obtain ⟨es, clock, hbk, r⟩ := HM1.out
        exact ⟨es, clock, (hb1.block _ (Array.getElem?_eq_some_iff.1 hbk).1).trans hbk, r⟩)
      have HX2 := Lib.hid (HX.out.on hb1)
      have hx0 : w1.cell? ⟨wr.heap.size, 0, none⟩ = some (.slice (nth L k).ad (nth L k).n (nth L k).cap) := HX2.out.cell 0
      have hx1 : w1.cell? ⟨wr.heap.size, 1, none⟩ = some (.int .i64 (nth L k).val) := HX2.out.cell 1
      have HS2 := Lib.hid (show w.heap.size + 1 < w1.heap.size by have := hb1.size; have := HS1.out; have := hS.out; omega)
      have HKY := Lib.hid (keyTxt HPS.out)
      obtain ⟨z, hz⟩ : ∃ z, Maps.has (ringD (pairs (L.take k))) (kl (nth L k).ps) = z := ⟨_, rfl⟩
      have hlook : ∃ ad nn cc, (Instr.lookup 118 (.map (some w.heap.size)) (.string (txt (nth L k).ps)) true).run Try.prog w1 = .ok (.tuple #[.agg #[.slice ad nn cc, .int .i64 (lkN (strip (L.take k)) (nth L k).ps)], .bool z]) w1 := by
        obtain ⟨v9, ps9, hr, hv⟩ := HM2.out.look_ok strLaw Try.underlying118 (zeroKey w1) (zd := .held zK) (zp := []) rfl HKY.out
        obtain ⟨ad, nn, cc, he⟩ := pairs_key (nth L k).ps (smN_bulk HPS.out) (L := L.take k) (by rw [strip_take]; exact smT_take HT.out k)
        rw [he] at hv
        rw [hz, heldV_inj hv] at hr
        exact ⟨ad, nn, cc, hr⟩
      obtain ⟨ad, nn, cc, hlook⟩ := hlook
      have HST := Lib.hid (show ringD (pairs (L.take (k + 1))) = if z then ringD (pairs (L.take k)) else (ringD (pairs (L.take k))).put (kl (nth L k).ps) (.held (nth L k).whole) by
        rw [pairs_take L HKL.out, ringD_next]; unfold step; rw [← hz])
      clear hz hb1 HNM HM1 HX HB1 hc hd
      generalize lkN (strip (L.take k)) (nth L k).ps = q at hlook
      cases z with
      | true =>
        have HM3 := Lib.hid (show w1.ownsMap Try.prog 9 heldV w.heap.size (k + 1) (ringD (pairs (L.take (k + 1)))) by rw [HST.out]; exact HM2.out.mono (Nat.le_succ _))
        go_wp2_with fail
        go_roundw
        case rel => exact ⟨k + 1, by omega, by go_num, Lib.hid (HM3.out.alloc _), Lib.hid (HB2.out.alloc HB2.out.size _), Lib.hid (by have := HS2.out; simp; omega)⟩
        case measure => simp [intOf]; omega
      | false =>
        have HM3 := Lib.hid (HM2.out.alloc (.cells #[.slice ad nn cc, .int .i64 q] 89))
        have HB3 := Lib.hid (HB2.out.alloc HB2.out.size (.cells #[.slice ad nn cc, .int .i64 q] 89))
        have hy0 : (w1.alloc (.cells #[.slice ad nn cc, .int .i64 q] 89)).cell? ⟨wr.heap.size, 0, none⟩ = some (.slice (nth L k).ad (nth L k).n (nth L k).cap) := (((Below.refl w1.heap.size w1).alloc (Nat.le_refl _) _).cell (cell_lt hx0)).trans hx0
        have hy1 : (w1.alloc (.cells #[.slice ad nn cc, .int .i64 q] 89)).cell? ⟨wr.heap.size, 1, none⟩ = some (.int .i64 (nth L k).val) := (((Below.refl w1.heap.size w1).alloc (Nat.le_refl _) _).cell (cell_lt hx1)).trans hx1
        go_wp2_with (at_mapUpdate; refine wpList_mapUpdate_own _ rfl _ _ _ 118 rfl 9 89 strLaw Try.underlying118 heldV w.heap.size k _ rfl HM3.out (by unfold maxLen; omega) _ _ _ rfl rfl HKY.out (.held (nth L k).whole) [] rfl ?_)
        intro w3 hown3 hg3
        have HM4 := Lib.hid (show w3.ownsMap Try.prog 9 heldV w.heap.size (k + 1) (ringD (pairs (L.take (k + 1)))) by rw [HST.out]; exact hown3)
        have HB4 := Lib.hid (HB3.out.grown hg3 HB3.out.size (fun g hg => by cases hg; exact Nat.le_refl _))
        have HS4 := Lib.hid (show w.heap.size + 1 ≤ w3.heap.size by have := HS2.out; have := hg3.size; simp at this; omega)
        clear hown3 hg3 hlook hx0 hx1 hy0 hy1
        go_wp2_with fail
        go_roundw
        case rel => exact ⟨k + 1, by omega, by go_num, HM4, HB4, HS4⟩
        case measure => simp [intOf]; omega
    · obtain rfl : k = n := by omega
      clear hlt
      have hM9 := hM.out
      rw [List.take_of_length_le (by rw [← HN.out]; exact Nat.le_refl _)] at hM9
      have HM9 := Lib.hid hM9
      clear hM9
      go_wp2_with fail
      go_ret
      exact ⟨_, rfl, by rw [← HN.out]; exact HM9.out, Nat.le_refl _, hB.out⟩
end Go.Proofs.Ytcidfmmeonhkhaa.Row.Ring
/- Contracts of the helpers by which the laws measure, copy, compare, mark and look at data packets (a name, bytes, a name, two numbers). No conditions but that lengths fit. -/
namespace Go.Proofs.Ytcidfmmeonhkhaa.Row
open Go.ChangeShapes Go.WideShapes Go.ChangeAt Go.RowKit Go.Instr
set_option linter.unusedVariables false
set_option maxRecDepth 100000

abbrev Dt := List ByteArray × List Int × List ByteArray × Int × Int
/-- A packet's cells. -/
abbrev dc (a b c : Value) (f s : Int) : Array Value := #[a, b, c, .int .i64 f, .int .i64 s]
abbrev nil : Value := .slice none 0 0
theorem aggD : Ret.AggOf Try.prog 61 5 := ⟨by kernel_rfl, by kernel_rfl⟩
/-- What the call's own slices of a packet are: in blocks from B on, no two the same. -/
def DOwn (B : Nat) (w : World) (a b c : Value) (x : Dt) : Prop := Own 9 Value.string B w a x.1 ∧ Sl.Own 5 .u8 B w b x.2.1 ∧ Own 9 Value.string B w c x.2.2.1 ∧ Apart a b ∧ Apart a c ∧ Apart b c
def DHold (w : World) (a b c : Value) (x : Dt) : Prop := Holds Value.string w a x.1 ∧ Sl.Holds .u8 w b x.2.1 ∧ Holds Value.string w c x.2.2.1
theorem DHold.on {w w' : World} {a b c : Value} {x : Dt} (h : DHold w a b c x) (hb : Below w.heap.size w w') : DHold w' a b c x := ⟨h.1.on hb, h.2.1.on hb, h.2.2.on hb⟩
theorem DOwn.hold {B : Nat} {w : World} {a b c : Value} {x : Dt} (h : DOwn B w a b c x) : DHold w a b c x := by
  exact ⟨h.1.holds, h.2.1.holds, h.2.2.1.holds⟩
theorem DHold.shape {w : World} {a b c : Value} {x : Dt} (h : DHold w a b c x) : ∃ xa na ca xb nb cb xc nc cc, a = .slice xa na ca ∧ b = .slice xb nb cb ∧ c = .slice xc nc cc := by
  obtain ⟨xa, na, ca, rfl, -⟩ := h.1.shapeN
  obtain ⟨xb, cb, rfl, -⟩ := h.2.1.shape
  obtain ⟨xc, nc, cc, rfl, -⟩ := h.2.2.shapeN
  exact ⟨_, _, _, _, _, _, _, _, _, rfl, rfl, rfl⟩
theorem sl_own_set {k : IntKind} {e : TypeId} {B g i : Nat} {w : World} {v u : Value} {l : List Int} (h : Sl.Own e k B w v l) (hg : g < B) : Sl.Own e k B (w.setCell ⟨g, i, none⟩ u) v l := own_set (enc := Value.int k) h hg

set_option maxHeartbeats 4000000 in
theorem eqData (a b c a2 b2 c2 : Value) (x y : Dt) (w : World) (q : Bool) (hq : decide (x = y) = q) (h : DHold w a b c x) (g : DHold w a2 b2 c2 y) (h1 : x.1.length ≤ 100000000) (h2 : x.2.1.length ≤ 100000000) (h3 : x.2.2.1.length ≤ 100000000) (g1 : y.1.length ≤ 100000000) (g2 : y.2.1.length ≤ 100000000) (g3 : y.2.2.1.length ≤ 100000000) :
    Calls Try.prog 32 #[.agg (dc a b c x.2.2.2.1 x.2.2.2.2), .agg (dc a2 b2 c2 y.2.2.2.1 y.2.2.2.2)] w fun e w' => e = .returned (.bool q) ∧ Below w.heap.size w w' := by
  obtain ⟨l, m, k, f, s⟩ := x
  obtain ⟨l2, m2, k2, f2, s2⟩ := y
  simp only at h1 h2 h3 g1 g2 g3 ⊢
  obtain ⟨xa, na, ca, xb, nb, cb, xc, nc, cc, rfl, rfl, rfl⟩ := h.shape
  obtain ⟨ua, va, oa, ub, vb, ob, uc, vc, oc, rfl, rfl, rfl⟩ := g.shape
  have hb0 := (Below.refl w.heap.size w).alloc (Nat.le_refl _) (.cells (dc (.slice xa na ca) (.slice xb nb cb) (.slice xc nc cc) f s) 61)
  have HB := Lib.hid (hb0.alloc (by simp) (.cells (dc (.slice ua va oa) (.slice ub vb ob) (.slice uc vc oc) f2 s2) 61))
  have H0 := Lib.hid h; have G0 := Lib.hid g
  have HX := Lib.hid ((Ret.Blk.new w (dc (.slice xa na ca) (.slice xb nb cb) (.slice xc nc cc) f s) 61).on ((Below.refl _ _).alloc (Nat.le_refl _) (.cells (dc (.slice ua va oa) (.slice ub vb ob) (.slice uc vc oc) f2 s2) 61)))
  have HY := Lib.hid (Ret.Blk.new' (w := w.alloc (.cells (dc (.slice xa na ca) (.slice xb nb cb) (.slice xc nc cc) f s) 61)) (n := w.heap.size + 1) (dc (.slice ua va oa) (.slice ub vb ob) (.slice uc vc oc) f2 s2) 61 (by simp))
  have HQ := Lib.hid hq
  clear h g hq hb0
  go_enter Try.func32, Try.ntmps32
  go_wp2_with fail
  refine (eqName _ _ l l2 _ (H0.out.on HB.out).1 (G0.out.on HB.out).1 (by omega) (by omega)).mono ?_
  rintro e w1 ⟨rfl, hb⟩
  replace HX := Lib.hid (HX.out.on hb); replace HY := Lib.hid (HY.out.on hb)
  replace HB := Lib.hid (HB.out.trans (hb.mono HB.out.size)); clear hb
  have q0 : w1.cell? ⟨w.heap.size, 0, none⟩ = some (.slice xa na ca) := HX.out.cell 0
  have q1 : w1.cell? ⟨w.heap.size, 1, none⟩ = some (.slice xb nb cb) := HX.out.cell 1
  have q2 : w1.cell? ⟨w.heap.size, 2, none⟩ = some (.slice xc nc cc) := HX.out.cell 2
  have q3 : w1.cell? ⟨w.heap.size, 3, none⟩ = some (.int .i64 f) := HX.out.cell 3
  have q4 : w1.cell? ⟨w.heap.size, 4, none⟩ = some (.int .i64 s) := HX.out.cell 4
  have p0 : w1.cell? ⟨w.heap.size + 1, 0, none⟩ = some (.slice ua va oa) := HY.out.cell 0
  have p1 : w1.cell? ⟨w.heap.size + 1, 1, none⟩ = some (.slice ub vb ob) := HY.out.cell 1
  have p2 : w1.cell? ⟨w.heap.size + 1, 2, none⟩ = some (.slice uc vc oc) := HY.out.cell 2
  have p3 : w1.cell? ⟨w.heap.size + 1, 3, none⟩ = some (.int .i64 f2) := HY.out.cell 3
  have p4 : w1.cell? ⟨w.heap.size + 1, 4, none⟩ = some (.int .i64 s2) := HY.out.cell 4
  by_cases e1 : l = l2
  · rw [eqB_true e1]
    go_wp2_with fail
    clear q0 q1 q2 q3 q4 p0 p1 p2 p3 p4
    refine (Sl.eqByteS _ _ m m2 _ (H0.out.on HB.out).2.1 (G0.out.on HB.out).2.1 h2 g2).mono ?_
    rintro e w2 ⟨rfl, hb⟩
    replace HX := Lib.hid (HX.out.on hb); replace HY := Lib.hid (HY.out.on hb)
    replace HB := Lib.hid (HB.out.trans (hb.mono HB.out.size)); clear hb
    have q0 : w2.cell? ⟨w.heap.size, 0, none⟩ = some (.slice xa na ca) := HX.out.cell 0
    have q1 : w2.cell? ⟨w.heap.size, 1, none⟩ = some (.slice xb nb cb) := HX.out.cell 1
    have q2 : w2.cell? ⟨w.heap.size, 2, none⟩ = some (.slice xc nc cc) := HX.out.cell 2
    have q3 : w2.cell? ⟨w.heap.size, 3, none⟩ = some (.int .i64 f) := HX.out.cell 3
    have q4 : w2.cell? ⟨w.heap.size, 4, none⟩ = some (.int .i64 s) := HX.out.cell 4
    have p0 : w2.cell? ⟨w.heap.size + 1, 0, none⟩ = some (.slice ua va oa) := HY.out.cell 0
    have p1 : w2.cell? ⟨w.heap.size + 1, 1, none⟩ = some (.slice ub vb ob) := HY.out.cell 1
    have p2 : w2.cell? ⟨w.heap.size + 1, 2, none⟩ = some (.slice uc vc oc) := HY.out.cell 2
    have p3 : w2.cell? ⟨w.heap.size + 1, 3, none⟩ = some (.int .i64 f2) := HY.out.cell 3
    have p4 : w2.cell? ⟨w.heap.size + 1, 4, none⟩ = some (.int .i64 s2) := HY.out.cell 4
    by_cases e2 : m = m2
    · rw [Sl.eqB_true e2]
      go_wp2_with fail
      clear q0 q1 q2 q3 q4 p0 p1 p2 p3 p4
      refine (eqName _ _ k k2 _ (H0.out.on HB.out).2.2 (G0.out.on HB.out).2.2 (by omega) (by omega)).mono ?_
      rintro e w3 ⟨rfl, hb⟩
      replace HX := Lib.hid (HX.out.on hb); replace HY := Lib.hid (HY.out.on hb)
      replace HB := Lib.hid (HB.out.trans (hb.mono HB.out.size)); clear hb
      have q0 : w3.cell? ⟨w.heap.size, 0, none⟩ = some (.slice xa na ca) := HX.out.cell 0
      have q1 : w3.cell? ⟨w.heap.size, 1, none⟩ = some (.slice xb nb cb) := HX.out.cell 1
      have q2 : w3.cell? ⟨w.heap.size, 2, none⟩ = some (.slice xc nc cc) := HX.out.cell 2
      have q3 : w3.cell? ⟨w.heap.size, 3, none⟩ = some (.int .i64 f) := HX.out.cell 3
      have q4 : w3.cell? ⟨w.heap.size, 4, none⟩ = some (.int .i64 s) := HX.out.cell 4
      have p0 : w3.cell? ⟨w.heap.size + 1, 0, none⟩ = some (.slice ua va oa) := HY.out.cell 0
      have p1 : w3.cell? ⟨w.heap.size + 1, 1, none⟩ = some (.slice ub vb ob) := HY.out.cell 1
      have p2 : w3.cell? ⟨w.heap.size + 1, 2, none⟩ = some (.slice uc vc oc) := HY.out.cell 2
      have p3 : w3.cell? ⟨w.heap.size + 1, 3, none⟩ = some (.int .i64 f2) := HY.out.cell 3
      have p4 : w3.cell? ⟨w.heap.size + 1, 4, none⟩ = some (.int .i64 s2) := HY.out.cell 4
      by_cases e3 : k = k2
      · rw [eqB_true e3]
        by_cases e4 : f = f2
        · have t1 : (f != f2) = false := by simp [e4]
          by_cases e5 : s = s2
          · have t2 : (s != s2) = false := by simp [e5]
            have HE : Hid (q = true) := Lib.hid (by rw [← HQ.out]; simp [e1, e2, e3, e4, e5])
            clear e1 e2 e3 e4 e5
            go_wp2
            go_ret
            exact ⟨ret_bool HE.out.symm, HB.out⟩
          · have t2 : (s != s2) = true := by simpa using e5
            have HE : Hid (q = false) := Lib.hid (by rw [← HQ.out]; simp [e5])
            clear e1 e2 e3 e4 e5
            go_wp2
            go_ret
            exact ⟨ret_bool HE.out.symm, HB.out⟩
        · have t1 : (f != f2) = true := by simpa using e4
          have HE : Hid (q = false) := Lib.hid (by rw [← HQ.out]; simp [e4])
          clear e4
          go_wp2
          go_ret
          exact ⟨ret_bool HE.out.symm, HB.out⟩
      · rw [eqB_false e3]
        have HE : Hid (q = false) := Lib.hid (by rw [← HQ.out]; simp [e3])
        clear e3
        go_wp2
        go_ret
        exact ⟨ret_bool HE.out.symm, HB.out⟩
    · rw [Sl.eqB_false e2]
      have HE : Hid (q = false) := Lib.hid (by rw [← HQ.out]; simp [e2])
      clear e2
      go_wp2
      go_ret
      exact ⟨ret_bool HE.out.symm, HB.out⟩
  · rw [eqB_false e1]
    have HE : Hid (q = false) := Lib.hid (by rw [← HQ.out]; simp [e1])
    clear e1
    go_wp2
    go_ret
    exact ⟨ret_bool HE.out.symm, HB.out⟩

def bulkD (x : Dt) : Nat := bulk x.1 + x.2.1.length + bulk x.2.2.1
def szD (x : Dt) (left : Int) : Int := if (bulkD x : Int) ≤ left then left - bulkD x else -1
/-- Its parts are small enough for the contracts. -/
def smD (x : Dt) : Prop := bulk x.1 ≤ 1200000 ∧ x.2.1.length ≤ 1200000 ∧ bulk x.2.2.1 ≤ 1200000
theorem smD_of {x : Dt} (h : bulkD x ≤ 1200000) : smD x := by unfold bulkD at h; unfold smD; omega
def advD (x : Dt) : Nat := x.1.length + x.2.1.length + x.2.2.1.length
/-- A packet whose parts are marked. -/
def mkD (k : Int) (x : Dt) : Dt := (marks markT k x.1.length, Sl.marks .u8 (k + x.1.length) x.2.1.length, marks markT (k + x.1.length + x.2.1.length) x.2.2.1.length, x.2.2.2)
set_option maxHeartbeats 2000000 in
theorem markData (B E : Nat) (a b c : Value) (x : Dt) (w : World) (k : Int) (h : DOwn B w a b c x) (hE : (∀ g, a.ownBlock = some g → g < E) ∧ (∀ g, b.ownBlock = some g → g < E) ∧ ∀ g, c.ownBlock = some g → g < E) (hl : advD x ≤ 100000000) (h0 : 0 ≤ k) (h1 : k ≤ 1000000000) :
    Calls Try.prog 33 #[.agg (dc a b c x.2.2.2.1 x.2.2.2.2), .int .i64 k] w fun e w' => e = .returned (.int .i64 (k + (advD x : Int))) ∧ DOwn B w' a b c (mkD k x) ∧ Wrote B E w w' := by
  obtain ⟨l, m, n, f, s⟩ := x
  obtain ⟨xa, na, ca, xb, nb, cb, xc, nc, cc, rfl, rfl, rfl⟩ := h.hold.shape
  obtain ⟨oa, ob, oc, ab, ac, bc⟩ := h
  have hl' : l.length + m.length + n.length ≤ 100000000 := hl
  simp only at oa ob oc ⊢
  have hal := (Below.refl w.heap.size w).alloc (Nat.le_refl _) (.cells (dc (.slice xa na ca) (.slice xb nb cb) (.slice xc nc cc) f s) 61)
  have HW := Lib.hid (Wrote.ofBelow (B := B) (E := E) hal)
  have HX := Lib.hid (Ret.Blk.new w (dc (.slice xa na ca) (.slice xb nb cb) (.slice xc nc cc) f s) 61)
  have OA := Lib.hid (oa.on hal); have OB := Lib.hid (Own.on (enc := Value.int .u8) ob hal); have OC := Lib.hid (oc.on hal)
  have LA := Lib.hid (fun g hg => And.intro (oa.lt g hg).1 (And.intro (oa.lt g hg).2 (hE.1 g hg)))
  have LB := Lib.hid (fun g hg => And.intro (ob.lt g hg).1 (And.intro (ob.lt g hg).2 (hE.2.1 g hg)))
  have LC := Lib.hid (fun g hg => And.intro (oc.lt g hg).1 (And.intro (oc.lt g hg).2 (hE.2.2 g hg)))
  have AB := Lib.hid ab; have AC := Lib.hid ac; have BC := Lib.hid bc
  clear oa ob oc ab ac bc hE hal hl
  go_enter Try.func33, Try.ntmps33
  go_wp2_with fail
  refine (markName B _ l _ k OA.out (by omega) h0 (by omega)).mono ?_
  rintro e w1 ⟨rfl, ho, hg⟩
  have OA1 := Lib.hid ho
  have OB1 := Lib.hid (Own.grown (enc := Value.int .u8) OB.out hg (apart_or AB.out.symm))
  have OC1 := Lib.hid (OC.out.grown hg (apart_or AC.out.symm))
  have HX1 := Lib.hid (HX.out.grown hg (fun e => by have h5 := (LA.out _ e.symm).2.1; omega))
  have HW1 := Lib.hid (HW.out.trans (Wrote.of hg (fun g hg => ⟨(LA.out g hg).1, (LA.out g hg).2.2⟩)))
  clear ho hg
  have q0 : w1.cell? ⟨w.heap.size, 0, none⟩ = some (.slice xa na ca) := HX1.out.cell 0
  have q1 : w1.cell? ⟨w.heap.size, 1, none⟩ = some (.slice xb nb cb) := HX1.out.cell 1
  have q2 : w1.cell? ⟨w.heap.size, 2, none⟩ = some (.slice xc nc cc) := HX1.out.cell 2
  have q3 : w1.cell? ⟨w.heap.size, 3, none⟩ = some (.int .i64 f) := HX1.out.cell 3
  have q4 : w1.cell? ⟨w.heap.size, 4, none⟩ = some (.int .i64 s) := HX1.out.cell 4
  go_wp2_with fail
  clear q0 q1 q2 q3 q4
  refine (Sl.markByteS B _ m _ (k + (l.length : Int)) OB1.out (by omega) (by omega) (by omega)).mono ?_
  rintro e w2 ⟨rfl, ho, hg⟩
  have OB2 := Lib.hid ho
  have OA2 := Lib.hid (OA1.out.grown hg (apart_or AB.out))
  have OC2 := Lib.hid (OC1.out.grown hg (apart_or BC.out.symm))
  have HX2 := Lib.hid (HX1.out.grown hg (fun e => by have h5 := (LB.out _ e.symm).2.1; omega))
  have HW2 := Lib.hid (HW1.out.trans (Wrote.of hg (fun g hg => ⟨(LB.out g hg).1, (LB.out g hg).2.2⟩)))
  clear ho hg
  have q0 : w2.cell? ⟨w.heap.size, 0, none⟩ = some (.slice xa na ca) := HX2.out.cell 0
  have q1 : w2.cell? ⟨w.heap.size, 1, none⟩ = some (.slice xb nb cb) := HX2.out.cell 1
  have q2 : w2.cell? ⟨w.heap.size, 2, none⟩ = some (.slice xc nc cc) := HX2.out.cell 2
  have q3 : w2.cell? ⟨w.heap.size, 3, none⟩ = some (.int .i64 f) := HX2.out.cell 3
  have q4 : w2.cell? ⟨w.heap.size, 4, none⟩ = some (.int .i64 s) := HX2.out.cell 4
  go_wp2_with fail
  clear q0 q1 q2 q3 q4
  refine (markName B _ n _ (k + (l.length : Int) + (m.length : Int)) OC2.out (by omega) (by omega) (by omega)).mono ?_
  rintro e w3 ⟨rfl, ho, hg⟩
  have OC3 := Lib.hid ho
  have OA3 := Lib.hid (OA2.out.grown hg (apart_or AC.out))
  have OB3 := Lib.hid (Own.grown (enc := Value.int .u8) OB2.out hg (apart_or BC.out))
  have HW3 := Lib.hid (HW2.out.trans (Wrote.of hg (fun g hg => ⟨(LC.out g hg).1, (LC.out g hg).2.2⟩)))
  clear ho hg
  go_wp2_with fail
  go_ret
  refine ⟨ret_int (by show _ = k + ((l.length + m.length + n.length : Nat) : Int); omega), ⟨OA3.out, OB3.out, OC3.out, AB.out, AC.out, BC.out⟩, HW3.out⟩

set_option maxHeartbeats 2000000 in
theorem heldData (a b c : Value) (w : World) (k : Int) (x : Dt) (h : DHold w a b c (mkD k x)) (hl : advD x ≤ 100000000) (h0 : 0 ≤ k) (h1 : k ≤ 1000000000) :
    Calls Try.prog 34 #[.agg (dc a b c x.2.2.2.1 x.2.2.2.2), .int .i64 k] w fun e w' => e = .returned (.int .i64 (k + (advD x : Int))) ∧ Below w.heap.size w w' := by
  obtain ⟨l, m, n, f, s⟩ := x
  obtain ⟨xa, na, ca, xb, nb, cb, xc, nc, cc, rfl, rfl, rfl⟩ := h.shape
  have hl' : l.length + m.length + n.length ≤ 100000000 := hl
  have HB := Lib.hid ((Below.refl w.heap.size w).alloc (Nat.le_refl _) (.cells (dc (.slice xa na ca) (.slice xb nb cb) (.slice xc nc cc) f s) 61))
  have H0 := Lib.hid h
  have HX := Lib.hid (Ret.Blk.new w (dc (.slice xa na ca) (.slice xb nb cb) (.slice xc nc cc) f s) 61)
  clear h hl
  go_enter Try.func34, Try.ntmps34
  go_wp2_with fail
  refine (heldName _ _ k l.length (H0.out.on HB.out).1 (by omega) h0 (by omega)).mono ?_
  rintro e w1 ⟨rfl, hb⟩
  replace HX := Lib.hid (HX.out.on hb)
  replace HB := Lib.hid (HB.out.trans (hb.mono HB.out.size)); clear hb
  have q0 : w1.cell? ⟨w.heap.size, 0, none⟩ = some (.slice xa na ca) := HX.out.cell 0
  have q1 : w1.cell? ⟨w.heap.size, 1, none⟩ = some (.slice xb nb cb) := HX.out.cell 1
  have q2 : w1.cell? ⟨w.heap.size, 2, none⟩ = some (.slice xc nc cc) := HX.out.cell 2
  have q3 : w1.cell? ⟨w.heap.size, 3, none⟩ = some (.int .i64 f) := HX.out.cell 3
  have q4 : w1.cell? ⟨w.heap.size, 4, none⟩ = some (.int .i64 s) := HX.out.cell 4
  have t1 : ¬ k + (l.length : Int) < 0 := by omega
  go_wp2_with fail
  clear q0 q1 q2 q3 q4
  refine (Sl.heldByteS _ _ (k + (l.length : Int)) m.length (H0.out.on HB.out).2.1 (by omega) (by omega) (by omega)).mono ?_
  rintro e w2 ⟨rfl, rfl⟩
  have q0 : w1.cell? ⟨w.heap.size, 0, none⟩ = some (.slice xa na ca) := HX.out.cell 0
  have q1 : w1.cell? ⟨w.heap.size, 1, none⟩ = some (.slice xb nb cb) := HX.out.cell 1
  have q2 : w1.cell? ⟨w.heap.size, 2, none⟩ = some (.slice xc nc cc) := HX.out.cell 2
  have q3 : w1.cell? ⟨w.heap.size, 3, none⟩ = some (.int .i64 f) := HX.out.cell 3
  have q4 : w1.cell? ⟨w.heap.size, 4, none⟩ = some (.int .i64 s) := HX.out.cell 4
  have t2 : ¬ k + (l.length : Int) + (m.length : Int) < 0 := by omega
  go_wp2_with fail
  clear q0 q1 q2 q3 q4
  refine (heldName _ _ (k + (l.length : Int) + (m.length : Int)) n.length (H0.out.on HB.out).2.2 (by omega) (by omega) (by omega)).mono ?_
  rintro e w3 ⟨rfl, hb⟩
  replace HB := Lib.hid (HB.out.trans (hb.mono HB.out.size)); clear hb
  have t3 : ¬ k + (l.length : Int) + (m.length : Int) + (n.length : Int) < 0 := by omega
  go_wp2_with fail
  go_ret
  exact ⟨ret_int (by show _ = k + ((l.length + m.length + n.length : Nat) : Int); omega), HB.out⟩
end Go.Proofs.Ytcidfmmeonhkhaa.Row
