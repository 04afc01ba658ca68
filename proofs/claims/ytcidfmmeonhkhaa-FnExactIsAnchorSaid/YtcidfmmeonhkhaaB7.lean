/- Contracts and mathematics, joined: RingA, Thing, KThing, ThingS, SealMath, LibI, Same, Seal, SealB, Port, PortI, SealC, PortF, Sign, RingB. No conditions but those that each states. -/
import Derived.Test.YtcidfmmeonhkhaaB6
import Derived.Lib.AppendStr
import Derived.Test.YtcidfmmeonhkhaaB2
import Derived.SizedLaws
import Derived.ChangeSlices
import Derived.ChangeSame
import Derived.ChangeArms
import Derived.Deep.Strs
import Derived.Lib.SmallJoins
import Derived.Lib.AppendZerosOnto
import Derived.Deep.RegionHeld3
import Derived.Test.YtcidfmmeonhkhaaB1
import Derived.Laws.BytesArg
import Derived.Deep.RegionLawGrows
import Derived.WalkKit
/- Contracts of the program's keyring: the text under which a name's key is kept, the map, the search in it; of the model's search. No conditions but that lengths fit. -/
namespace Go.Proofs.Ytcidfmmeonhkhaa.Row.Ring
open Go.ChangeShapes Go.WideShapes Go.ChangeAt Go.RowKit Go.Instr
set_option linter.unusedVariables false
set_option maxRecDepth 100000

theorem own_str {B : Nat} {w : World} {v : Value} {l : List Int} {s : ByteArray} (h : w.ownsRow B 5 1 v (l.length + s.size) (l.map (Value.int .u8) ++ Lib.strCells s)) : Sl.Own 5 .u8 B w v (l ++ Sl.bytesOf s) := by
  unfold Sl.Own
  have e : (l ++ Sl.bytesOf s).map (Value.int .u8) = l.map (Value.int .u8) ++ Lib.strCells s := by
    rw [List.map_append]
    unfold Sl.bytesOf Lib.strCells
    rw [List.map_map]
    rfl
  rw [e, List.length_append, Sl.bytesOf_length]
  exact h

set_option maxHeartbeats 2000000 in
theorem nameText (v : Value) (l : List ByteArray) (w : World) (h : Holds Value.string w v l) (hl : bulk l ≤ 9000000) :
    Calls Try.prog 97 #[.agg #[v]] w fun e w' => e = .returned (.string (txt l)) ∧ Below w.heap.size w w' := by
  obtain ⟨x, n, cap, rfl, hn, hcap, hh⟩ := h.shapeN
  obtain ⟨i0, hi, hz0, hz1, hz2⟩ := info_parts (show (Try.prog.info? 5).map (fun i => (i.zero, i.size, i.bytes)) = some (some (.int .u8 0), 1, 1) by kernel_rfl)
  have hb0 := (Below.refl w.heap.size w).alloc (Nat.le_refl _) (.cells #[.slice x n cap] 47)
  have hb1 := hb0.alloc (by simp) (.cells #[] 5)
  have HB1 := Lib.hid hb1
  have HH := Lib.hid hh
  have hoe := Sl.own_empty .u8 5 (w.alloc (.cells #[.slice x n cap] 47))
  rw [World.size_alloc] at hoe
  have HO0 := Lib.hid (show Sl.Own 5 .u8 w.heap.size ((w.alloc (.cells #[.slice x n cap] 47)).alloc (.cells #[] 5)) (.slice (some ⟨w.heap.size + 1, 0, none⟩) 0 0) (encPs (l.take 0)) from hoe.mono (Nat.le_succ _))
  have HN := Lib.hid hn
  have HL := Lib.hid hl
  have hnl : n ≤ 9000000 := by rw [hn]; exact Nat.le_trans (bulk_len l) hl
  have HI := Lib.hid hi; have HZ0 := Lib.hid hz0; have HZ1 := Lib.hid hz1; have HZ2 := Lib.hid hz2
  clear hh h hn hl hb0 hb1 hoe hi hz0 hz1 hz2
  go_enter Try.func97, Try.ntmps97
  go_wp2_with fail
  go_loopw [3, 10] (fun bv iv wr => ∃ k : Nat, k ≤ n ∧ iv = .int .i64 k ∧ Hid (Sl.Own 5 .u8 w.heap.size wr bv (encPs (l.take k))) ∧ Hid (Below w.heap.size w wr)) (fun _ iv _ => n - (intOf iv).toNat)
  case atStart => exact ⟨0, Nat.zero_le _, rfl, HO0, HB1⟩
  case round =>
    obtain ⟨k, hk, rfl, hO, hB⟩ := hrel
    by_cases hlt : k < n
    · obtain ⟨b0, off0, hy, hc⟩ := (HH.out.on hB.out).at (j := k) (by rw [← HN.out]; exact hlt)
      subst hy
      have hsz : (nth l k).size ≤ 9000000 := by
        have h2 := size_bulk (l := l) (k := k) (by rw [← HN.out]; exact hlt)
        have h3 := HL.out
        omega
      have hle : (encPs (l.take k)).length ≤ 54000000 := by
        have h1 := encPs_len (l.take k)
        have h2 := bulk_take_le l k
        have h3 := HL.out
        omega
      have HLE := Lib.hid hle
      have HNX := Lib.hid (encPs_next (l := l) (k := k) (by rw [← HN.out]; exact hlt))
      clear hle
      go_wp2_with fail
      refine (Sl.addVarint w.heap.size _ (encPs (l.take k)) (nth l k).size wr (Or.inl hO.out) hB.out.size (by have := HLE.out; omega) (by omega) (by omega)).mono ?_
      rintro e w1 ⟨v1, rfl, ho1, hb1⟩
      have HO1 := Lib.hid ho1
      have HB2 := Lib.hid (hB.out.trans hb1)
      have hvl := Var.var_len (nth l k).size
      clear ho1 hb1 hc
      go_wp2_with (at_builtin; refine Lib.wpList_append_own_string _ rfl _ _ 44 9 rfl w.heap.size 5 i0 Try.underlying44 Try.underlying9 HI.out HZ0.out HZ1.out HZ2.out _ _ _ rfl HO1.out (nth l k) rfl ?_ ?_ HB2.out.size ?_)
      · unfold maxLen; have := HLE.out; rw [List.length_append]; omega
      · have := HLE.out; rw [List.length_append]; omega
      intro v2 w2 ho2 hg2 _
      have HO2 := Lib.hid (show Sl.Own 5 .u8 w.heap.size w2 v2 (encPs (l.take (k + 1))) by
        have h9 := own_str (l := encPs (l.take k) ++ Var.var (nth l k).size) (s := nth l k) (by rw [List.length_append, List.map_append, List.append_assoc]; exact ho2)
        rw [HNX.out, ← List.append_assoc]
        exact h9)
      have HB3 := Lib.hid (HB2.out.grown hg2 HB2.out.size (fun g hg => (HO1.out.lt g hg).1))
      clear ho2 hg2
      go_wp2_with fail
      go_roundw
      case rel => exact ⟨k + 1, by omega, by go_num, HO2, HB3⟩
      case measure => simp [intOf]; omega
    · obtain rfl : k = n := by omega
      clear hlt
      have ho := hO.out
      rw [HN.out, List.take_length] at ho
      obtain ⟨x1, c1, rfl, -, hh1⟩ := ho.holds.shape
      have hcv := Sl.conv_holds hh1
      clear ho hh1
      go_wp2_with fail
      go_ret
      exact ⟨rfl, hB.out⟩

theorem zeroKey (w : World) : (zeroValue 89).run Try.prog w = .ok zK w := by kernel_rfl
theorem strLaw : Maps.Keyed Try.prog 9 := Maps.string_keyed Try.underlying9
theorem keyTxt {l : List ByteArray} (h : bulk l ≤ 9000000) : keyOf Try.prog 9 (.string (txt l)) = some (kl l) := Go.WideMaps.keyOf_string_mk Try.underlying9 (by have := txt_size l; unfold maxLen; omega)
theorem pairs_key (m : List ByteArray) (hm : smN m) {L : List Ent} (hL : smT (strip L)) : ∃ ad n cap, (ringD (pairs L)).atKey (kl m) (.held zK) = .held (.agg #[.slice ad n cap, .int .i64 (lkN (strip L) m)]) := by
  rw [ringD_at (pairs_sm hL) hm]
  exact fst1_lk m L
/-- What the program's keyring is. -/
def GivesRing (w : World) (L : List Ent) (e : Ending) (w' : World) : Prop := ∃ b, e = .returned (.map (some b)) ∧ w'.ownsMap Try.prog 9 heldV b L.length (ringD (pairs L)) ∧ w.heap.size ≤ b ∧ Below w.heap.size w w'
theorem smT_take {T : List (List ByteArray × Int)} (h : smT T) (k : Nat) : smT (T.take k) := fun t ht => h t (List.mem_of_mem_take ht)

set_option maxHeartbeats 4000000 in
theorem keyringOf (v : Value) (L : List Ent) (w : World) (h : TabH w v L) (hl : L.length ≤ 4000000) (hT : smT (strip L)) :
    Calls Try.prog 89 #[v] w (GivesRing w L) := by
  obtain ⟨x, n, cx, rfl, hn, hcx, hh⟩ := h.shapeN
  rw [← hn] at hl
  have HN := Lib.hid hn
  have HH := Lib.hid hh
  have HT := Lib.hid hT
  have HM0 := Lib.hid (show (w.alloc (.map #[] 0)).ownsMap Try.prog 9 heldV w.heap.size 0 (ringD (pairs (L.take 0))) from World.ownsMap_made w _ _ _)
  have HB0 := Lib.hid ((Below.refl w.heap.size w).alloc (Nat.le_refl _) (.map #[] 0))
  have hmm := @run_makeMap Try.prog
  clear hn h hh hT
  go_enter Try.func89, Try.ntmps89
  go_wp2_with fail
  go_loopw [12] (fun i wr => ∃ k : Nat, k ≤ n ∧ i = .int .i64 k ∧ Hid (wr.ownsMap Try.prog 9 heldV w.heap.size k (ringD (pairs (L.take k)))) ∧ Hid (Below w.heap.size w wr) ∧ Hid (w.heap.size + 1 ≤ wr.heap.size)) (fun i _ => n - (intOf i).toNat)
  case atStart => exact ⟨0, Nat.zero_le _, rfl, HM0, HB0, Lib.hid (by simp)⟩
  case round =>
    obtain ⟨k, hk, rfl, hM, hB, hS⟩ := hrel
    by_cases hlt : k < n
    · have hlen := HN.out
      obtain ⟨b, off, rfl, hc, hd, hnm⟩ := (HH.out.on hB.out).at (k := k) (by omega)
      have HPS := Lib.hid (smT_ps HT.out (k := k) (by omega))
      have hal := ((Below.refl wr.heap.size wr).alloc (Nat.le_refl _) (.cells #[.slice (nth L k).ad (nth L k).n (nth L k).cap, .int .i64 (nth L k).val] 89))
      have HNM := Lib.hid (hnm.on hal)
      have HB1 := Lib.hid (hB.out.trans (hal.mono hB.out.size))
      have HM1 := Lib.hid (hM.out.alloc (.cells #[.slice (nth L k).ad (nth L k).n (nth L k).cap, .int .i64 (nth L k).val] 89))
      have HX := Lib.hid (Ret.Blk.new wr #[.slice (nth L k).ad (nth L k).n (nth L k).cap, .int .i64 (nth L k).val] 89)
      have HKL := Lib.hid (show k < L.length by omega)
      have HS1 := Lib.hid (show (wr.alloc (.cells #[.slice (nth L k).ad (nth L k).n (nth L k).cap, .int .i64 (nth L k).val] 89)).heap.size = wr.heap.size + 1 from World.size_alloc _ _)
      clear hlen hnm hal hmm
      go_wp2_with fail
      refine (nameText _ (nth L k).ps _ HNM.out HPS.out).mono ?_
      rintro e w1 ⟨rfl, hb1⟩
      have HB2 := Lib.hid (HB1.out.trans (hb1.mono HB1.out.size))
      have HM2 := Lib.hid (show w1.ownsMap Try.prog 9 heldV w.heap.size k (ringD (pairs (L.take k))) by
        obtain ⟨es, clock, hbk, r⟩ := HM1.out
        exact ⟨es, clock, (hb1.block _ (Array.getElem?_eq_some_iff.1 hbk).1).trans hbk, r⟩)
      have HX2 := Lib.hid (HX.out.on hb1)
      have hx0 : w1.cell? ⟨wr.heap.size, 0, none⟩ = some (.slice (nth L k).ad (nth L k).n (nth L k).cap) := HX2.out.cell 0
      have hx1 : w1.cell? ⟨wr.heap.size, 1, none⟩ = some (.int .i64 (nth L k).val) := HX2.out.cell 1
      have HS2 := Lib.hid (show w.heap.size + 1 < w1.heap.size by have := hb1.size; have := HS1.out; have := hS.out; omega)
      have HKY := Lib.hid (keyTxt HPS.out)
      obtain ⟨z, hz⟩ : ∃ z, Maps.has (ringD (pairs (L.take k))) (kl (nth L k).ps) = z := ⟨_, rfl⟩
      have hlook : ∃ ad nn cc, (Instr.lookup 118 (.map (some w.heap.size)) (.string (txt (nth L k).ps)) true).run Try.prog w1 = .ok (.tuple #[.agg #[.slice ad nn cc, .int .i64 (lkN (strip (L.take k)) (nth L k).ps)], .bool z]) w1 := by
        obtain ⟨v9, ps9, hr, hv⟩ := HM2.out.look_ok strLaw Try.underlying118 (zeroKey w1) (zd := .held zK) (zp := []) rfl HKY.out
        obtain ⟨ad, nn, cc, he⟩ := pairs_key (nth L k).ps (smN_bulk HPS.out) (L := L.take k) (by rw [strip_take]; exact smT_take HT.out k)
        rw [he] at hv
        rw [hz, heldV_inj hv] at hr
        exact ⟨ad, nn, cc, hr⟩
      obtain ⟨ad, nn, cc, hlook⟩ := hlook
      have HST := Lib.hid (show ringD (pairs (L.take (k + 1))) = if z then ringD (pairs (L.take k)) else (ringD (pairs (L.take k))).put (kl (nth L k).ps) (.held (nth L k).whole) by
        rw [pairs_take L HKL.out, ringD_next]; unfold step; rw [← hz])
      clear hz hb1 HNM HM1 HX HB1 hc hd
      generalize lkN (strip (L.take k)) (nth L k).ps = q at hlook
      cases z with
      | true =>
        have HM3 := Lib.hid (show w1.ownsMap Try.prog 9 heldV w.heap.size (k + 1) (ringD (pairs (L.take (k + 1)))) by rw [HST.out]; exact HM2.out.mono (Nat.le_succ _))
        go_wp2_with fail
        go_roundw
        case rel => exact ⟨k + 1, by omega, by go_num, Lib.hid (HM3.out.alloc _), Lib.hid (HB2.out.alloc HB2.out.size _), Lib.hid (by have := HS2.out; simp; omega)⟩
        case measure => simp [intOf]; omega
      | false =>
        have HM3 := Lib.hid (HM2.out.alloc (.cells #[.slice ad nn cc, .int .i64 q] 89))
        have HB3 := Lib.hid (HB2.out.alloc HB2.out.size (.cells #[.slice ad nn cc, .int .i64 q] 89))
        have hy0 : (w1.alloc (.cells #[.slice ad nn cc, .int .i64 q] 89)).cell? ⟨wr.heap.size, 0, none⟩ = some (.slice (nth L k).ad (nth L k).n (nth L k).cap) := (((Below.refl w1.heap.size w1).alloc (Nat.le_refl _) _).cell (cell_lt hx0)).trans hx0
        have hy1 : (w1.alloc (.cells #[.slice ad nn cc, .int .i64 q] 89)).cell? ⟨wr.heap.size, 1, none⟩ = some (.int .i64 (nth L k).val) := (((Below.refl w1.heap.size w1).alloc (Nat.le_refl _) _).cell (cell_lt hx1)).trans hx1
        go_wp2_with (at_mapUpdate; refine wpList_mapUpdate_own _ rfl _ _ _ 118 rfl 9 89 strLaw Try.underlying118 heldV w.heap.size k _ rfl HM3.out (by unfold maxLen; omega) _ _ _ rfl rfl HKY.out (.held (nth L k).whole) [] rfl ?_)
        intro w3 hown3 hg3
        have HM4 := Lib.hid (show w3.ownsMap Try.prog 9 heldV w.heap.size (k + 1) (ringD (pairs (L.take (k + 1)))) by rw [HST.out]; exact hown3)
        have HB4 := Lib.hid (HB3.out.grown hg3 HB3.out.size (fun g hg => by cases hg; exact Nat.le_refl _))
        have HS4 := Lib.hid (show w.heap.size + 1 ≤ w3.heap.size by have := HS2.out; have := hg3.size; simp at this; omega)
        clear hown3 hg3 hlook hx0 hx1 hy0 hy1
        go_wp2_with fail
        go_roundw
        case rel => exact ⟨k + 1, by omega, by go_num, HM4, HB4, HS4⟩
        case measure => simp [intOf]; omega
    · obtain rfl : k = n := by omega
      clear hlt
      have hM9 := hM.out
      rw [List.take_of_length_le (by rw [← HN.out]; exact Nat.le_refl _)] at hM9
      have HM9 := Lib.hid hM9
      clear hM9
      go_wp2_with fail
      go_ret
      exact ⟨_, rfl, by rw [← HN.out]; exact HM9.out, Nat.le_refl _, hB.out⟩
end Go.Proofs.Ytcidfmmeonhkhaa.Row.Ring
/- Contracts of the helpers by which the laws measure, copy, compare, mark and look at data packets (a name, bytes, a name, two numbers). No conditions but that lengths fit. -/
namespace Go.Proofs.Ytcidfmmeonhkhaa.Row
open Go.ChangeShapes Go.WideShapes Go.ChangeAt Go.RowKit Go.Instr
set_option linter.unusedVariables false
set_option maxRecDepth 100000

abbrev Dt := List ByteArray × List Int × List ByteArray × Int × Int
/-- A packet's cells. -/
abbrev dc (a b c : Value) (f s : Int) : Array Value := #[a, b, c, .int .i64 f, .int .i64 s]
abbrev nil : Value := .slice none 0 0
/-- What the call's own slices of a packet are: in blocks from B on, no two the same. -/
def DOwn (B : Nat) (w : World) (a b c : Value) (x : Dt) : Prop := Own 9 Value.string B w a x.1 ∧ Sl.Own 5 .u8 B w b x.2.1 ∧ Own 9 Value.string B w c x.2.2.1 ∧ Apart a b ∧ Apart a c ∧ Apart b c
def DHold (w : World) (a b c : Value) (x : Dt) : Prop := Holds Value.string w a x.1 ∧ Sl.Holds .u8 w b x.2.1 ∧ Holds Value.string w c x.2.2.1
theorem DHold.on {w w' : World} {a b c : Value} {x : Dt} (h : DHold w a b c x) (hb : Below w.heap.size w w') : DHold w' a b c x := ⟨h.1.on hb, h.2.1.on hb, h.2.2.on hb⟩
theorem DOwn.hold {B : Nat} {w : World} {a b c : Value} {x : Dt} (h : DOwn B w a b c x) : DHold w a b c x := by
  exact ⟨h.1.holds, h.2.1.holds, h.2.2.1.holds⟩
theorem DHold.shape {w : World} {a b c : Value} {x : Dt} (h : DHold w a b c x) : ∃ xa na ca xb nb cb xc nc cc, a = .slice xa na ca ∧ b = .slice xb nb cb ∧ c = .slice xc nc cc := by
  obtain ⟨xa, na, ca, rfl, -⟩ := h.1.shapeN
  obtain ⟨xb, cb, rfl, -⟩ := h.2.1.shape
  obtain ⟨xc, nc, cc, rfl, -⟩ := h.2.2.shapeN
  exact ⟨_, _, _, _, _, _, _, _, _, rfl, rfl, rfl⟩
def bulkD (x : Dt) : Nat := bulk x.1 + x.2.1.length + bulk x.2.2.1
def szD (x : Dt) (left : Int) : Int := if (bulkD x : Int) ≤ left then left - bulkD x else -1
/-- Its parts are small enough for the contracts. -/
def smD (x : Dt) : Prop := bulk x.1 ≤ 1200000 ∧ x.2.1.length ≤ 1200000 ∧ bulk x.2.2.1 ≤ 1200000
def advD (x : Dt) : Nat := x.1.length + x.2.1.length + x.2.2.1.length
/-- A packet whose parts are marked. -/
def mkD (k : Int) (x : Dt) : Dt := (marks markT k x.1.length, Sl.marks .u8 (k + x.1.length) x.2.1.length, marks markT (k + x.1.length + x.2.1.length) x.2.2.1.length, x.2.2.2)
end Go.Proofs.Ytcidfmmeonhkhaa.Row
/- Data packets in the words of the exact laws: the kind; the laws' helpers for it; a packet that came in as an argument. No conditions but that lengths fit. -/
namespace Go.Proofs.Ytcidfmmeonhkhaa.Row
open Go.ChangeShapes Go.WideShapes Go.ChangeAt Go.RowKit Go.Instr
set_option linter.unusedVariables false
set_option maxRecDepth 100000

theorem u8one (x : Int) : (Value.int .u8 x).oneCell' = true := rfl
def kBs : Kd (List Int) (Rw Int) := kS 5 (Value.int .u8) u8one
def kD : Kd Dt (Rw ByteArray × Rw Int × Rw ByteArray × Int × Int) := (kNm 9).pair (kBs.pair ((kNm 9).pair (kInt.pair kInt)))
section
variable {w : World} {a b c V : Value} {x : Dt} {B E : Nat}
theorem kD_at (h : kD.At w V x) : ∃ a b c, V = .agg (dc a b c x.2.2.2.1 x.2.2.2.2) ∧ DHold w a b c x := by
  obtain ⟨⟨r, q, t, f, s⟩, rfl, rfl, h⟩ := h
  exact ⟨r.v, q.v, t.v, rfl, kNm_at (e := 9) ⟨r, rfl, rfl, h.1⟩, kS_at (h1 := u8one) (e := 5) ⟨q, rfl, rfl, h.2.1⟩, kNm_at (e := 9) ⟨t, rfl, rfl, h.2.2.1⟩⟩
theorem kD_of (h : DHold w a b c x) : kD.At w (.agg (dc a b c x.2.2.2.1 x.2.2.2.2)) x := by
  obtain ⟨l, m, k, f, s⟩ := x
  obtain ⟨r, rfl, e1, h1⟩ := kNm_of (e := 9) h.1
  obtain ⟨q, rfl, e2, h2⟩ := kS_of (enc := Value.int .u8) (h1 := u8one) (e := 5) h.2.1
  obtain ⟨t, rfl, e3, h3⟩ := kNm_of (e := 9) h.2.2
  exact ⟨(r, q, t, f, s), rfl, Prod.ext e1 (Prod.ext e2 (Prod.ext e3 rfl)), h1, h2, h3, trivial, trivial⟩
theorem kD_shapeA (h : kD.At w V x) : ∃ xa na ca xb nb cb xc nc cc, V = .agg #[.slice xa na ca, .slice xb nb cb, .slice xc nc cc, .int .i64 x.2.2.2.1, .int .i64 x.2.2.2.2] ∧ kD.At w (.agg #[.slice xa na ca, .slice xb nb cb, .slice xc nc cc, .int .i64 x.2.2.2.1, .int .i64 x.2.2.2.2]) x := by
  obtain ⟨a, b, c, rfl, ho⟩ := kD_at h
  obtain ⟨xa, na, ca, xb, nb, cb, xc, nc, cc, rfl, rfl, rfl⟩ := ho.shape
  exact ⟨_, _, _, _, _, _, _, _, _, rfl, h⟩
end
/-- Its parts' sizes and its numbers fit. -/
def WfD (x : Dt) : Prop := (∀ y ∈ x.1, y.size ≤ maxLen) ∧ (∀ y ∈ x.2.1, (Lit.int .u8 y).wf = true) ∧ (∀ y ∈ x.2.2.1, y.size ≤ maxLen) ∧ (Lit.int .i64 x.2.2.2.1).wf = true ∧ (Lit.int .i64 x.2.2.2.2).wf = true
end Go.Proofs.Ytcidfmmeonhkhaa.Row
/- Contracts of the model's functions on data packets: copy, validity, freshness, equality. No conditions but that lengths fit. -/
namespace Go.Proofs.Ytcidfmmeonhkhaa.Row
open Go.ChangeShapes Go.WideShapes Go.ChangeAt Go.RowKit Go.Instr
set_option linter.unusedVariables false
set_option maxRecDepth 100000

/-- A result that is a packet of the call's own. -/
def GivesD (w : World) (x : Dt) (e : Ending) (w' : World) : Prop := ∃ a b c, e = .returned (.agg (dc a b c x.2.2.2.1 x.2.2.2.2)) ∧ DOwn w.heap.size w' a b c x ∧ Below w.heap.size w w'
def GivesDB (w : World) (x : Dt) (z : Bool) (e : Ending) (w' : World) : Prop := ∃ a b c, e = .returned (.tuple #[.agg (dc a b c x.2.2.2.1 x.2.2.2.2), .bool z]) ∧ DOwn w.heap.size w' a b c x ∧ Below w.heap.size w w'

def validD (x : Dt) : Bool := validN x.1 && decide (0 < x.1.length) && decide (x.2.1.length ≤ 60) && validN x.2.2.1 && decide (0 ≤ x.2.2.2.1 ∧ x.2.2.2.1 ≤ 100000) && decide (0 ≤ x.2.2.2.2 ∧ x.2.2.2.2 ≤ 2147483646)
theorem validD_iff {x : Dt} : validD x = true ↔ validN x.1 = true ∧ 0 < x.1.length ∧ x.2.1.length ≤ 60 ∧ validN x.2.2.1 = true ∧ (0 ≤ x.2.2.2.1 ∧ x.2.2.2.1 ≤ 100000) ∧ (0 ≤ x.2.2.2.2 ∧ x.2.2.2.2 ≤ 2147483646) := by
  unfold validD
  simp only [Bool.and_eq_true, decide_eq_true_eq, and_assoc]
theorem validD_no {x : Dt} (h : ¬ (validN x.1 = true ∧ 0 < x.1.length ∧ x.2.1.length ≤ 60 ∧ validN x.2.2.1 = true ∧ (0 ≤ x.2.2.2.1 ∧ x.2.2.2.1 ≤ 100000) ∧ (0 ≤ x.2.2.2.2 ∧ x.2.2.2.2 ≤ 2147483646))) : validD x = false := by
  cases e : validD x with
  | false => rfl
  | true => exact absurd (validD_iff.1 e) h

set_option maxHeartbeats 4000000 in
theorem specValidData (a b c : Value) (x : Dt) (w : World) (h : DHold w a b c x) (h1 : bulk x.1 ≤ 9000000) (h3 : bulk x.2.2.1 ≤ 9000000) :
    Calls Try.prog 41 #[.agg (dc a b c x.2.2.2.1 x.2.2.2.2)] w fun e w' => e = .returned (.bool (validD x)) ∧ Below w.heap.size w w' := by
  obtain ⟨l, m, k, f, s⟩ := x
  simp only at h1 h3 ⊢
  obtain ⟨xa, na, ca, xb, nb, cb, xc, nc, cc, rfl, rfl, rfl⟩ := h.shape
  have HA := Lib.hid (show na = l.length from Holds.lenEq h.1); have HM := Lib.hid (show nb = m.length from Sl.Holds.lenEq h.2.1)
  have HB := Lib.hid ((Below.refl w.heap.size w).alloc (Nat.le_refl _) (.cells (dc (.slice xa na ca) (.slice xb nb cb) (.slice xc nc cc) f s) 61))
  have H0 := Lib.hid h
  have HX := Lib.hid (Ret.Blk.new w (dc (.slice xa na ca) (.slice xb nb cb) (.slice xc nc cc) f s) 61)
  clear h
  obtain ⟨v1, hv1⟩ : ∃ z, validN l = z := ⟨_, rfl⟩
  obtain ⟨v2, hv2⟩ : ∃ z, validN k = z := ⟨_, rfl⟩
  have HV1 := Lib.hid hv1; have HV2 := Lib.hid hv2
  clear hv1 hv2
  go_enter Try.func41, Try.ntmps41
  go_wp2_with fail
  refine (specValidName _ l _ (H0.out.on HB.out).1 (by omega)).mono ?_
  rintro e w1 ⟨rfl, hb⟩
  rw [HV1.out]
  replace HX := Lib.hid (HX.out.on hb)
  replace HB := Lib.hid (HB.out.trans (hb.mono HB.out.size)); clear hb
  have q0 : w1.cell? ⟨w.heap.size, 0, none⟩ = some (.slice xa na ca) := HX.out.cell 0
  have q1 : w1.cell? ⟨w.heap.size, 1, none⟩ = some (.slice xb nb cb) := HX.out.cell 1
  have q2 : w1.cell? ⟨w.heap.size, 2, none⟩ = some (.slice xc nc cc) := HX.out.cell 2
  have q3 : w1.cell? ⟨w.heap.size, 3, none⟩ = some (.int .i64 f) := HX.out.cell 3
  have q4 : w1.cell? ⟨w.heap.size, 4, none⟩ = some (.int .i64 s) := HX.out.cell 4
  cases v1 with
  | false =>
    have HV := Lib.hid (validD_no (x := (l, m, k, f, s)) (fun e => by have h9 := e.1; rw [show validN l = false from HV1.out] at h9; cases h9))
    go_wp2_with fail
    go_ret
    exact ⟨ret_bool HV.out.symm, HB.out⟩
  | true =>
    by_cases hn : 0 < na
    · have t2 : decide ((0 : Int) < (na : Int)) = true := by simp; omega
      by_cases hm : nb ≤ 60
      · have t3 : decide ((nb : Int) ≤ 60) = true := by simp; omega
        go_wp2_with fail
        clear q0 q1 q2 q3 q4
        refine (specValidName _ k _ (H0.out.on HB.out).2.2 (by omega)).mono ?_
        rintro e w2 ⟨rfl, hb⟩
        rw [HV2.out]
        replace HX := Lib.hid (HX.out.on hb)
        replace HB := Lib.hid (HB.out.trans (hb.mono HB.out.size)); clear hb
        have q0 : w2.cell? ⟨w.heap.size, 0, none⟩ = some (.slice xa na ca) := HX.out.cell 0
        have q1 : w2.cell? ⟨w.heap.size, 1, none⟩ = some (.slice xb nb cb) := HX.out.cell 1
        have q2 : w2.cell? ⟨w.heap.size, 2, none⟩ = some (.slice xc nc cc) := HX.out.cell 2
        have q3 : w2.cell? ⟨w.heap.size, 3, none⟩ = some (.int .i64 f) := HX.out.cell 3
        have q4 : w2.cell? ⟨w.heap.size, 4, none⟩ = some (.int .i64 s) := HX.out.cell 4
        cases v2 with
        | false =>
          have HV := Lib.hid (validD_no (x := (l, m, k, f, s)) (fun e => by have h9 := e.2.2.2.1; rw [show validN k = false from HV2.out] at h9; cases h9))
          go_wp2_with fail
          go_ret
          exact ⟨ret_bool HV.out.symm, HB.out⟩
        | true =>
          by_cases hf : 0 ≤ f ∧ f ≤ 100000
          · have HI := Lib.hid (fun wx => Num.specIn_true hf.1 hf.2 wx)
            have H_hf := Lib.hid hf
            clear hf
            go_wp2_with fail
            refine (HI.out _).mono ?_
            rintro e w' ⟨rfl, rfl⟩
            clear HI
            by_cases hs : 0 ≤ s ∧ s ≤ 2147483646
            · have HI := Lib.hid (fun wx => Num.specIn_true hs.1 hs.2 wx)
              have H_hs := Lib.hid hs
              clear hs
              go_wp2_with fail
              refine (HI.out _).mono ?_
              rintro e w' ⟨rfl, rfl⟩
              clear HI
              have HV := Lib.hid ((validD_iff (x := (l, m, k, f, s))).2 (show validN l = true ∧ 0 < l.length ∧ m.length ≤ 60 ∧ validN k = true ∧ (0 ≤ f ∧ f ≤ 100000) ∧ (0 ≤ s ∧ s ≤ 2147483646) from ⟨HV1.out, by rw [← HA.out]; exact hn, by rw [← HM.out]; exact hm, HV2.out, H_hf.out, H_hs.out⟩))
              go_wp2_with fail
              go_ret
              exact ⟨ret_bool HV.out.symm, HB.out⟩
            · have HI := Lib.hid (fun wx => Num.specIn_false hs wx)
              have HV := Lib.hid (validD_no (x := (l, m, k, f, s)) (fun e => hs e.2.2.2.2.2))
              clear hs
              go_wp2_with fail
              refine (HI.out _).mono ?_
              rintro e w' ⟨rfl, rfl⟩
              go_wp2_with fail
              go_ret
              exact ⟨ret_bool HV.out.symm, HB.out⟩
          · have HI := Lib.hid (fun wx => Num.specIn_false hf wx)
            have HV := Lib.hid (validD_no (x := (l, m, k, f, s)) (fun e => hf e.2.2.2.2.1))
            clear hf
            go_wp2_with fail
            refine (HI.out _).mono ?_
            rintro e w' ⟨rfl, rfl⟩
            go_wp2_with fail
            go_ret
            exact ⟨ret_bool HV.out.symm, HB.out⟩
      · have t3 : decide ((nb : Int) ≤ 60) = false := by simp; omega
        have HV := Lib.hid (validD_no (x := (l, m, k, f, s)) (fun e => hm (by rw [HM.out]; exact e.2.2.1)))
        go_wp2_with fail
        go_ret
        exact ⟨ret_bool HV.out.symm, HB.out⟩
    · have t2 : decide ((0 : Int) < (na : Int)) = false := by simp; omega
      have HV := Lib.hid (validD_no (x := (l, m, k, f, s)) (fun e => hn (by rw [HA.out]; exact e.2.1)))
      go_wp2_with fail
      go_ret
      exact ⟨ret_bool HV.out.symm, HB.out⟩

end Go.Proofs.Ytcidfmmeonhkhaa.Row
/- What chapter 3 computes, on lists of numbers: digest, MAC, the bytes of a slice as numbers, enciphered and deciphered bytes. No conditions. -/
namespace Go.Proofs.Ytcidfmmeonhkhaa.Seal
open Sl (nth nth_eq)

def dstep (d x : Int) : Int := (d * 1000003 + x % 2147483647 + 13) % 2147483647
def digest (l : List Int) : Int := l.foldl dstep 11
def mac (s : Int) (l : List Int) : Int := digest ([s] ++ l ++ [s])
def b2i (l : List Int) : List Int := (l.length : Int) :: l
def derive (s : Int) (l : List Int) : Int := if mac s (b2i l) = 0 then 1 else mac s (b2i l)
def chg (f : Nat → Int → Int) (l : List Int) : List Int := l.mapIdx f
def encF (s : Int) (i : Nat) (x : Int) : Int := (x + mac s [(i : Int)]) % 256
def decF (s : Int) (i : Nat) (x : Int) : Int := (x - mac s [(i : Int)]) % 256
def enc (s : Int) (l : List Int) : List Int := chg (encF s) l
def dec (s : Int) (l : List Int) : List Int := chg (decF s) l

theorem digest_zero (l : List Int) : digest (l.take 0) = 11 := by simp [digest]
theorem digest_step {l : List Int} {k : Nat} (h : k < l.length) : digest (l.take (k + 1)) = dstep (digest (l.take k)) (nth l k) := by
  unfold digest
  rw [List.take_succ_eq_append_getElem h, List.foldl_append, nth_eq h]; rfl
end Go.Proofs.Ytcidfmmeonhkhaa.Seal
/- Contracts of the library's slices.Grow at the nil slice, slices.Concat and slices.Equal at slices of integers. No conditions but that lengths fit. -/
namespace Go.Proofs.Ytcidfmmeonhkhaa.Sl
open Go.ChangeShapes Go.WideShapes Go.ChangeAt Go.RowKit Go.Instr
set_option linter.unusedVariables false
set_option maxRecDepth 100000

/-- The first k lists, one behind the other. -/
def cat (ls : Nat → List Int) : Nat → List Int
  | 0 => []
  | k + 1 => cat ls k ++ ls k
end Go.Proofs.Ytcidfmmeonhkhaa.Sl
/- Contracts of the laws' own comparisons of slices of numbers: whether they hold equal lists. Nothing in memory turns but the count of draws. No conditions but that lengths fit. -/
namespace Go.Proofs.Ytcidfmmeonhkhaa.Sl
open Go.ChangeShapes Go.WideShapes Go.ChangeAt Go.RowKit Go.Instr
set_option linter.unusedVariables false
set_option maxRecDepth 100000

theorem Holds.upto {k : IntKind} {w : World} {x : Option Addr} {n cap : Nat} {l : List Int} (h : Holds k w (.slice x n cap) l) {j : Nat} (hj : j ≤ n) : Holds k w (.slice x j cap) (l.take j) := by
  obtain ⟨x', cap', hv, hc, hh⟩ := h
  cases hv
  have hl : (l.take j).length = j := by simp; omega
  refine ⟨x, cap, by rw [hl], by omega, ?_⟩
  rcases hh with rfl | ⟨b, off, hx, hh⟩
  · left; simp
  · right
    refine ⟨b, off, hx, fun i hi => ?_⟩
    rw [hl] at hi
    rw [hh i (by omega)]
    simp only [nth, List.getD, List.getElem?_take, if_pos hi]
end Go.Proofs.Ytcidfmmeonhkhaa.Sl
/- Contracts of chapter 3's digests and MACs, the reference model's and the program's: Digest, ComputeMAC, ValidSecret, BytesToInts, DeriveSecret, EqualInts. What was in memory stays as it was. No conditions but that lengths fit. -/
namespace Go.Proofs.Ytcidfmmeonhkhaa.Sl
open Go.ChangeShapes Go.WideShapes Go.ChangeAt Go.RowKit Go.Instr
open Seal (digest mac b2i derive dstep)
set_option linter.unusedVariables false
set_option maxRecDepth 100000

theorem implModP (n : Int) (w : World) : Calls Try.prog 100 #[.int .i64 n, .int .i64 2147483647] w fun e w' => (∃ r : Int, e = .returned (.int .i64 r) ∧ r = n % 2147483647 ∧ 0 ≤ r ∧ r < 2147483647) ∧ w = w' := by
  refine (Num.implMod n 2147483647 w).mono ?_
  rintro e w' ⟨rfl, rfl⟩
  exact ⟨⟨_, rfl, by simp [Num.modI], Num.modI_nonneg _ (by decide), Num.modI_lt _ (by decide)⟩, rfl⟩
theorem specModP (n : Int) (w : World) : Calls Try.prog 96 #[.int .i64 n, .int .i64 2147483647] w fun e w' => (∃ r : Int, e = .returned (.int .i64 r) ∧ r = n % 2147483647 ∧ 0 ≤ r ∧ r < 2147483647) ∧ w = w' := by
  refine (Num.specMod n 2147483647 w).mono ?_
  rintro e w' ⟨rfl, rfl⟩
  exact ⟨⟨_, rfl, by simp [Num.modI], Num.modI_nonneg _ (by decide), Num.modI_lt _ (by decide)⟩, rfl⟩

set_option maxHeartbeats 1000000 in
theorem implDigest (v : Value) (l : List Int) (w : World) (h : Holds .i64 w v l) (hl : l.length ≤ 100000000) :
    Calls Try.prog 61 #[v] w fun e w' => e = .returned (.int .i64 (digest l)) ∧ w = w' := by
  obtain ⟨x, cap, rfl, hcap, hh⟩ := h.shape
  obtain ⟨n, hn⟩ : ∃ n, n = l.length := ⟨_, rfl⟩
  rw [← hn] at hcap hh hl ⊢
  have HN := Lib.hid hn; have HH := Lib.hid hh
  clear hn h hh
  go_enter Try.func61, Try.ntmps61
  go_wp2_with fail
  go_loop [3, 8] (fun dv iv => ∃ (k : Nat) (d : Int), k ≤ n ∧ iv = .int .i64 k ∧ dv = .int .i64 d ∧ 0 ≤ d ∧ d < 2147483647 ∧ Hid (d = digest (l.take k))) (fun _ iv => n - (intOf iv).toNat)
  case atStart => exact ⟨0, 11, Nat.zero_le _, rfl, rfl, by decide, by decide, Lib.hid (Seal.digest_zero l).symm⟩
  case round =>
    obtain ⟨k, d, hk, rfl, rfl, d0, d1, hd⟩ := hrel
    by_cases hlt : k < n
    · have hlen := HN.out
      obtain ⟨b, off, rfl, hc⟩ := HH.out.at (j := k) (by omega)
      have HS := Lib.hid (Seal.digest_step (l := l) (k := k) (by omega))
      clear hlen
      go_wp2_with fail
      refine (implModP _ _).mono ?_
      rintro e w' ⟨⟨r, rfl, hr, r0, r1⟩, rfl⟩
      have HR := Lib.hid hr; clear hr
      go_wp2_with fail
      refine (implModP _ _).mono ?_
      rintro e w' ⟨⟨q, rfl, hq, q0, q1⟩, rfl⟩
      have HQ := Lib.hid hq; clear hq
      go_wp2_with fail
      go_round
      case rel => exact ⟨k + 1, q, by omega, by go_num, rfl, q0, q1, Lib.hid (by rw [HS.out, ← hd.out, HQ.out, HR.out]; rfl)⟩
      case measure => simp [intOf]; omega
    · obtain rfl : k = n := by omega
      have HD := Lib.hid (show d = digest l by rw [hd.out, HN.out, List.take_length])
      clear hlt
      go_wp2
      go_ret
      exact ⟨ret_int HD.out, rfl⟩

set_option maxHeartbeats 1000000 in
theorem specDigest (v : Value) (l : List Int) (w : World) (h : Holds .i64 w v l) (hl : l.length ≤ 100000000) :
    Calls Try.prog 56 #[v] w fun e w' => e = .returned (.int .i64 (digest l)) ∧ w = w' := by
  obtain ⟨x, cap, rfl, hcap, hh⟩ := h.shape
  obtain ⟨n, hn⟩ : ∃ n, n = l.length := ⟨_, rfl⟩
  rw [← hn] at hcap hh hl ⊢
  have HN := Lib.hid hn; have HH := Lib.hid hh
  clear hn h hh
  go_enter Try.func56, Try.ntmps56
  go_wp2_with fail
  go_loop [3, 4] (fun dv iv => ∃ (k : Nat) (d : Int), k ≤ n ∧ iv = .int .i64 k ∧ dv = .int .i64 d ∧ 0 ≤ d ∧ d < 2147483647 ∧ Hid (d = digest (l.take k))) (fun _ iv => n - (intOf iv).toNat)
  case atStart => exact ⟨0, 11, Nat.zero_le _, rfl, rfl, by decide, by decide, Lib.hid (Seal.digest_zero l).symm⟩
  case round =>
    obtain ⟨k, d, hk, rfl, rfl, d0, d1, hd⟩ := hrel
    by_cases hlt : k < n
    · have hlen := HN.out
      obtain ⟨b, off, rfl, hc⟩ := HH.out.at (j := k) (by omega)
      have HS := Lib.hid (Seal.digest_step (l := l) (k := k) (by omega))
      clear hlen
      go_wp2_with fail
      refine (specModP _ _).mono ?_
      rintro e w' ⟨⟨r, rfl, hr, r0, r1⟩, rfl⟩
      have HR := Lib.hid hr; clear hr
      obtain ⟨q, hq⟩ : ∃ q, q = (d * 1000003 + r + 13) % 2147483647 := ⟨_, rfl⟩
      have HQ := Lib.hid hq; clear hq
      go_wp2_with fail
      go_round
      case rel => exact ⟨k + 1, q, by omega, by go_num, by rw [HQ.out], by have := HQ.out; omega, by have := HQ.out; omega, Lib.hid (by rw [HS.out, ← hd.out, HQ.out, HR.out]; rfl)⟩
      case measure => simp [intOf]; omega
    · obtain rfl : k = n := by omega
      have HD := Lib.hid (show d = digest l by rw [hd.out, HN.out, List.take_length])
      clear hlt
      go_wp2
      go_ret
      exact ⟨ret_int HD.out, rfl⟩

def GivesN (w : World) (n : Int) (e : Ending) (w' : World) : Prop := e = .returned (.int .i64 n) ∧ Below w.heap.size w w'

theorem implValidSecret (s : Int) (w : World) :
    Calls Try.prog 120 #[.int .i64 s] w fun e w' => e = .returned (.bool (Num.inB s 1 2147483646)) ∧ w = w' := by
  go_enter Try.func120, Try.ntmps120
  go_wp2_with fail
  refine (Num.implInRange _ _ _ _).mono ?_
  rintro e w' ⟨rfl, rfl⟩
  go_wp2_with fail
  go_ret
  exact ⟨rfl, rfl⟩
theorem specValidSecret (s : Int) (w : World) :
    Calls Try.prog 83 #[.int .i64 s] w fun e w' => e = .returned (.bool (Num.inB s 1 2147483646)) ∧ w = w' := by
  go_enter Try.func83, Try.ntmps83
  go_wp2_with fail
  refine (Num.specIn _ _ _ _).mono ?_
  rintro e w' ⟨rfl, rfl⟩
  go_wp2_with fail
  go_ret
  exact ⟨rfl, rfl⟩

end Go.Proofs.Ytcidfmmeonhkhaa.Sl
/- Contracts of chapter 3's BytesToInts, DeriveSecret, Encrypt and Decrypt, the reference model's and the program's: what they give lies in memory of the call's own; what was in memory stays as it was. No conditions but that lengths fit and that the elements are bytes. -/
namespace Go.Proofs.Ytcidfmmeonhkhaa.Sl
open Go.ChangeShapes Go.WideShapes Go.ChangeAt Go.RowKit Go.Instr
open Seal (digest mac b2i derive dstep chg encF decF enc dec)
set_option linter.unusedVariables false
set_option maxRecDepth 100000

/-- A MAC over one number. -/
def GivesM (w : World) (s i : Int) (e : Ending) (w' : World) : Prop := ∃ m : Int, e = .returned (.int .i64 m) ∧ m = mac s [i] ∧ 0 ≤ m ∧ m < 2147483647 ∧ Below w.heap.size w w'
def GivesU (w : World) (n : Int) (e : Ending) (w' : World) : Prop := ∃ m : Int, e = .returned (.int .u8 m) ∧ m = n ∧ 0 ≤ m ∧ m ≤ 255 ∧ Below w.heap.size w w'

end Go.Proofs.Ytcidfmmeonhkhaa.Sl
/- Mathematics of the signed portion; the regions of SignedPortion of the model. No conditions but that lengths fit. -/
namespace Go.Proofs.Ytcidfmmeonhkhaa.Row
open Go.ChangeShapes Go.WideShapes Go.ChangeAt Go.RowKit Go.Instr
set_option linter.unusedVariables false
set_option maxRecDepth 100000

/-- The signed portion. -/
def portD (x : Dt) : List Int := Seal.b2i (appName [] x.1) ++ Seal.b2i x.2.1 ++ Seal.b2i (appName [] x.2.2.1) ++ [x.2.2.2.1]
end Go.Proofs.Ytcidfmmeonhkhaa.Row
/- The region of the program's portion. No conditions but that lengths fit. -/
namespace Go.Proofs.Ytcidfmmeonhkhaa.Row
open Go.ChangeShapes Go.WideShapes Go.ChangeAt Go.RowKit Go.Instr
set_option linter.unusedVariables false
set_option maxRecDepth 100000

end Go.Proofs.Ytcidfmmeonhkhaa.Row
/- Contracts of chapter 3's Encrypt, Decrypt and DeriveSecret, the reference model's, and the program's DeriveSecret. No conditions but that lengths fit and that the elements are bytes. -/
namespace Go.Proofs.Ytcidfmmeonhkhaa.Sl
open Go.ChangeShapes Go.WideShapes Go.ChangeAt Go.RowKit Go.Instr
open Seal (digest mac b2i derive dstep chg encF decF enc dec)
set_option linter.unusedVariables false
set_option maxRecDepth 100000

end Go.Proofs.Ytcidfmmeonhkhaa.Sl
/- SignedPortion of the model and of the program; the program's mac, clone and sign. No conditions but that lengths fit. -/
namespace Go.Proofs.Ytcidfmmeonhkhaa.Row
open Go.ChangeShapes Go.WideShapes Go.ChangeAt Go.RowKit Go.Instr
set_option linter.unusedVariables false
set_option maxRecDepth 100000

end Go.Proofs.Ytcidfmmeonhkhaa.Row
/- SignData and VerifyData, model and program. No conditions but that lengths fit. -/
namespace Go.Proofs.Ytcidfmmeonhkhaa.Row
open Go.ChangeShapes Go.WideShapes Go.ChangeAt Go.RowKit Go.Instr
set_option linter.unusedVariables false
set_option maxRecDepth 100000

/-- x, signed with t. -/
def sgD (t : Int) (x : Dt) : Dt := (x.1, x.2.1, x.2.2.1, x.2.2.2.1, Seal.mac t (portD x))
def verD (t : Int) (x : Dt) : Bool := Num.inB t 1 2147483646 && (x.2.2.2.2 == Seal.mac t (portD x))
theorem sSecV {t : Int} (z : Bool) (hz : Num.inB t 1 2147483646 = z) {w : World} : Calls Try.prog 83 #[.int .i64 t] w fun e w' => e = .returned (.bool z) ∧ Below w.heap.size w w' := (Sl.specValidSecret t w).mono fun e w' ⟨p, q⟩ => ⟨by rw [p, hz], by subst q; exact Below.refl _ _⟩
theorem iSecV {t : Int} (z : Bool) (hz : Num.inB t 1 2147483646 = z) {w : World} : Calls Try.prog 120 #[.int .i64 t] w fun e w' => e = .returned (.bool z) ∧ Below w.heap.size w w' := (Sl.implValidSecret t w).mono fun e w' ⟨p, q⟩ => ⟨by rw [p, hz], by subst q; exact Below.refl _ _⟩
end Go.Proofs.Ytcidfmmeonhkhaa.Row
/- Contracts of SecretOf, the program's and the model's, and of the program's ValidKeys. No conditions but that lengths fit. -/
namespace Go.Proofs.Ytcidfmmeonhkhaa.Row.Ring
open Go.ChangeShapes Go.WideShapes Go.ChangeAt Go.RowKit Go.Instr
set_option linter.unusedVariables false
set_option maxRecDepth 100000

theorem map_on {P : Program} {k : TypeId} {R : Value → Option (DataW Value × List MemPlace)} {b n : Nat} {D : DataW Value} {w w' : World} (h : w.ownsMap P k R b n D) (hb : Below w.heap.size w w') : w'.ownsMap P k R b n D := by
  obtain ⟨es, clock, hbk, r⟩ := h
  exact ⟨es, clock, (hb.block _ (Array.getElem?_eq_some_iff.1 hbk).1).trans hbk, r⟩

set_option maxHeartbeats 2000000 in
theorem specSecretOf (v u : Value) (T : List (List ByteArray × Int)) (m : List ByteArray) (w : World) (h : TabHolds w v T) (g : Holds Value.string w u m) (hl : T.length ≤ 4000000) (hT : smT T) (hm : bulk m ≤ 9000000) :
    Calls Try.prog 54 #[v, .agg #[u]] w fun e w' => e = .returned (.int .i64 (lkN T m)) ∧ Below w.heap.size w w' := by
  obtain ⟨L, rfl, h⟩ := h
  obtain ⟨x, n, cx, rfl, hn, hcx, hh⟩ := h.shapeN
  obtain ⟨y, q, cy, rfl, -, hcy, hg⟩ := g.shapeN
  have hb0 := (Below.refl w.heap.size w).alloc (Nat.le_refl _) (.cells #[.slice y q cy] 47)
  have HF := Lib.hid (l9Find (.slice x n cx) (.slice y q cy) (strip L) m _ ⟨L, rfl, hh.on hb0⟩ (hg.on hb0) (by omega) hT (Nat.le_trans (bulk_len m) hm))
  rw [strip_length, ← hn] at hl
  have HB := Lib.hid hb0; have HN := Lib.hid hn; have HH := Lib.hid (hh.on hb0)
  clear hb0 hn hh h hg g hT
  go_enter Try.func54, Try.ntmps54
  go_wp2_with fail
  refine HF.out.mono ?_
  rintro e w1 ⟨rfl, hb⟩
  have HB1 := Lib.hid (HB.out.trans (hb.mono HB.out.size)); have HH1 := Lib.hid (HH.out.on hb)
  clear hb HF
  rcases ixT_cases (isN m) (strip L) with ⟨h1, h2, -⟩ | ⟨i, hi, h1, h2, -, -⟩
  · have HV := Lib.hid (show lkN (strip L) m = 0 by unfold lkN; rw [h2, if_neg (by omega)])
    rw [h1]
    clear h1 h2
    go_wp2_with fail
    go_ret
    exact ⟨ret_int HV.out.symm, HB1.out⟩
  · rw [strip_length] at hi
    have HV := Lib.hid (show lkN (strip L) m = (nth L i).val by unfold lkN; rw [h2, if_pos (by rw [strip_length]; exact hi), strip_nth hi]; rfl)
    obtain ⟨b, off, rfl, hc, hd, hnm⟩ := HH1.out.at hi
    have hi2 : (i : Int) < (n : Int) := by have := HN.out; omega
    have hi3 : ¬ (i : Int) < 0 := by omega
    rw [h1]
    clear h1 h2 hi hnm hc
    go_wp2_with fail
    go_ret
    exact ⟨ret_int HV.out.symm, HB1.out⟩

set_option maxHeartbeats 4000000 in
theorem implSecretOf (v u : Value) (T : List (List ByteArray × Int)) (m : List ByteArray) (w : World) (h : TabHolds w v T) (g : Holds Value.string w u m) (hl : T.length ≤ 4000000) (hT : smT T) (hm : bulk m ≤ 9000000) :
    Calls Try.prog 59 #[v, .agg #[u]] w fun e w' => e = .returned (.int .i64 (lkN T m)) ∧ Below w.heap.size w w' := by
  obtain ⟨L, rfl, h⟩ := h
  obtain ⟨x, n, cx, rfl, hn, hcx, hh⟩ := h.shapeN
  obtain ⟨y, q, cy, rfl, -, hcy, hg⟩ := g.shapeN
  have hb0 := ((Below.refl w.heap.size w).alloc (Nat.le_refl _) (.cells #[.slice y q cy] 47)).drew
  obtain ⟨ad, nn, cc, hat⟩ := pairs_key m (smN_bulk hm) (L := L) hT
  have HP := Lib.hid hat
  have HK := Lib.hid (keyTxt hm)
  rw [strip_length] at hl
  have HL := Lib.hid hl; have HT := Lib.hid hT; have HM := Lib.hid hm
  have HB := Lib.hid hb0; have HH := Lib.hid (hh.on hb0); have HG := Lib.hid (hg.on hb0)
  have HX := Lib.hid (Ret.Box.new w (.slice y q cy) 47)
  have KS0 := Lib.hid (show (w.alloc (.cells #[.slice y q cy] 47)).drew.cell? ⟨w.heap.size, 0, none⟩ = some (.slice y q cy) ∧ Below w.heap.size w (w.alloc (.cells #[.slice y q cy] 47)).drew from ⟨HX.out.cell, HB.out⟩)
  generalize lkN (strip L) m = r at *
  have hfd : ∀ wx : World, (Instr.field 89 (.agg #[.slice ad nn cc, .int .i64 r]) 1).run Try.prog wx = .ok (.int .i64 r) wx := fun wx => by kernel_rfl
  clear hb0 hn hh h hg g hT hat hl hm
  go_enter Try.func59, Try.ntmps59
  go_wp2_with fail
  go_region_held3 (fun w' => w'.cell? ⟨w.heap.size, 0, none⟩ = some (.slice y q cy) ∧ Below w.heap.size w w') (first | exact KS0.out | exact KS1.out | exact KS2.out) (first | (go_at_call 97; refine (nameText _ m _ (HG.out.on hb1) HM.out).mono ?_; rintro e w2 ⟨rfl, hb2⟩; have KS2 := Lib.hid (show w2.cell? ⟨w.heap.size, 0, none⟩ = some (.slice y q cy) ∧ Below w.heap.size w w2 from ⟨kc KS1.out.1 hb2, KS1.out.2.trans (hb2.mono KS1.out.2.size)⟩); obtain ⟨v9, ps9, hlook, hv⟩ := (map_on hown.out hb2).lookup strLaw Try.underlying118 (zeroKey w2) (zd := .held zK) (zp := []) rfl HK.out; rw [HP.out] at hv; rw [heldV_inj hv] at hlook; clear hv hb2) | (go_at_call 89; refine (keyringOf _ L _ HH.out HL.out HT.out).mono ?_; rintro e w1 ⟨b1, rfl, hown, -, hb1⟩; have hown := Lib.hid hown; have KS1 := Lib.hid (show w1.cell? ⟨w.heap.size, 0, none⟩ = some (.slice y q cy) ∧ Below w.heap.size w w1 from ⟨kc KS0.out.1 hb1, KS0.out.2.trans (hb1.mono KS0.out.2.size)⟩)))
  all_goals
    go_wp2_with fail
    go_ret
    exact ⟨rfl, KS2.out.2⟩

set_option maxHeartbeats 2000000 in
theorem validKey (v : Value) (l : List ByteArray) (s : Int) (w : World) (h : Holds Value.string w v l) (hl : bulk l ≤ 9000000) :
    Calls Try.prog 88 #[.agg #[v, .int .i64 s]] w fun e w' => e = .returned (.bool (vkey (l, s))) ∧ Below w.heap.size w w' := by
  obtain ⟨x, n, cx, rfl, hn, hcx, hh⟩ := h.shapeN
  have HN := Lib.hid hn
  have hb0 := (Below.refl w.heap.size w).alloc (Nat.le_refl _) (.cells #[.slice x n cx, .int .i64 s] 89)
  have HB := Lib.hid hb0
  have HH := Lib.hid (hh.on hb0)
  have HX := Lib.hid (Ret.Blk.new w #[.slice x n cx, .int .i64 s] 89)
  obtain ⟨v1, hv1⟩ : ∃ z, validN l = z := ⟨_, rfl⟩
  obtain ⟨v3, hv3⟩ : ∃ z, Num.inB s 1 2147483646 = z := ⟨_, rfl⟩
  have HV1 := Lib.hid hv1; have HV3 := Lib.hid hv3
  clear hb0 hn hh h hv1 hv3
  go_enter Try.func88, Try.ntmps88
  go_wp2_with fail
  refine (implValidName _ l _ HH.out (by omega)).mono ?_
  rintro e w1 ⟨rfl, hb⟩
  rw [HV1.out]
  have HX1 := Lib.hid (HX.out.on hb)
  have HB1 := Lib.hid (HB.out.trans (hb.mono HB.out.size)); clear hb
  have q0 : w1.cell? ⟨w.heap.size, 0, none⟩ = some (.slice x n cx) := HX1.out.cell 0
  have q1 : w1.cell? ⟨w.heap.size, 1, none⟩ = some (.int .i64 s) := HX1.out.cell 1
  cases v1 with
  | false =>
    have HV := Lib.hid (show vkey (l, s) = false by unfold vkey; rw [show validN (l, s).1 = false from HV1.out]; rfl)
    go_wp2_with fail
    go_ret
    exact ⟨ret_bool HV.out.symm, HB1.out⟩
  | true =>
    by_cases hn : 0 < n
    · have t2 : decide ((0 : Int) < (n : Int)) = true := by simp; omega
      have HP := Lib.hid (show decide (0 < (l, s).1.length) = true by have := HN.out; simp; omega)
      go_wp2_with fail
      refine (iSecV v3 HV3.out).mono ?_
      rintro e w2 ⟨rfl, hb⟩
      have HB2 := Lib.hid (HB1.out.trans (hb.mono HB1.out.size)); clear hb
      have HV := Lib.hid (show vkey (l, s) = v3 by unfold vkey; rw [show validN (l, s).1 = true from HV1.out, HP.out, show Num.inB (l, s).2 1 2147483646 = v3 from HV3.out]; simp)
      clear q0 q1
      cases v3 with
      | false => 
        go_wp2_with fail
        go_ret
        exact ⟨ret_bool HV.out.symm, HB2.out⟩
      | true => 
        go_wp2_with fail
        go_ret
        exact ⟨ret_bool HV.out.symm, HB2.out⟩
    · have t2 : decide ((0 : Int) < (n : Int)) = false := by simp; omega
      have HV := Lib.hid (show vkey (l, s) = false by unfold vkey; rw [show decide (0 < (l, s).1.length) = false from decide_eq_false (by have := HN.out; show ¬ 0 < l.length; omega)]; simp)
      go_wp2_with fail
      go_ret
      exact ⟨ret_bool HV.out.symm, HB1.out⟩

/-! ### ValidKeys -/
theorem intLaw : Maps.Keyed Try.prog 3 := Maps.int_keyed Try.underlying3
theorem zeroBool (w : World) : (zeroValue 4).run Try.prog w = .ok (.bool false) w := by kernel_rfl
/-- The first k keys are valid by themselves, and no number occurs twice. -/
def okS (T : List (List ByteArray × Int)) (k : Nat) : Prop := (∀ x ∈ T.take k, vkey x = true) ∧ ((T.take k).map (·.2)).Nodup
theorem okS_zero (T : List (List ByteArray × Int)) : okS T 0 := by simp [okS]
theorem okS_next {T : List (List ByteArray × Int)} {k : Nat} (h : okS T k) (hk : k < T.length) (hv : vkey (nth T k) = true) (hs : (nth T k).2 ∉ (T.take k).map (·.2)) : okS T (k + 1) := by
  unfold okS
  rw [List.take_succ_eq_append_getElem hk, ← nth_eq hk, List.map_append]
  refine ⟨fun x hx => ?_, ?_⟩
  · rcases List.mem_append.1 hx with hx | hx
    · exact h.1 x hx
    · rw [List.mem_singleton.1 hx]; exact hv
  · rw [List.nodup_append]
    exact ⟨h.2, by simp, fun a ha b hb e => hs (by simp at hb; rw [← hb, ← e]; exact ha)⟩
theorem validK_bad {T : List (List ByteArray × Int)} {k : Nat} (hk : k < T.length) (hv : vkey (nth T k) = false) : validK T = false :=
  validK_no fun h => by
    have := h.1 _ (nth_mem hk)
    rw [hv] at this
    cases this
theorem validK_twice {T : List (List ByteArray × Int)} {k : Nat} (hk : k < T.length) (hs : (nth T k).2 ∈ (T.take k).map (·.2)) : validK T = false :=
  validK_no fun h => by
    have h2 : ((T.take (k + 1)).map (·.2)).Nodup := by
      have e : T.map (·.2) = (T.take (k + 1)).map (·.2) ++ (T.drop (k + 1)).map (·.2) := by rw [← List.map_append, List.take_append_drop]
      have h3 := h.2.2.1
      rw [e, List.nodup_append] at h3
      exact h3.1
    rw [List.take_succ_eq_append_getElem hk, ← nth_eq hk, List.map_append, List.nodup_append] at h2
    exact h2.2.2 _ hs _ (by simp) rfl
theorem validK_of {T : List (List ByteArray × Int)} (h : okS T T.length) : validK T = (decide (T.length ≤ 8) && decide ((T.map (·.1)).Nodup)) := by
  unfold okS at h
  rw [List.take_length] at h
  unfold validK
  by_cases h1 : T.length ≤ 8 <;> by_cases h2 : (T.map (·.1)).Nodup <;> simp_all

set_option maxHeartbeats 8000000 in
theorem implValidKeys (v : Value) (T : List (List ByteArray × Int)) (w : World) (h : TabHolds w v T) (hl : T.length ≤ 4000000) (hT : smT T) (hW : ∀ t ∈ T, (Lit.int .i64 t.2).wf = true) :
    Calls Try.prog 45 #[v] w fun e w' => e = .returned (.bool (validK T)) ∧ Below w.heap.size w w' := by
  obtain ⟨L, rfl, h⟩ := h
  obtain ⟨x, n, cx, rfl, hn, hcx, hh⟩ := h.shapeN
  rw [strip_length, ← hn] at hl
  have HN := Lib.hid hn; have HH := Lib.hid hh; have HT := Lib.hid hT; have HW := Lib.hid hW
  have HM0 := Lib.hid (show (w.alloc (.map #[] 0)).ownsMap Try.prog 3 heldV w.heap.size 0 (secD (((strip L).take 0).map (·.2))) from World.ownsMap_made w _ _ _)
  have HB0 := Lib.hid ((Below.refl w.heap.size w).alloc (Nat.le_refl _) (.map #[] 0))
  have hmm := @run_makeMap Try.prog
  clear hn h hh hT hW
  go_enter Try.func45, Try.ntmps45
  go_wp2_with fail
  go_loopw [9] (fun i wr => ∃ k : Nat, k ≤ n ∧ i = .int .i64 k ∧ Hid (okS (strip L) k) ∧ Hid (wr.ownsMap Try.prog 3 heldV w.heap.size k (secD (((strip L).take k).map (·.2)))) ∧ Hid (Below w.heap.size w wr) ∧ Hid (w.heap.size + 1 ≤ wr.heap.size)) (fun i _ => n - (intOf i).toNat)
  case atStart => exact ⟨0, Nat.zero_le _, rfl, Lib.hid (okS_zero _), HM0, HB0, Lib.hid (by simp)⟩
  case round =>
    obtain ⟨k, hk, rfl, hO, hM, hB, hS⟩ := hrel
    by_cases hlt : k < n
    · have HKL := Lib.hid (show k < L.length by have := HN.out; omega)
      obtain ⟨b, off, rfl, hc, hd, hnm⟩ := (HH.out.on hB.out).at HKL.out
      have HPS := Lib.hid (smT_ps HT.out HKL.out)
      have hal := ((Below.refl wr.heap.size wr).alloc (Nat.le_refl _) (.cells #[.slice (nth L k).ad (nth L k).n (nth L k).cap, .int .i64 (nth L k).val] 89))
      have HNM := Lib.hid (hnm.on hal)
      have HB1 := Lib.hid (hB.out.trans (hal.mono hB.out.size))
      have HM1 := Lib.hid (hM.out.alloc (.cells #[.slice (nth L k).ad (nth L k).n (nth L k).cap, .int .i64 (nth L k).val] 89))
      have HX := Lib.hid (Ret.Blk.new wr #[.slice (nth L k).ad (nth L k).n (nth L k).cap, .int .i64 (nth L k).val] 89)
      have HS1 := Lib.hid (show (wr.alloc (.cells #[.slice (nth L k).ad (nth L k).n (nth L k).cap, .int .i64 (nth L k).val] 89)).heap.size = wr.heap.size + 1 from World.size_alloc _ _)
      have HE := Lib.hid (strip_nth HKL.out)
      have HKT := Lib.hid (show k < (strip L).length by rw [strip_length]; exact HKL.out)
      have HWK := Lib.hid (show (Lit.int .i64 (nth L k).val).wf = true from HW.out _ (strip_mem (nth_mem HKL.out)))
      have HNX := Lib.hid (show ((strip L).take (k + 1)).map (·.2) = ((strip L).take k).map (·.2) ++ [(nth L k).val] by
        rw [List.take_succ_eq_append_getElem HKT.out, ← nth_eq HKT.out, HE.out, List.map_append]; rfl)
      clear hnm hal hmm
      go_wp2_with fail
      obtain ⟨z, hz⟩ : ∃ z, vkey ((nth L k).ps, (nth L k).val) = z := ⟨_, rfl⟩
      have HZ := Lib.hid hz
      refine (validKey _ (nth L k).ps (nth L k).val _ HNM.out HPS.out).mono ?_
      rintro e w1 ⟨rfl, hb1⟩
      rw [hz]
      have HB2 := Lib.hid (HB1.out.trans (hb1.mono HB1.out.size))
      have HM2 := Lib.hid (map_on HM1.out hb1)
      have HX2 := Lib.hid (HX.out.on hb1)
      have hx0 : w1.cell? ⟨wr.heap.size, 0, none⟩ = some (.slice (nth L k).ad (nth L k).n (nth L k).cap) := HX2.out.cell 0
      have hx1 : w1.cell? ⟨wr.heap.size, 1, none⟩ = some (.int .i64 (nth L k).val) := HX2.out.cell 1
      have HS2 := Lib.hid (show w.heap.size + 1 < w1.heap.size by have := hb1.size; have := HS1.out; have := hS.out; omega)
      clear hb1 hz HM1 HX HB1 hc hd
      cases z with
      | false =>
        have HV := Lib.hid (validK_bad HKT.out (by rw [HE.out]; exact HZ.out))
        go_wp2_with fail
        go_ret
        exact ⟨ret_bool HV.out.symm, HB2.out⟩
      | true =>
        obtain ⟨y, hy⟩ : ∃ y, decide ((nth L k).val ∈ ((strip L).take k).map (·.2)) = y := ⟨_, rfl⟩
        have hlook : (Instr.lookup 115 (.map (some w.heap.size)) (.int .i64 (nth L k).val) false).run Try.prog w1 = .ok (.bool y) w1 := by
          obtain ⟨v9, ps9, hr, hv⟩ := HM2.out.lookup intLaw Try.underlying115 (zeroBool w1) (zd := .held (.bool false)) (zp := []) rfl (Maps.keyOf_int_mk Try.underlying3 HWK.out)
          rw [show Lit.int .i64 (nth L k).val = sk (nth L k).val from rfl, secD_at, hy] at hv
          rw [heldV_inj hv] at hr
          exact hr
        have HY := Lib.hid hy
        clear hy
        cases y with
        | true =>
          have HV := Lib.hid (validK_twice HKT.out (by rw [HE.out]; exact of_decide_eq_true HY.out))
          go_wp2_with fail
          go_ret
          exact ⟨ret_bool HV.out.symm, HB2.out⟩
        | false =>
          have HO2 := Lib.hid (okS_next hO.out HKT.out (by rw [HE.out]; exact HZ.out) (by rw [HE.out]; exact of_decide_eq_false HY.out))
          go_wp2_with (at_mapUpdate; refine wpList_mapUpdate_own _ rfl _ _ _ 115 rfl 3 4 intLaw Try.underlying115 heldV w.heap.size k _ rfl HM2.out (by unfold maxLen; omega) _ _ (sk (nth L k).val) rfl rfl (Maps.keyOf_int_mk Try.underlying3 HWK.out) (.held (.bool true)) [] rfl ?_)
          intro w3 hown3 hg3
          have HM4 := Lib.hid (show w3.ownsMap Try.prog 3 heldV w.heap.size (k + 1) (secD (((strip L).take (k + 1)).map (·.2))) by rw [HNX.out, secD_next, List.map_take]; exact hown3)
          have HB4 := Lib.hid (HB2.out.grown hg3 HB2.out.size (fun g hg => by cases hg; exact Nat.le_refl _))
          have HS4 := Lib.hid (show w.heap.size + 1 ≤ w3.heap.size by have := HS2.out; have := hg3.size; omega)
          clear hown3 hg3 hlook hx0 hx1
          go_wp2_with fail
          go_roundw
          case rel => exact ⟨k + 1, by omega, by go_num, HO2, HM4, HB4, HS4⟩
          case measure => simp [intOf]; omega
    · obtain rfl : k = n := by omega
      clear hlt
      have hV := validK_of (T := strip L) (by rw [strip_length, ← HN.out]; exact hO.out)
      rw [strip_length, ← HN.out] at hV
      have HV := Lib.hid hV
      clear hV
      by_cases h8 : k ≤ 8
      · have t1 : decide ((k : Int) ≤ 8) = true := by simp; omega
        have hnd : decide ((k : Int) = (k : Int)) = true := by simp
        go_wp2_with fail
        refine (keyringOf _ L _ (HH.out.on hB.out) (by have := HN.out; omega) HT.out).mono ?_
        rintro e w1 ⟨b1, rfl, hown, -, hb1⟩
        have hlen := hown.len Try.underlying118 3
        obtain ⟨sz, hsz⟩ : ∃ sz, Maps.size (ringD (pairs L)) = sz := ⟨_, rfl⟩
        have hle : sz ≤ k := by rw [← hsz]; have := hown.size_le; have := HN.out; omega
        have hnn := ringD_size (pairs_sm HT.out)
        rw [hsz, pairs_length, pairs_fst, strip_length, ← HN.out] at hnn
        rw [hsz] at hlen
        have HB2 := Lib.hid (hB.out.trans (hb1.mono hB.out.size))
        have HQ := Lib.hid (show validK (strip L) = ((sz : Int) == (k : Int)) by
          rw [HV.out]
          by_cases e : sz = k
          · rw [decide_eq_true (hnn.1 e)]; simp [e, h8]
          · rw [decide_eq_false (fun e2 => e (hnn.2 e2))]; simp; omega)
        clear hnn hsz hown hb1 HV
        obtain ⟨y, hy⟩ : ∃ y, ((sz : Int) == (k : Int)) = y := ⟨_, rfl⟩
        have HY := Lib.hid (HQ.out.trans hy)
        clear HQ
        go_wp2_with fail
        go_ret
        exact ⟨ret_bool HY.out.symm, HB2.out⟩
      · have t1 : decide ((k : Int) ≤ 8) = false := by simp; omega
        have HQ := Lib.hid (show validK (strip L) = false by rw [HV.out]; simp [h8])
        go_wp2_with fail
        go_ret
        exact ⟨ret_bool HQ.out.symm, hB.out⟩
end Go.Proofs.Ytcidfmmeonhkhaa.Row.Ring
