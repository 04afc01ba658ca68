/- Contracts and mathematics, joined: RingA, Thing, KThing. No conditions but those that each states. -/
import Derived.Test.YtcidfmmeonhkhaaGreatDoorB11
import Derived.Lib.AppendStr
import Derived.Test.YtcidfmmeonhkhaaGreatDoorB3
import Derived.SizedLaws
import Derived.ChangeSlices
import Derived.ChangeSame
import Derived.ChangeArms
import Derived.Deep.Strs
import Derived.Lib.SmallJoins
/- Contracts of the program's keyring: the text under which a name's key is kept, the map, the search in it; of the model's search. No conditions but that lengths fit. -/
namespace Go.Proofs.YtcidfmmeonhkhaaGreatDoor.Row.Ring
open Go.ChangeShapes Go.WideShapes Go.ChangeAt Go.RowKit Go.Instr
set_option linter.unusedVariables false
set_option maxRecDepth 100000

theorem own_str {B : Nat} {w : World} {v : Value} {l : List Int} {s : ByteArray} (h : w.ownsRow B 5 1 v (l.length + s.size) (l.map (Value.int .u8) ++ Lib.strCells s)) : Sl.Own 5 .u8 B w v (l ++ Sl.bytesOf s) := by
  unfold Sl.Own
  have e : (l ++ Sl.bytesOf s).map (Value.int .u8) = l.map (Value.int .u8) ++ Lib.strCells s := by
    rw [List.map_append]
    unfold Sl.bytesOf Lib.strCells
    rw [List.map_map]
    rfl
  rw [e, List.length_append, Sl.bytesOf_length]
  exact h

set_option maxHeartbeats 2000000 in
theorem nameText (v : Value) (l : List ByteArray) (w : World) (h : Holds Value.string w v l) (hl : bulk l ≤ 9000000) :
    Calls Tryz.prog 149 #[.agg #[v]] w fun e w' => e = .returned (.string (txt l)) ∧ Below w.heap.size w w' := by
  obtain ⟨x, n, cap, rfl, hn, hcap, hh⟩ := h.shapeN
  obtain ⟨i0, hi, hz0, hz1, hz2⟩ := info_parts (show (Tryz.prog.info? 5).map (fun i => (i.zero, i.size, i.bytes)) = some (some (.int .u8 0), 1, 1) by kernel_rfl)
  have hb0 := (Below.refl w.heap.size w).alloc (Nat.le_refl _) (.cells #[.slice x n cap] 32)
  have hb1 := hb0.alloc (by simp) (.cells #[] 5)
  have HB1 := Lib.hid hb1
  have HH := Lib.hid hh
  have hoe := Sl.own_empty .u8 5 (w.alloc (.cells #[.slice x n cap] 32))
  rw [World.size_alloc] at hoe
  have HO0 := Lib.hid (show Sl.Own 5 .u8 w.heap.size ((w.alloc (.cells #[.slice x n cap] 32)).alloc (.cells #[] 5)) (.slice (some ⟨w.heap.size + 1, 0, none⟩) 0 0) (encPs (l.take 0)) from hoe.mono (Nat.le_succ _))
  have HN := Lib.hid hn
  have HL := Lib.hid hl
  have hnl : n ≤ 9000000 := by rw [hn]; exact Nat.le_trans (bulk_len l) hl
  have HI := Lib.hid hi; have HZ0 := Lib.hid hz0; have HZ1 := Lib.hid hz1; have HZ2 := Lib.hid hz2
  clear hh h hn hl hb0 hb1 hoe hi hz0 hz1 hz2
  go_enter Tryz.func149, Tryz.ntmps149
  go_wp2_with fail
  go_loopw [3, 10] (fun bv iv wr => ∃ k : Nat, k ≤ n ∧ iv = .int .i64 k ∧ Hid (Sl.Own 5 .u8 w.heap.size wr bv (encPs (l.take k))) ∧ Hid (Below w.heap.size w wr)) (fun _ iv _ => n - (intOf iv).toNat)
  case atStart => exact ⟨0, Nat.zero_le _, rfl, HO0, HB1⟩
  case round =>
    obtain ⟨k, hk, rfl, hO, hB⟩ := hrel
    by_cases hlt : k < n
    · obtain ⟨b0, off0, hy, hc⟩ := (HH.out.on hB.out).at (j := k) (by rw [← HN.out]; exact hlt)
      subst hy
      have hsz : (nth l k).size ≤ 9000000 := by
        have h2 := size_bulk (l := l) (k := k) (by rw [← HN.out]; exact hlt)
        have h3 := HL.out
        omega
      have hle : (encPs (l.take k)).length ≤ 54000000 := by
        have h1 := encPs_len (l.take k)
        have h2 := bulk_take_le l k
        have h3 := HL.out
        omega
      have HLE := Lib.hid hle
      have HNX := Lib.hid (encPs_next (l := l) (k := k) (by rw [← HN.out]; exact hlt))
      clear hle
      go_wp2_with fail
      refine (Sl.addVarint w.heap.size _ (encPs (l.take k)) (nth l k).size wr (Or.inl hO.out) hB.out.size (by have := HLE.out; omega) (by omega) (by omega)).mono ?_
      rintro e w1 ⟨v1, rfl, ho1, hb1⟩
      have HO1 := Lib.hid ho1
      have HB2 := Lib.hid (hB.out.trans hb1)
      have hvl := Var.var_len (nth l k).size
      clear ho1 hb1 hc
      go_wp2_with (at_builtin; refine Lib.wpList_append_own_string _ rfl _ _ 22 9 rfl w.heap.size 5 i0 Tryz.underlying22 Tryz.underlying9 HI.out HZ0.out HZ1.out HZ2.out _ _ _ rfl HO1.out (nth l k) rfl ?_ ?_ HB2.out.size ?_)
      · unfold maxLen; have := HLE.out; rw [List.length_append]; omega
      · have := HLE.out; rw [List.length_append]; omega
      intro v2 w2 ho2 hg2 _
      have HO2 := Lib.hid (show Sl.Own 5 .u8 w.heap.size w2 v2 (encPs (l.take (k + 1))) by
        have h9 := own_str (l := encPs (l.take k) ++ Var.var (nth l k).size) (s := nth l k) (by rw [List.length_append, List.map_append, List.append_assoc]; exact ho2)
        rw [HNX.out, ← List.append_assoc]
        exact h9)
      have HB3 := Lib.hid (HB2.out.grown hg2 HB2.out.size (fun g hg => (HO1.out.lt g hg).1))
      clear ho2 hg2
      go_wp2_with fail
      go_roundw
      case rel => exact ⟨k + 1, by omega, by go_num, HO2, HB3⟩
      case measure => simp [intOf]; omega
    · obtain rfl : k = n := by omega
      clear hlt
      have ho := hO.out
      rw [HN.out, List.take_length] at ho
      obtain ⟨x1, c1, rfl, -, hh1⟩ := ho.holds.shape
      have hcv := Sl.conv_holds hh1
      clear ho hh1
      go_wp2_with fail
      go_ret
      exact ⟨rfl, hB.out⟩

theorem zeroKey (w : World) : (zeroValue 156).run Tryz.prog w = .ok zK w := by kernel_rfl
theorem strLaw : Maps.Keyed Tryz.prog 9 := Maps.string_keyed Tryz.underlying9
theorem keyTxt {l : List ByteArray} (h : bulk l ≤ 9000000) : keyOf Tryz.prog 9 (.string (txt l)) = some (kl l) := Go.WideMaps.keyOf_string_mk Tryz.underlying9 (by have := txt_size l; unfold maxLen; omega)
theorem pairs_key (m : List ByteArray) (hm : smN m) {L : List Ent} (hL : smT (strip L)) : ∃ ad n cap, (ringD (pairs L)).atKey (kl m) (.held zK) = .held (.agg #[.slice ad n cap, .int .i64 (lkN (strip L) m)]) := by
  rw [ringD_at (pairs_sm hL) hm]
  exact fst1_lk m L
/-- What the program's keyring is. -/
def GivesRing (w : World) (L : List Ent) (e : Ending) (w' : World) : Prop := ∃ b, e = .returned (.map (some b)) ∧ w'.ownsMap Tryz.prog 9 heldV b L.length (ringD (pairs L)) ∧ w.heap.size ≤ b ∧ Below w.heap.size w w'
theorem smT_take {T : List (List ByteArray × Int)} (h : smT T) (k : Nat) : smT (T.take k) := fun t ht => h t (List.mem_of_mem_take ht)

set_option maxHeartbeats 4000000 in
theorem keyringOf (v : Value) (L : List Ent) (w : World) (h : TabH w v L) (hl : L.length ≤ 4000000) (hT : smT (strip L)) :
    Calls Tryz.prog 141 #[v] w (GivesRing w L) := by
  obtain ⟨x, n, cx, rfl, hn, hcx, hh⟩ := h.shapeN
  rw [← hn] at hl
  have HN := Lib.hid hn
  have HH := Lib.hid hh
  have HT := Lib.hid hT
  have HM0 := Lib.hid (show (w.alloc (.map #[] 0)).ownsMap Tryz.prog 9 heldV w.heap.size 0 (ringD (pairs (L.take 0))) from World.ownsMap_made w _ _ _)
  have HB0 := Lib.hid ((Below.refl w.heap.size w).alloc (Nat.le_refl _) (.map #[] 0))
  have hmm := @run_makeMap Tryz.prog
  clear hn h hh hT
  go_enter Tryz.func141, Tryz.ntmps141
  go_wp2_with fail
  go_loopw [12] (fun i wr => ∃ k : Nat, k ≤ n ∧ i = .int .i64 k ∧ Hid (wr.ownsMap Tryz.prog 9 heldV w.heap.size k (ringD (pairs (L.take k)))) ∧ Hid (Below w.heap.size w wr) ∧ Hid (w.heap.size + 1 ≤ wr.heap.size)) (fun i _ => n - (intOf i).toNat)
  case atStart => exact ⟨0, Nat.zero_le _, rfl, HM0, HB0, Lib.hid (by simp)⟩
  case round =>
    obtain ⟨k, hk, rfl, hM, hB, hS⟩ := hrel
    by_cases hlt : k < n
    · have hlen := HN.out
      obtain ⟨b, off, rfl, hc, hd, hnm⟩ := (HH.out.on hB.out).at (k := k) (by omega)
      have HPS := Lib.hid (smT_ps HT.out (k := k) (by omega))
      have hal := ((Below.refl wr.heap.size wr).alloc (Nat.le_refl _) (.cells #[.slice (nth L k).ad (nth L k).n (nth L k).cap, .int .i64 (nth L k).val] 156))
      have HNM := Lib.hid (hnm.on hal)
      have HB1 := Lib.hid (hB.out.trans (hal.mono hB.out.size))
      have HM1 := Lib.hid (hM.out.alloc (.cells #[.slice (nth L k).ad (nth L k).n (nth L k).cap, .int .i64 (nth L k).val] 156))
      have HX := Lib.hid (Ret.Blk.new wr #[.slice (nth L k).ad (nth L k).n (nth L k).cap, .int .i64 (nth L k).val] 156)
      have HKL := Lib.hid (show k < L.length by omega)
      have HS1 := Lib.hid (show (wr.alloc (.cells #[.slice (nth L k).ad (nth L k).n (nth L k).cap, .int .i64 (nth L k).val] 156)).heap.size = wr.heap.size + 1 from World.size_alloc _ _)
      clear hlen hnm hal hmm
      go_wp2_with fail
      refine (nameText _ (nth L k).ps _ HNM.out HPS.out).mono ?_
      rintro e w1 ⟨rfl, hb1⟩
      have HB2 := Lib.hid (HB1.out.trans (hb1.mono HB1.out.size))
      have HM2 := Lib.hid (show w1.ownsMap Tryz.prog 9 heldV w.heap.size k (ringD (pairs (L.take k))) by
        obtain ⟨es, clock, hbk, r⟩ := HM1.out
        exact ⟨es, clock, (hb1.block _ (Array.getElem?_eq_some_iff.1 hbk).1).trans hbk, r⟩)
      have HX2 := Lib.hid (HX.out.on hb1)
      have hx0 : w1.cell? ⟨wr.heap.size, 0, none⟩ = some (.slice (nth L k).ad (nth L k).n (nth L k).cap) := HX2.out.cell 0
      have hx1 : w1.cell? ⟨wr.heap.size, 1, none⟩ = some (.int .i64 (nth L k).val) := HX2.out.cell 1
      have HS2 := Lib.hid (show w.heap.size + 1 < w1.heap.size by have := hb1.size; have := HS1.out; have := hS.out; omega)
      have HKY := Lib.hid (keyTxt HPS.out)
      obtain ⟨z, hz⟩ : ∃ z, Maps.has (ringD (pairs (L.take k))) (kl (nth L k).ps) = z := ⟨_, rfl⟩
      have hlook : ∃ ad nn cc, (Instr.lookup 164 (.map (some w.heap.size)) (.string (txt (nth L k).ps)) true).run Tryz.prog w1 = .ok (.tuple #[.agg #[.slice ad nn cc, .int .i64 (lkN (strip (L.take k)) (nth L k).ps)], .bool z]) w1 := by
        obtain ⟨v9, ps9, hr, hv⟩ := HM2.out.look_ok strLaw Tryz.underlying164 (zeroKey w1) (zd := .held zK) (zp := []) rfl HKY.out
        obtain ⟨ad, nn, cc, he⟩ := pairs_key (nth L k).ps (smN_bulk HPS.out) (L := L.take k) (by rw [strip_take]; exact smT_take HT.out k)
        rw [he] at hv
        rw [hz, heldV_inj hv] at hr
        exact ⟨ad, nn, cc, hr⟩
      obtain ⟨ad, nn, cc, hlook⟩ := hlook
      have HST := Lib.hid (show ringD (pairs (L.take (k + 1))) = if z then ringD (pairs (L.take k)) else (ringD (pairs (L.take k))).put (kl (nth L k).ps) (.held (nth L k).whole) by
        rw [pairs_take L HKL.out, ringD_next]; unfold step; rw [← hz])
      clear hz hb1 HNM HM1 HX HB1 hc hd
      generalize lkN (strip (L.take k)) (nth L k).ps = q at hlook
      cases z with
      | true =>
        have HM3 := Lib.hid (show w1.ownsMap Tryz.prog 9 heldV w.heap.size (k + 1) (ringD (pairs (L.take (k + 1)))) by rw [HST.out]; exact HM2.out.mono (Nat.le_succ _))
        go_wp2_with fail
        go_roundw
        case rel => exact ⟨k + 1, by omega, by go_num, Lib.hid (HM3.out.alloc _), Lib.hid (HB2.out.alloc HB2.out.size _), Lib.hid (by have := HS2.out; simp; omega)⟩
        case measure => simp [intOf]; omega
      | false =>
        have HM3 := Lib.hid (HM2.out.alloc (.cells #[.slice ad nn cc, .int .i64 q] 156))
        have HB3 := Lib.hid (HB2.out.alloc HB2.out.size (.cells #[.slice ad nn cc, .int .i64 q] 156))
        have hy0 : (w1.alloc (.cells #[.slice ad nn cc, .int .i64 q] 156)).cell? ⟨wr.heap.size, 0, none⟩ = some (.slice (nth L k).ad (nth L k).n (nth L k).cap) := (((Below.refl w1.heap.size w1).alloc (Nat.le_refl _) _).cell (cell_lt hx0)).trans hx0
        have hy1 : (w1.alloc (.cells #[.slice ad nn cc, .int .i64 q] 156)).cell? ⟨wr.heap.size, 1, none⟩ = some (.int .i64 (nth L k).val) := (((Below.refl w1.heap.size w1).alloc (Nat.le_refl _) _).cell (cell_lt hx1)).trans hx1
        go_wp2_with (at_mapUpdate; refine wpList_mapUpdate_own _ rfl _ _ _ 164 rfl 9 156 strLaw Tryz.underlying164 heldV w.heap.size k _ rfl HM3.out (by unfold maxLen; omega) _ _ _ rfl rfl HKY.out (.held (nth L k).whole) [] rfl ?_)
        intro w3 hown3 hg3
        have HM4 := Lib.hid (show w3.ownsMap Tryz.prog 9 heldV w.heap.size (k + 1) (ringD (pairs (L.take (k + 1)))) by rw [HST.out]; exact hown3)
        have HB4 := Lib.hid (HB3.out.grown hg3 HB3.out.size (fun g hg => by cases hg; exact Nat.le_refl _))
        have HS4 := Lib.hid (show w.heap.size + 1 ≤ w3.heap.size by have := HS2.out; have := hg3.size; simp at this; omega)
        clear hown3 hg3 hlook hx0 hx1 hy0 hy1
        go_wp2_with fail
        go_roundw
        case rel => exact ⟨k + 1, by omega, by go_num, HM4, HB4, HS4⟩
        case measure => simp [intOf]; omega
    · obtain rfl : k = n := by omega
      clear hlt
      have hM9 := hM.out
      rw [List.take_of_length_le (by rw [← HN.out]; exact Nat.le_refl _)] at hM9
      have HM9 := Lib.hid hM9
      clear hM9
      go_wp2_with fail
      go_ret
      exact ⟨_, rfl, by rw [← HN.out]; exact HM9.out, Nat.le_refl _, hB.out⟩
end Go.Proofs.YtcidfmmeonhkhaaGreatDoor.Row.Ring
/- Contracts of the helpers by which the laws measure, copy, compare, mark and look at data packets (a name, bytes, a name, two numbers). No conditions but that lengths fit. -/
namespace Go.Proofs.YtcidfmmeonhkhaaGreatDoor.Row
open Go.ChangeShapes Go.WideShapes Go.ChangeAt Go.RowKit Go.Instr
set_option linter.unusedVariables false
set_option maxRecDepth 100000

abbrev Dt := List ByteArray × List Int × List ByteArray × Int × Int
/-- A packet's cells. -/
abbrev dc (a b c : Value) (f s : Int) : Array Value := #[a, b, c, .int .i64 f, .int .i64 s]
abbrev nil : Value := .slice none 0 0
theorem aggD : Ret.AggOf Tryz.prog 34 5 := ⟨by kernel_rfl, by kernel_rfl⟩
/-- What the call's own slices of a packet are: in blocks from B on, no two the same. -/
def DOwn (B : Nat) (w : World) (a b c : Value) (x : Dt) : Prop := Own 9 Value.string B w a x.1 ∧ Sl.Own 5 .u8 B w b x.2.1 ∧ Own 9 Value.string B w c x.2.2.1 ∧ Apart a b ∧ Apart a c ∧ Apart b c
def DHold (w : World) (a b c : Value) (x : Dt) : Prop := Holds Value.string w a x.1 ∧ Sl.Holds .u8 w b x.2.1 ∧ Holds Value.string w c x.2.2.1
theorem DHold.on {w w' : World} {a b c : Value} {x : Dt} (h : DHold w a b c x) (hb : Below w.heap.size w w') : DHold w' a b c x := ⟨h.1.on hb, h.2.1.on hb, h.2.2.on hb⟩
theorem DOwn.hold {B : Nat} {w : World} {a b c : Value} {x : Dt} (h : DOwn B w a b c x) : DHold w a b c x := by
  exact ⟨h.1.holds, h.2.1.holds, h.2.2.1.holds⟩
theorem DHold.shape {w : World} {a b c : Value} {x : Dt} (h : DHold w a b c x) : ∃ xa na ca xb nb cb xc nc cc, a = .slice xa na ca ∧ b = .slice xb nb cb ∧ c = .slice xc nc cc := by
  obtain ⟨xa, na, ca, rfl, -⟩ := h.1.shapeN
  obtain ⟨xb, cb, rfl, -⟩ := h.2.1.shape
  obtain ⟨xc, nc, cc, rfl, -⟩ := h.2.2.shapeN
  exact ⟨_, _, _, _, _, _, _, _, _, rfl, rfl, rfl⟩
theorem sl_own_set {k : IntKind} {e : TypeId} {B g i : Nat} {w : World} {v u : Value} {l : List Int} (h : Sl.Own e k B w v l) (hg : g < B) : Sl.Own e k B (w.setCell ⟨g, i, none⟩ u) v l := own_set (enc := Value.int k) h hg

set_option maxHeartbeats 4000000 in
theorem toData (a b c : Value) (x : Dt) (w : World) (h : DHold w a b c x) (h1 : x.1.length ≤ 100000000) (h2 : x.2.1.length ≤ 100000000) (h3 : x.2.2.1.length ≤ 100000000) :
    Calls Tryz.prog 40 #[.agg (dc a b c x.2.2.2.1 x.2.2.2.2)] w fun e w' => ∃ a' b' c', e = .returned (.agg (dc a' b' c' x.2.2.2.1 x.2.2.2.2)) ∧ DOwn w.heap.size w' a' b' c' x ∧ Below w.heap.size w w' := by
  obtain ⟨l, m, k, f, s⟩ := x
  simp only at h1 h2 h3 ⊢
  obtain ⟨xa, na, ca, xb, nb, cb, xc, nc, cc, rfl, rfl, rfl⟩ := h.shape
  have hb0 := (Below.refl w.heap.size w).alloc (Nat.le_refl _) (.cells (dc (.slice xa na ca) (.slice xb nb cb) (.slice xc nc cc) f s) 71)
  have hb1 := hb0.alloc (by simp) (.cells (dc nil nil nil 0 0) 34)
  have hb2 := hb1.alloc (by simp; omega) (.cells (dc nil nil nil 0 0) 34)
  have HB := Lib.hid hb2
  have H0 := Lib.hid h
  have HX := Lib.hid (((Ret.Blk.new w (dc (.slice xa na ca) (.slice xb nb cb) (.slice xc nc cc) f s) 71).on ((Below.refl _ _).alloc (Nat.le_refl _) (.cells (dc nil nil nil 0 0) 34))).on ((Below.refl _ _).alloc (Nat.le_refl _) (.cells (dc nil nil nil 0 0) 34)))
  have HR := Lib.hid ((Ret.Blk.new' (w := (w.alloc (.cells (dc (.slice xa na ca) (.slice xb nb cb) (.slice xc nc cc) f s) 71))) (n := w.heap.size + 1) (dc nil nil nil 0 0) 34 (by simp)).on ((Below.refl _ _).alloc (Nat.le_refl _) (.cells (dc nil nil nil 0 0) 34)))
  have HL := Lib.hid (Ret.Blk.new' (w := (w.alloc (.cells (dc (.slice xa na ca) (.slice xb nb cb) (.slice xc nc cc) f s) 71)).alloc (.cells (dc nil nil nil 0 0) 34)) (n := w.heap.size + 1 + 1) (dc nil nil nil 0 0) 34 (by simp))
  have hz0 : (((w.alloc (.cells (dc (.slice xa na ca) (.slice xb nb cb) (.slice xc nc cc) f s) 71)).alloc (.cells (dc nil nil nil 0 0) 34)).alloc (.cells (dc nil nil nil 0 0) 34)).heap.size = w.heap.size + 3 := by simp
  clear h hb0 hb1 hb2
  go_enter Tryz.func40, Tryz.ntmps40
  go_wp2_with fail
  refine (toName _ l _ (H0.out.on HB.out).1 h1).mono ?_
  rintro e w1 ⟨a1, rfl, ho1, hb1⟩
  obtain ⟨ya, ma, da, rfl, -, -, ho1⟩ := ho1.shapeN
  have hs1 := hb1.size
  rw [hz0] at ho1 hs1
  replace HX := Lib.hid (HX.out.on hb1); replace HR := Lib.hid (HR.out.on hb1); replace HL := Lib.hid (HL.out.on hb1)
  replace HB := Lib.hid (HB.out.trans (hb1.mono HB.out.size))
  have HO1 := Lib.hid ho1
  have HLA := Lib.hid (fun g hg => (ho1.lt g hg).2)
  clear ho1 hb1 hz0
  have q0 : w1.cell? ⟨w.heap.size, 0, none⟩ = some (.slice xa na ca) := HX.out.cell 0
  have q1 : w1.cell? ⟨w.heap.size, 1, none⟩ = some (.slice xb nb cb) := HX.out.cell 1
  have q2 : w1.cell? ⟨w.heap.size, 2, none⟩ = some (.slice xc nc cc) := HX.out.cell 2
  have q3 : w1.cell? ⟨w.heap.size, 3, none⟩ = some (.int .i64 f) := HX.out.cell 3
  have q4 : w1.cell? ⟨w.heap.size, 4, none⟩ = some (.int .i64 s) := HX.out.cell 4
  have p0 : w1.cell? ⟨w.heap.size + 1 + 1, 0, none⟩ = some (.slice none 0 0) := HL.out.cell 0
  have p1 : w1.cell? ⟨w.heap.size + 1 + 1, 1, none⟩ = some (.slice none 0 0) := HL.out.cell 1
  have p2 : w1.cell? ⟨w.heap.size + 1 + 1, 2, none⟩ = some (.slice none 0 0) := HL.out.cell 2
  have p3 : w1.cell? ⟨w.heap.size + 1 + 1, 3, none⟩ = some (.int .i64 0) := HL.out.cell 3
  have p4 : w1.cell? ⟨w.heap.size + 1 + 1, 4, none⟩ = some (.int .i64 0) := HL.out.cell 4
  have t0 := HL.out.frozen 0; have t1 := HL.out.frozen 1; have t2 := HL.out.frozen 2; have t3 := HL.out.frozen 3; have t4 := HL.out.frozen 4
  go_wp2_with fail
  clear q0 q1 q2 q3 q4 p0 p1 p2 p3 p4 t0 t1 t2 t3 t4
  replace HX := Lib.hid (HX.out.other (a := ⟨w.heap.size + 1 + 1, 0, none⟩) (by show w.heap.size + 1 + 1 ≠ w.heap.size; omega) (.slice ya ma da))
  replace HR := Lib.hid (HR.out.other (a := ⟨w.heap.size + 1 + 1, 0, none⟩) (by show w.heap.size + 1 + 1 ≠ w.heap.size + 1; omega) (.slice ya ma da))
  replace HL := Lib.hid (HL.out.set 0 (.slice ya ma da))
  replace HB := Lib.hid (HB.out.setCell (p := ⟨w.heap.size + 1 + 1, 0, none⟩) (by show w.heap.size ≤ w.heap.size + 1 + 1; omega) (.slice ya ma da))
  replace HO1 := Lib.hid (own_set (g := w.heap.size + 1 + 1) (i := 0) (u := .slice ya ma da) HO1.out (by omega))
  refine (Sl.toByteS _ m _ (H0.out.on HB.out).2.1 h2).mono ?_
  rintro e w2 ⟨b1, rfl, ho2, hb2⟩
  obtain ⟨yb, mb, db, rfl, -, -, ho2⟩ := Own.shapeN (enc := Value.int .u8) ho2
  replace ho2 : Sl.Own 5 .u8 _ w2 (.slice yb mb db) m := ho2
  have hs2 := hb2.size
  simp only [World.size_setCell] at hs2 ho2
  replace HX := Lib.hid (HX.out.on hb2); replace HR := Lib.hid (HR.out.on hb2); replace HL := Lib.hid (HL.out.on hb2)
  replace HO1 := Lib.hid (HO1.out.on hb2)
  replace HB := Lib.hid (HB.out.trans (hb2.mono HB.out.size))
  have HO2 := Lib.hid ho2
  have HLB := Lib.hid (fun g hg => (ho2.lt g hg).2)
  clear ho2 hb2
  have q0 : w2.cell? ⟨w.heap.size, 0, none⟩ = some (.slice xa na ca) := HX.out.cell 0
  have q1 : w2.cell? ⟨w.heap.size, 1, none⟩ = some (.slice xb nb cb) := HX.out.cell 1
  have q2 : w2.cell? ⟨w.heap.size, 2, none⟩ = some (.slice xc nc cc) := HX.out.cell 2
  have q3 : w2.cell? ⟨w.heap.size, 3, none⟩ = some (.int .i64 f) := HX.out.cell 3
  have q4 : w2.cell? ⟨w.heap.size, 4, none⟩ = some (.int .i64 s) := HX.out.cell 4
  have p0 : w2.cell? ⟨w.heap.size + 1 + 1, 0, none⟩ = some (.slice ya ma da) := HL.out.cell 0
  have p1 : w2.cell? ⟨w.heap.size + 1 + 1, 1, none⟩ = some (.slice none 0 0) := HL.out.cell 1
  have p2 : w2.cell? ⟨w.heap.size + 1 + 1, 2, none⟩ = some (.slice none 0 0) := HL.out.cell 2
  have p3 : w2.cell? ⟨w.heap.size + 1 + 1, 3, none⟩ = some (.int .i64 0) := HL.out.cell 3
  have p4 : w2.cell? ⟨w.heap.size + 1 + 1, 4, none⟩ = some (.int .i64 0) := HL.out.cell 4
  have t0 := HL.out.frozen 0; have t1 := HL.out.frozen 1; have t2 := HL.out.frozen 2; have t3 := HL.out.frozen 3; have t4 := HL.out.frozen 4
  go_wp2_with fail
  clear q0 q1 q2 q3 q4 p0 p1 p2 p3 p4 t0 t1 t2 t3 t4
  replace HX := Lib.hid (HX.out.other (a := ⟨w.heap.size + 1 + 1, 1, none⟩) (by show w.heap.size + 1 + 1 ≠ w.heap.size; omega) (.slice yb mb db))
  replace HR := Lib.hid (HR.out.other (a := ⟨w.heap.size + 1 + 1, 1, none⟩) (by show w.heap.size + 1 + 1 ≠ w.heap.size + 1; omega) (.slice yb mb db))
  replace HL := Lib.hid (HL.out.set 1 (.slice yb mb db))
  replace HB := Lib.hid (HB.out.setCell (p := ⟨w.heap.size + 1 + 1, 1, none⟩) (by show w.heap.size ≤ w.heap.size + 1 + 1; omega) (.slice yb mb db))
  replace HO1 := Lib.hid (own_set (g := w.heap.size + 1 + 1) (i := 1) (u := .slice yb mb db) HO1.out (by omega))
  replace HO2 := Lib.hid (sl_own_set (g := w.heap.size + 1 + 1) (i := 1) (u := .slice yb mb db) HO2.out (by omega))
  refine (toName _ k _ (H0.out.on HB.out).2.2 h3).mono ?_
  rintro e w3 ⟨c1, rfl, ho3, hb3⟩
  obtain ⟨yc, mc, dc_, rfl, -, -, ho3⟩ := ho3.shapeN
  have hs3 := hb3.size
  simp only [World.size_setCell] at hs3 ho3
  replace HX := Lib.hid (HX.out.on hb3); replace HR := Lib.hid (HR.out.on hb3); replace HL := Lib.hid (HL.out.on hb3)
  replace HO1 := Lib.hid (HO1.out.on hb3); replace HO2 := Lib.hid (HO2.out.on hb3)
  replace HB := Lib.hid (HB.out.trans (hb3.mono HB.out.size))
  have HO3 := Lib.hid ho3
  clear ho3 hb3
  have q0 : w3.cell? ⟨w.heap.size, 0, none⟩ = some (.slice xa na ca) := HX.out.cell 0
  have q1 : w3.cell? ⟨w.heap.size, 1, none⟩ = some (.slice xb nb cb) := HX.out.cell 1
  have q2 : w3.cell? ⟨w.heap.size, 2, none⟩ = some (.slice xc nc cc) := HX.out.cell 2
  have q3 : w3.cell? ⟨w.heap.size, 3, none⟩ = some (.int .i64 f) := HX.out.cell 3
  have q4 : w3.cell? ⟨w.heap.size, 4, none⟩ = some (.int .i64 s) := HX.out.cell 4
  have p0 : w3.cell? ⟨w.heap.size + 1 + 1, 0, none⟩ = some (.slice ya ma da) := HL.out.cell 0
  have p1 : w3.cell? ⟨w.heap.size + 1 + 1, 1, none⟩ = some (.slice yb mb db) := HL.out.cell 1
  have p2 : w3.cell? ⟨w.heap.size + 1 + 1, 2, none⟩ = some (.slice none 0 0) := HL.out.cell 2
  have p3 : w3.cell? ⟨w.heap.size + 1 + 1, 3, none⟩ = some (.int .i64 0) := HL.out.cell 3
  have p4 : w3.cell? ⟨w.heap.size + 1 + 1, 4, none⟩ = some (.int .i64 0) := HL.out.cell 4
  have t0 := HL.out.frozen 0; have t1 := HL.out.frozen 1; have t2 := HL.out.frozen 2; have t3 := HL.out.frozen 3; have t4 := HL.out.frozen 4
  have r0 : w3.cell? ⟨w.heap.size + 1, 0, none⟩ = some (.slice none 0 0) := HR.out.cell 0
  have r1 : w3.cell? ⟨w.heap.size + 1, 1, none⟩ = some (.slice none 0 0) := HR.out.cell 1
  have r2 : w3.cell? ⟨w.heap.size + 1, 2, none⟩ = some (.slice none 0 0) := HR.out.cell 2
  have r3 : w3.cell? ⟨w.heap.size + 1, 3, none⟩ = some (.int .i64 0) := HR.out.cell 3
  have r4 : w3.cell? ⟨w.heap.size + 1, 4, none⟩ = some (.int .i64 0) := HR.out.cell 4
  have u0 := HR.out.frozen 0; have u1 := HR.out.frozen 1; have u2 := HR.out.frozen 2; have u3 := HR.out.frozen 3; have u4 := HR.out.frozen 4
  have Z1 := Lib.hid ((((((((HR.out.other (a := ⟨w.heap.size + 1 + 1, 2, none⟩) (by show w.heap.size + 1 + 1 ≠ w.heap.size + 1; omega) (.slice yc mc dc_)).other (a := ⟨w.heap.size + 1 + 1, 3, none⟩) (by show w.heap.size + 1 + 1 ≠ w.heap.size + 1; omega) (.int .i64 f)).other (a := ⟨w.heap.size + 1 + 1, 4, none⟩) (by show w.heap.size + 1 + 1 ≠ w.heap.size + 1; omega) (.int .i64 s)).set 0 (.slice ya ma da)).set 1 (.slice yb mb db)).set 2 (.slice yc mc dc_)).set 3 (.int .i64 f)).set 4 (.int .i64 s))
  have Z2 := Lib.hid (own_set (g := w.heap.size + 1) (i := 4) (u := .int .i64 s) (own_set (g := w.heap.size + 1) (i := 3) (u := .int .i64 f) (own_set (g := w.heap.size + 1) (i := 2) (u := .slice yc mc dc_) (own_set (g := w.heap.size + 1) (i := 1) (u := .slice yb mb db) (own_set (g := w.heap.size + 1) (i := 0) (u := .slice ya ma da) (own_set (g := w.heap.size + 1 + 1) (i := 4) (u := .int .i64 s) (own_set (g := w.heap.size + 1 + 1) (i := 3) (u := .int .i64 f) (own_set (g := w.heap.size + 1 + 1) (i := 2) (u := .slice yc mc dc_) HO1.out (by omega)) (by omega)) (by omega)) (by omega)) (by omega)) (by omega)) (by omega)) (by omega))
  have Z3 := Lib.hid (sl_own_set (g := w.heap.size + 1) (i := 4) (u := .int .i64 s) (sl_own_set (g := w.heap.size + 1) (i := 3) (u := .int .i64 f) (sl_own_set (g := w.heap.size + 1) (i := 2) (u := .slice yc mc dc_) (sl_own_set (g := w.heap.size + 1) (i := 1) (u := .slice yb mb db) (sl_own_set (g := w.heap.size + 1) (i := 0) (u := .slice ya ma da) (sl_own_set (g := w.heap.size + 1 + 1) (i := 4) (u := .int .i64 s) (sl_own_set (g := w.heap.size + 1 + 1) (i := 3) (u := .int .i64 f) (sl_own_set (g := w.heap.size + 1 + 1) (i := 2) (u := .slice yc mc dc_) HO2.out (by omega)) (by omega)) (by omega)) (by omega)) (by omega)) (by omega)) (by omega)) (by omega))
  have Z4 := Lib.hid (own_set (g := w.heap.size + 1) (i := 4) (u := .int .i64 s) (own_set (g := w.heap.size + 1) (i := 3) (u := .int .i64 f) (own_set (g := w.heap.size + 1) (i := 2) (u := .slice yc mc dc_) (own_set (g := w.heap.size + 1) (i := 1) (u := .slice yb mb db) (own_set (g := w.heap.size + 1) (i := 0) (u := .slice ya ma da) (own_set (g := w.heap.size + 1 + 1) (i := 4) (u := .int .i64 s) (own_set (g := w.heap.size + 1 + 1) (i := 3) (u := .int .i64 f) (own_set (g := w.heap.size + 1 + 1) (i := 2) (u := .slice yc mc dc_) HO3.out (by omega)) (by omega)) (by omega)) (by omega)) (by omega)) (by omega)) (by omega)) (by omega))
  have Z5 := Lib.hid ((((((((HB.out.setCell (p := ⟨w.heap.size + 1 + 1, 2, none⟩) (by show w.heap.size ≤ w.heap.size + 1 + 1; omega) (.slice yc mc dc_)).setCell (p := ⟨w.heap.size + 1 + 1, 3, none⟩) (by show w.heap.size ≤ w.heap.size + 1 + 1; omega) (.int .i64 f)).setCell (p := ⟨w.heap.size + 1 + 1, 4, none⟩) (by show w.heap.size ≤ w.heap.size + 1 + 1; omega) (.int .i64 s)).setCell (p := ⟨w.heap.size + 1, 0, none⟩) (by show w.heap.size ≤ w.heap.size + 1; omega) (.slice ya ma da)).setCell (p := ⟨w.heap.size + 1, 1, none⟩) (by show w.heap.size ≤ w.heap.size + 1; omega) (.slice yb mb db)).setCell (p := ⟨w.heap.size + 1, 2, none⟩) (by show w.heap.size ≤ w.heap.size + 1; omega) (.slice yc mc dc_)).setCell (p := ⟨w.heap.size + 1, 3, none⟩) (by show w.heap.size ≤ w.heap.size + 1; omega) (.int .i64 f)).setCell (p := ⟨w.heap.size + 1, 4, none⟩) (by show w.heap.size ≤ w.heap.size + 1; omega) (.int .i64 s))
  go_wp2_with fail
  refine bodyPost_ret (Ret.results_c rfl _ _ (w.heap.size + 1) (dc (.slice ya ma da) (.slice yb mb db) (.slice yc mc dc_) f s).toList rfl aggD Z1.out.cells) rfl ?_
  have hlb := fun g hg => (Sl.Own.lt Z3.out g hg).1
  have hlc := fun g hg => (Own.lt Z4.out g hg).1
  exact ⟨_, _, _, rfl, ⟨Z2.out.mono (by omega), Sl.Own.mono Z3.out (by omega), Z4.out.mono (by omega), fun g e1 e2 => by have h5 := HLA.out g e1; have h6 := hlb g e2; omega, fun g e1 e2 => by have h5 := HLA.out g e1; have h6 := hlc g e2; omega, fun g e1 e2 => by have h5 := HLB.out g e1; have h6 := hlc g e2; omega⟩, Z5.out⟩

set_option maxHeartbeats 4000000 in
theorem eqData (a b c a2 b2 c2 : Value) (x y : Dt) (w : World) (q : Bool) (hq : decide (x = y) = q) (h : DHold w a b c x) (g : DHold w a2 b2 c2 y) (h1 : x.1.length ≤ 100000000) (h2 : x.2.1.length ≤ 100000000) (h3 : x.2.2.1.length ≤ 100000000) (g1 : y.1.length ≤ 100000000) (g2 : y.2.1.length ≤ 100000000) (g3 : y.2.2.1.length ≤ 100000000) :
    Calls Tryz.prog 43 #[.agg (dc a b c x.2.2.2.1 x.2.2.2.2), .agg (dc a2 b2 c2 y.2.2.2.1 y.2.2.2.2)] w fun e w' => e = .returned (.bool q) ∧ Below w.heap.size w w' := by
  obtain ⟨l, m, k, f, s⟩ := x
  obtain ⟨l2, m2, k2, f2, s2⟩ := y
  simp only at h1 h2 h3 g1 g2 g3 ⊢
  obtain ⟨xa, na, ca, xb, nb, cb, xc, nc, cc, rfl, rfl, rfl⟩ := h.shape
  obtain ⟨ua, va, oa, ub, vb, ob, uc, vc, oc, rfl, rfl, rfl⟩ := g.shape
  have hb0 := (Below.refl w.heap.size w).alloc (Nat.le_refl _) (.cells (dc (.slice xa na ca) (.slice xb nb cb) (.slice xc nc cc) f s) 34)
  have HB := Lib.hid (hb0.alloc (by simp) (.cells (dc (.slice ua va oa) (.slice ub vb ob) (.slice uc vc oc) f2 s2) 34))
  have H0 := Lib.hid h; have G0 := Lib.hid g
  have HX := Lib.hid ((Ret.Blk.new w (dc (.slice xa na ca) (.slice xb nb cb) (.slice xc nc cc) f s) 34).on ((Below.refl _ _).alloc (Nat.le_refl _) (.cells (dc (.slice ua va oa) (.slice ub vb ob) (.slice uc vc oc) f2 s2) 34)))
  have HY := Lib.hid (Ret.Blk.new' (w := w.alloc (.cells (dc (.slice xa na ca) (.slice xb nb cb) (.slice xc nc cc) f s) 34)) (n := w.heap.size + 1) (dc (.slice ua va oa) (.slice ub vb ob) (.slice uc vc oc) f2 s2) 34 (by simp))
  have HQ := Lib.hid hq
  clear h g hq hb0
  go_enter Tryz.func43, Tryz.ntmps43
  go_wp2_with fail
  refine (eqName _ _ l l2 _ (H0.out.on HB.out).1 (G0.out.on HB.out).1 (by omega) (by omega)).mono ?_
  rintro e w1 ⟨rfl, hb⟩
  replace HX := Lib.hid (HX.out.on hb); replace HY := Lib.hid (HY.out.on hb)
  replace HB := Lib.hid (HB.out.trans (hb.mono HB.out.size)); clear hb
  have q0 : w1.cell? ⟨w.heap.size, 0, none⟩ = some (.slice xa na ca) := HX.out.cell 0
  have q1 : w1.cell? ⟨w.heap.size, 1, none⟩ = some (.slice xb nb cb) := HX.out.cell 1
  have q2 : w1.cell? ⟨w.heap.size, 2, none⟩ = some (.slice xc nc cc) := HX.out.cell 2
  have q3 : w1.cell? ⟨w.heap.size, 3, none⟩ = some (.int .i64 f) := HX.out.cell 3
  have q4 : w1.cell? ⟨w.heap.size, 4, none⟩ = some (.int .i64 s) := HX.out.cell 4
  have p0 : w1.cell? ⟨w.heap.size + 1, 0, none⟩ = some (.slice ua va oa) := HY.out.cell 0
  have p1 : w1.cell? ⟨w.heap.size + 1, 1, none⟩ = some (.slice ub vb ob) := HY.out.cell 1
  have p2 : w1.cell? ⟨w.heap.size + 1, 2, none⟩ = some (.slice uc vc oc) := HY.out.cell 2
  have p3 : w1.cell? ⟨w.heap.size + 1, 3, none⟩ = some (.int .i64 f2) := HY.out.cell 3
  have p4 : w1.cell? ⟨w.heap.size + 1, 4, none⟩ = some (.int .i64 s2) := HY.out.cell 4
  by_cases e1 : l = l2
  · rw [eqB_true e1]
    go_wp2_with fail
    clear q0 q1 q2 q3 q4 p0 p1 p2 p3 p4
    refine (Sl.eqByteS _ _ m m2 _ (H0.out.on HB.out).2.1 (G0.out.on HB.out).2.1 h2 g2).mono ?_
    rintro e w2 ⟨rfl, hb⟩
    replace HX := Lib.hid (HX.out.on hb); replace HY := Lib.hid (HY.out.on hb)
    replace HB := Lib.hid (HB.out.trans (hb.mono HB.out.size)); clear hb
    have q0 : w2.cell? ⟨w.heap.size, 0, none⟩ = some (.slice xa na ca) := HX.out.cell 0
    have q1 : w2.cell? ⟨w.heap.size, 1, none⟩ = some (.slice xb nb cb) := HX.out.cell 1
    have q2 : w2.cell? ⟨w.heap.size, 2, none⟩ = some (.slice xc nc cc) := HX.out.cell 2
    have q3 : w2.cell? ⟨w.heap.size, 3, none⟩ = some (.int .i64 f) := HX.out.cell 3
    have q4 : w2.cell? ⟨w.heap.size, 4, none⟩ = some (.int .i64 s) := HX.out.cell 4
    have p0 : w2.cell? ⟨w.heap.size + 1, 0, none⟩ = some (.slice ua va oa) := HY.out.cell 0
    have p1 : w2.cell? ⟨w.heap.size + 1, 1, none⟩ = some (.slice ub vb ob) := HY.out.cell 1
    have p2 : w2.cell? ⟨w.heap.size + 1, 2, none⟩ = some (.slice uc vc oc) := HY.out.cell 2
    have p3 : w2.cell? ⟨w.heap.size + 1, 3, none⟩ = some (.int .i64 f2) := HY.out.cell 3
    have p4 : w2.cell? ⟨w.heap.size + 1, 4, none⟩ = some (.int .i64 s2) := HY.out.cell 4
    by_cases e2 : m = m2
    · rw [Sl.eqB_true e2]
      go_wp2_with fail
      clear q0 q1 q2 q3 q4 p0 p1 p2 p3 p4
      refine (eqName _ _ k k2 _ (H0.out.on HB.out).2.2 (G0.out.on HB.out).2.2 (by omega) (by omega)).mono ?_
      rintro e w3 ⟨rfl, hb⟩
      replace HX := Lib.hid (HX.out.on hb); replace HY := Lib.hid (HY.out.on hb)
      replace HB := Lib.hid (HB.out.trans (hb.mono HB.out.size)); clear hb
      have q0 : w3.cell? ⟨w.heap.size, 0, none⟩ = some (.slice xa na ca) := HX.out.cell 0
      have q1 : w3.cell? ⟨w.heap.size, 1, none⟩ = some (.slice xb nb cb) := HX.out.cell 1
      have q2 : w3.cell? ⟨w.heap.size, 2, none⟩ = some (.slice xc nc cc) := HX.out.cell 2
      have q3 : w3.cell? ⟨w.heap.size, 3, none⟩ = some (.int .i64 f) := HX.out.cell 3
      have q4 : w3.cell? ⟨w.heap.size, 4, none⟩ = some (.int .i64 s) := HX.out.cell 4
      have p0 : w3.cell? ⟨w.heap.size + 1, 0, none⟩ = some (.slice ua va oa) := HY.out.cell 0
      have p1 : w3.cell? ⟨w.heap.size + 1, 1, none⟩ = some (.slice ub vb ob) := HY.out.cell 1
      have p2 : w3.cell? ⟨w.heap.size + 1, 2, none⟩ = some (.slice uc vc oc) := HY.out.cell 2
      have p3 : w3.cell? ⟨w.heap.size + 1, 3, none⟩ = some (.int .i64 f2) := HY.out.cell 3
      have p4 : w3.cell? ⟨w.heap.size + 1, 4, none⟩ = some (.int .i64 s2) := HY.out.cell 4
      by_cases e3 : k = k2
      · rw [eqB_true e3]
        by_cases e4 : f = f2
        · have t1 : (f != f2) = false := by simp [e4]
          by_cases e5 : s = s2
          · have t2 : (s != s2) = false := by simp [e5]
            have HE : Hid (q = true) := Lib.hid (by rw [← HQ.out]; simp [e1, e2, e3, e4, e5])
            clear e1 e2 e3 e4 e5
            go_wp2
            go_ret
            exact ⟨ret_bool HE.out.symm, HB.out⟩
          · have t2 : (s != s2) = true := by simpa using e5
            have HE : Hid (q = false) := Lib.hid (by rw [← HQ.out]; simp [e5])
            clear e1 e2 e3 e4 e5
            go_wp2
            go_ret
            exact ⟨ret_bool HE.out.symm, HB.out⟩
        · have t1 : (f != f2) = true := by simpa using e4
          have HE : Hid (q = false) := Lib.hid (by rw [← HQ.out]; simp [e4])
          clear e4
          go_wp2
          go_ret
          exact ⟨ret_bool HE.out.symm, HB.out⟩
      · rw [eqB_false e3]
        have HE : Hid (q = false) := Lib.hid (by rw [← HQ.out]; simp [e3])
        clear e3
        go_wp2
        go_ret
        exact ⟨ret_bool HE.out.symm, HB.out⟩
    · rw [Sl.eqB_false e2]
      have HE : Hid (q = false) := Lib.hid (by rw [← HQ.out]; simp [e2])
      clear e2
      go_wp2
      go_ret
      exact ⟨ret_bool HE.out.symm, HB.out⟩
  · rw [eqB_false e1]
    have HE : Hid (q = false) := Lib.hid (by rw [← HQ.out]; simp [e1])
    clear e1
    go_wp2
    go_ret
    exact ⟨ret_bool HE.out.symm, HB.out⟩

theorem szByteS (x : Option Addr) (n cap : Nat) (w : World) (left : Int) (hn : n ≤ 9223372036854775807) (h0 : 0 ≤ left) (h1 : left ≤ 1048576) :
    Calls Tryz.prog 98 #[.slice x n cap, .int .i64 left] w fun e w' => e = .returned (.int .i64 (if (n : Int) ≤ left then left - n else -1)) ∧ w = w' := by
  by_cases h : (n : Int) ≤ left
  · rw [if_pos h]
    have h2 : ¬ left - (n : Int) < 0 := by omega
    go_enter Tryz.func98, Tryz.ntmps98
    go_wp2
    go_ret
    exact ⟨rfl, rfl⟩
  · rw [if_neg h]
    have h2 : left - (n : Int) < 0 := by omega
    go_enter Tryz.func98, Tryz.ntmps98
    go_wp2
    go_ret
    exact ⟨rfl, rfl⟩
def bulkD (x : Dt) : Nat := bulk x.1 + x.2.1.length + bulk x.2.2.1
def szD (x : Dt) (left : Int) : Int := if (bulkD x : Int) ≤ left then left - bulkD x else -1
/-- Its parts are small enough for the contracts. -/
def smD (x : Dt) : Prop := bulk x.1 ≤ 1200000 ∧ x.2.1.length ≤ 1200000 ∧ bulk x.2.2.1 ≤ 1200000
theorem smD_of {x : Dt} (h : bulkD x ≤ 1200000) : smD x := by unfold bulkD at h; unfold smD; omega
theorem szD_fit {x : Dt} {left : Int} (h : (bulkD x : Int) ≤ left) : szD x left = left - bulkD x := if_pos h
theorem szD_not {x : Dt} {left : Int} (h : left < (bulkD x : Int)) : szD x left = -1 := if_neg (by omega)
set_option maxHeartbeats 2000000 in
theorem szData (a b c : Value) (x : Dt) (w : World) (left : Int) (h : DHold w a b c x) (h1 : x.1.length ≤ 9223372036854775807) (h2 : x.2.1.length ≤ 9223372036854775807) (h3 : x.2.2.1.length ≤ 9223372036854775807) (hs1 : ∀ y ∈ x.1, y.size ≤ maxLen) (hs3 : ∀ y ∈ x.2.2.1, y.size ≤ maxLen) (h0 : 0 ≤ left) (hl : left ≤ 1048576) :
    Calls Tryz.prog 38 #[.agg (dc a b c x.2.2.2.1 x.2.2.2.2), .int .i64 left] w fun e w' => e = .returned (.int .i64 (szD x left)) ∧ Below w.heap.size w w' := by
  obtain ⟨l, m, k, f, s⟩ := x
  simp only at h1 h2 h3 hs1 hs3 ⊢
  obtain ⟨xa, na, ca, xb, nb, cb, xc, nc, cc, rfl, rfl, rfl⟩ := h.shape
  obtain rfl : nb = m.length := Sl.Holds.lenEq h.2.1
  have HB := Lib.hid ((Below.refl w.heap.size w).alloc (Nat.le_refl _) (.cells (dc (.slice xa na ca) (.slice xb m.length cb) (.slice xc nc cc) f s) 71))
  have H0 := Lib.hid h; have S1 := Lib.hid hs1; have S3 := Lib.hid hs3
  have HX := Lib.hid (Ret.Blk.new w (dc (.slice xa na ca) (.slice xb m.length cb) (.slice xc nc cc) f s) 71)
  clear h hs1 hs3
  go_enter Tryz.func38, Tryz.ntmps38
  go_wp2_with fail
  refine (szName _ l _ left (H0.out.on HB.out).1 h1 S1.out h0 hl).mono ?_
  rintro e w1 ⟨rfl, hb⟩
  replace HX := Lib.hid (HX.out.on hb)
  replace HB := Lib.hid (HB.out.trans (hb.mono HB.out.size)); clear hb
  have q0 : w1.cell? ⟨w.heap.size, 0, none⟩ = some (.slice xa na ca) := HX.out.cell 0
  have q1 : w1.cell? ⟨w.heap.size, 1, none⟩ = some (.slice xb m.length cb) := HX.out.cell 1
  have q2 : w1.cell? ⟨w.heap.size, 2, none⟩ = some (.slice xc nc cc) := HX.out.cell 2
  have q3 : w1.cell? ⟨w.heap.size, 3, none⟩ = some (.int .i64 f) := HX.out.cell 3
  have q4 : w1.cell? ⟨w.heap.size, 4, none⟩ = some (.int .i64 s) := HX.out.cell 4
  by_cases t1 : (bulk l : Int) ≤ left
  · rw [szL_fit t1]
    have g1 : ¬ left - (bulk l : Int) < 0 := by omega
    go_wp2_with fail
    clear q0 q1 q2 q3 q4
    refine (szByteS _ _ _ _ (left - (bulk l : Int)) h2 (by omega) (by omega)).mono ?_
    rintro e w2 ⟨rfl, rfl⟩
    have q0 : w1.cell? ⟨w.heap.size, 0, none⟩ = some (.slice xa na ca) := HX.out.cell 0
    have q1 : w1.cell? ⟨w.heap.size, 1, none⟩ = some (.slice xb m.length cb) := HX.out.cell 1
    have q2 : w1.cell? ⟨w.heap.size, 2, none⟩ = some (.slice xc nc cc) := HX.out.cell 2
    have q3 : w1.cell? ⟨w.heap.size, 3, none⟩ = some (.int .i64 f) := HX.out.cell 3
    have q4 : w1.cell? ⟨w.heap.size, 4, none⟩ = some (.int .i64 s) := HX.out.cell 4
    by_cases t2 : (m.length : Int) ≤ left - (bulk l : Int)
    · rw [if_pos t2]
      have g2 : ¬ left - (bulk l : Int) - (m.length : Int) < 0 := by omega
      go_wp2_with fail
      clear q0 q1 q2 q3 q4
      refine (szName _ k _ (left - (bulk l : Int) - (m.length : Int)) (H0.out.on HB.out).2.2 h3 S3.out (by omega) (by omega)).mono ?_
      rintro e w3 ⟨rfl, hb⟩
      replace HX := Lib.hid (HX.out.on hb)
      replace HB := Lib.hid (HB.out.trans (hb.mono HB.out.size)); clear hb
      have q0 : w3.cell? ⟨w.heap.size, 0, none⟩ = some (.slice xa na ca) := HX.out.cell 0
      have q1 : w3.cell? ⟨w.heap.size, 1, none⟩ = some (.slice xb m.length cb) := HX.out.cell 1
      have q2 : w3.cell? ⟨w.heap.size, 2, none⟩ = some (.slice xc nc cc) := HX.out.cell 2
      have q3 : w3.cell? ⟨w.heap.size, 3, none⟩ = some (.int .i64 f) := HX.out.cell 3
      have q4 : w3.cell? ⟨w.heap.size, 4, none⟩ = some (.int .i64 s) := HX.out.cell 4
      by_cases t3 : (bulk k : Int) ≤ left - (bulk l : Int) - (m.length : Int)
      · rw [szL_fit t3]
        have g3 : ¬ left - (bulk l : Int) - (m.length : Int) - (bulk k : Int) < 0 := by omega
        have HZ : Hid (szD (l, m, k, f, s) left = left - (bulk l : Int) - (m.length : Int) - (bulk k : Int)) := Lib.hid (by rw [szD_fit (by show ((bulk l + m.length + bulk k : Nat) : Int) ≤ left; omega)]; show left - ((bulk l + m.length + bulk k : Nat) : Int) = _; omega)
        go_wp2
        go_ret
        exact ⟨ret_int HZ.out.symm, HB.out⟩
      · rw [szL_not (by omega)]
        have hz : szD (l, m, k, f, s) left = -1 := szD_not (by show left < ((bulk l + m.length + bulk k : Nat) : Int); omega)
        have HZ := Lib.hid hz; clear hz
        go_wp2
        go_ret
        exact ⟨ret_int HZ.out.symm, HB.out⟩
    · rw [if_neg t2]
      have hz : szD (l, m, k, f, s) left = -1 := szD_not (by show left < ((bulk l + m.length + bulk k : Nat) : Int); omega)
      have HZ := Lib.hid hz; clear hz
      go_wp2
      go_ret
      exact ⟨ret_int HZ.out.symm, HB.out⟩
  · rw [szL_not (l := l) (left := left) (by omega)]
    have hz : szD (l, m, k, f, s) left = -1 := szD_not (by show left < ((bulk l + m.length + bulk k : Nat) : Int); omega)
    have HZ := Lib.hid hz; clear hz
    go_wp2
    go_ret
    exact ⟨ret_int HZ.out.symm, HB.out⟩

def advD (x : Dt) : Nat := x.1.length + x.2.1.length + x.2.2.1.length
theorem advD_big {x : Dt} {n : Nat} (h : bulkD x ≤ n) : advD x ≤ n := by have h1 := bulk_len x.1; have h2 := bulk_len x.2.2.1; unfold bulkD at h; unfold advD; omega
/-- A packet whose parts are marked. -/
def mkD (k : Int) (x : Dt) : Dt := (marks markT k x.1.length, Sl.marks .u8 (k + x.1.length) x.2.1.length, marks markT (k + x.1.length + x.2.1.length) x.2.2.1.length, x.2.2.2)
end Go.Proofs.YtcidfmmeonhkhaaGreatDoor.Row
/- Data packets in the words of the exact laws: the kind; the laws' helpers for it; a packet that came in as an argument. No conditions but that lengths fit. -/
namespace Go.Proofs.YtcidfmmeonhkhaaGreatDoor.Row
open Go.ChangeShapes Go.WideShapes Go.ChangeAt Go.RowKit Go.Instr
set_option linter.unusedVariables false
set_option maxRecDepth 100000

theorem u8one (x : Int) : (Value.int .u8 x).oneCell' = true := rfl
def kBs : Kd (List Int) (Rw Int) := kS 5 (Value.int .u8) u8one
def kD : Kd Dt (Rw ByteArray × Rw Int × Rw ByteArray × Int × Int) := (kNm 9).pair (kBs.pair ((kNm 9).pair (kInt.pair kInt)))
section
variable {w : World} {a b c V : Value} {x : Dt} {B E : Nat}
theorem kD_at (h : kD.At w V x) : ∃ a b c, V = .agg (dc a b c x.2.2.2.1 x.2.2.2.2) ∧ DHold w a b c x := by
  obtain ⟨⟨r, q, t, f, s⟩, rfl, rfl, h⟩ := h
  exact ⟨r.v, q.v, t.v, rfl, kNm_at (e := 9) ⟨r, rfl, rfl, h.1⟩, kS_at (h1 := u8one) (e := 5) ⟨q, rfl, rfl, h.2.1⟩, kNm_at (e := 9) ⟨t, rfl, rfl, h.2.2.1⟩⟩
theorem kD_of (h : DHold w a b c x) : kD.At w (.agg (dc a b c x.2.2.2.1 x.2.2.2.2)) x := by
  obtain ⟨l, m, k, f, s⟩ := x
  obtain ⟨r, rfl, e1, h1⟩ := kNm_of (e := 9) h.1
  obtain ⟨q, rfl, e2, h2⟩ := kS_of (enc := Value.int .u8) (h1 := u8one) (e := 5) h.2.1
  obtain ⟨t, rfl, e3, h3⟩ := kNm_of (e := 9) h.2.2
  exact ⟨(r, q, t, f, s), rfl, Prod.ext e1 (Prod.ext e2 (Prod.ext e3 rfl)), h1, h2, h3, trivial, trivial⟩
theorem nodup3 {u v t : Option Nat} : (u.toList ++ (v.toList ++ t.toList)).Nodup ↔ (∀ g, u = some g → v ≠ some g) ∧ (∀ g, u = some g → t ≠ some g) ∧ (∀ g, v = some g → t ≠ some g) := by
  cases u <;> cases v <;> cases t <;> simp <;> (try constructor) <;> (try intro h) <;> (try omega)
theorem kD_blocks (r : Rw ByteArray) (q : Rw Int) (t : Rw ByteArray) (f s : Int) : kD.blocks (r, q, t, f, s) = r.v.ownBlock.toList ++ (q.v.ownBlock.toList ++ t.v.ownBlock.toList) := by
  show (kNm 9).blocks r ++ (kBs.blocks q ++ ((kNm 9).blocks t ++ ([] ++ []))) = _
  rw [kNm_blocks, kNm_blocks, List.append_nil, List.append_nil]
  unfold kBs
  rw [kS_blocks]
theorem kD_mk (h : DOwn B w a b c x) (hE : (∀ g, a.ownBlock = some g → g < E) ∧ (∀ g, b.ownBlock = some g → g < E) ∧ ∀ g, c.ownBlock = some g → g < E) : kD.In B E w (.agg (dc a b c x.2.2.2.1 x.2.2.2.2)) x := by
  obtain ⟨l, m, k, f, s⟩ := x
  obtain ⟨o1, o2, o3, ab, ac, bc⟩ := h
  obtain ⟨r, rfl, e1, h1, -⟩ := kNm_mk o1 hE.1
  obtain ⟨q, rfl, e2, h2, -⟩ := kS_mk (h1 := u8one) (e := 5) (enc := Value.int .u8) o2 hE.2.1
  obtain ⟨t, rfl, e3, h3, -⟩ := kNm_mk o3 hE.2.2
  refine ⟨(r, q, t, f, s), rfl, Prod.ext e1 (Prod.ext e2 (Prod.ext e3 rfl)), ⟨h1, h2, h3, trivial, trivial⟩, ?_, ?_⟩
  · rw [kD_blocks]; exact nodup3.2 ⟨ab, ac, bc⟩
  · rw [kD_blocks]
    intro g hg
    rcases List.mem_append.1 hg with hg | hg
    · exact hE.1 g (show r.v.ownBlock = some g by simpa using hg)
    · rcases List.mem_append.1 hg with hg | hg
      · exact hE.2.1 g (show q.v.ownBlock = some g by simpa using hg)
      · exact hE.2.2 g (show t.v.ownBlock = some g by simpa using hg)
theorem kD_own (h : DOwn B w a b c x) : kD.In B w.heap.size w (.agg (dc a b c x.2.2.2.1 x.2.2.2.2)) x := kD_mk h ⟨fun g hg => (h.1.lt g hg).2, fun g hg => (Sl.Own.lt h.2.1 g hg).2, fun g hg => (h.2.2.1.lt g hg).2⟩
theorem kD_in (h : kD.In B E w V x) : ∃ a b c, V = .agg (dc a b c x.2.2.2.1 x.2.2.2.2) ∧ DOwn B w a b c x ∧ (∀ g, a.ownBlock = some g → g < E) ∧ (∀ g, b.ownBlock = some g → g < E) ∧ ∀ g, c.ownBlock = some g → g < E := by
  obtain ⟨⟨r, q, t, f, s⟩, rfl, rfl, h, hn, hl⟩ := h
  rw [kD_blocks] at hn hl
  obtain ⟨ab, ac, bc⟩ := nodup3.1 hn
  have la : ∀ g, r.v.ownBlock = some g → g < E := fun g hg => hl g (List.mem_append_left _ (by simp [hg]))
  have lb : ∀ g, q.v.ownBlock = some g → g < E := fun g hg => hl g (List.mem_append_right _ (List.mem_append_left _ (by simp [hg])))
  have lc : ∀ g, t.v.ownBlock = some g → g < E := fun g hg => hl g (List.mem_append_right _ (List.mem_append_right _ (by simp [hg])))
  have nd : ∀ u : Option Nat, u.toList.Nodup := fun u => by cases u <;> simp
  have i1 := kNm_in (E := E) (e := 9) ⟨r, rfl, rfl, h.1, by rw [kNm_blocks]; exact nd _, by rw [kNm_blocks]; intro g hg; exact la g (by simpa using hg)⟩
  have i2 := kS_in (E := E) (h1 := u8one) (e := 5) (enc := Value.int .u8) ⟨q, rfl, rfl, h.2.1, by rw [kS_blocks]; exact nd _, by rw [kS_blocks]; intro g hg; exact lb g (by simpa using hg)⟩
  have i3 := kNm_in (E := E) (e := 9) ⟨t, rfl, rfl, h.2.2.1, by rw [kNm_blocks]; exact nd _, by rw [kNm_blocks]; intro g hg; exact lc g (by simpa using hg)⟩
  exact ⟨r.v, q.v, t.v, rfl, ⟨i1.1, i2.1, i3.1, ab, ac, bc⟩, la, lb, lc⟩
theorem kD_shape (h : kD.In B E w V x) : ∃ xa na ca xb nb cb xc nc cc, V = .agg #[.slice xa na ca, .slice xb nb cb, .slice xc nc cc, .int .i64 x.2.2.2.1, .int .i64 x.2.2.2.2] ∧ kD.In B E w (.agg #[.slice xa na ca, .slice xb nb cb, .slice xc nc cc, .int .i64 x.2.2.2.1, .int .i64 x.2.2.2.2]) x := by
  obtain ⟨a, b, c, rfl, ho, -⟩ := kD_in h
  obtain ⟨xa, na, ca, xb, nb, cb, xc, nc, cc, rfl, rfl, rfl⟩ := ho.hold.shape
  exact ⟨_, _, _, _, _, _, _, _, _, rfl, h⟩
theorem kD_shapeA (h : kD.At w V x) : ∃ xa na ca xb nb cb xc nc cc, V = .agg #[.slice xa na ca, .slice xb nb cb, .slice xc nc cc, .int .i64 x.2.2.2.1, .int .i64 x.2.2.2.2] ∧ kD.At w (.agg #[.slice xa na ca, .slice xb nb cb, .slice xc nc cc, .int .i64 x.2.2.2.1, .int .i64 x.2.2.2.2]) x := by
  obtain ⟨a, b, c, rfl, ho⟩ := kD_at h
  obtain ⟨xa, na, ca, xb, nb, cb, xc, nc, cc, rfl, rfl, rfl⟩ := ho.shape
  exact ⟨_, _, _, _, _, _, _, _, _, rfl, h⟩
end
/-- Its parts' sizes and its numbers fit. -/
def WfD (x : Dt) : Prop := (∀ y ∈ x.1, y.size ≤ maxLen) ∧ (∀ y ∈ x.2.1, (Lit.int .u8 y).wf = true) ∧ (∀ y ∈ x.2.2.1, y.size ≤ maxLen) ∧ (Lit.int .i64 x.2.2.2.1).wf = true ∧ (Lit.int .i64 x.2.2.2.2).wf = true
theorem szDK (V : Value) (x : Dt) (w : World) (left : Int) (h : kD.At w V x) (hl : x.1.length ≤ 9223372036854775807 ∧ x.2.1.length ≤ 9223372036854775807 ∧ x.2.2.1.length ≤ 9223372036854775807) (hs : WfD x) (h0 : 0 ≤ left) (h1 : left ≤ 1048576) :
    Calls Tryz.prog 38 #[V, .int .i64 left] w fun e w' => e = .returned (.int .i64 (szD x left)) ∧ Below w.heap.size w w' := by
  obtain ⟨a, b, c, rfl, h9⟩ := kD_at h
  exact szData a b c x w left h9 hl.1 hl.2.1 hl.2.2 hs.1 hs.2.2.1 h0 h1
theorem toDK (V : Value) (x : Dt) (w : World) (h : kD.At w V x) (hl : bulkD x ≤ 100000000) :
    Calls Tryz.prog 40 #[V] w fun e w' => ∃ U, e = .returned U ∧ kD.In w.heap.size w'.heap.size w' U x ∧ Below w.heap.size w w' := by
  obtain ⟨a, b, c, rfl, h9⟩ := kD_at h
  have h1 := bulk_len x.1
  have h2 := bulk_len x.2.2.1
  unfold bulkD at hl
  exact (toData a b c x w h9 (by omega) (by omega) (by omega)).mono fun e w' ⟨a, b, c, p, q, r⟩ => ⟨_, p, kD_own q, r⟩
theorem sameDK (V U : Value) (x : Dt) (w : World) (h : kD.At w V x) (g : kD.At w U x) (hl : advD x ≤ 100000000) :
    Calls Tryz.prog 43 #[V, U] w fun e w' => e = .returned (.bool true) ∧ Below w.heap.size w w' := by
  obtain ⟨a, b, c, rfl, h9⟩ := kD_at h
  obtain ⟨a2, b2, c2, rfl, g9⟩ := kD_at g
  unfold advD at hl
  exact eqData a b c a2 b2 c2 x x w true (by simp) h9 g9 (by omega) (by omega) (by omega) (by omega) (by omega) (by omega)
/-- A slice of bytes as it is read. -/
theorem open_bytes1 {H : Type} {enc : TypeId × Value → H} {P : Program} {w : World} {b2 n : Nat} {held : Bool} {e s : TypeId} {cs : List Value} {y0 : DataW H × List MemPlace} (he : P.underlying e = some (.slice s)) (hs : P.underlying s = some (.int .u8)) (hcs : P.cellsOf s = 1)
    (h0 : DataW.trod enc P w b2 (fun _ => true) held n e cs = some y0) : ∃ (ad : Option Addr) (k c : Nat) (l : List Int), cs = [.slice ad k c] ∧ Sl.Holds .u8 w (.slice ad k c) l ∧ (∀ x ∈ l, (Lit.int .u8 x).wf = true) ∧ l.length ≤ 9223372036854775807 := by
  have hmx : maxLen = 9223372036854775807 := rfl
  rcases open_ints he hs hcs h0 with ⟨hc, hx⟩ | ⟨a, len', cap', zs, hc, hb, hl, hm, hn, hx, hcell, hwz⟩
  · exact ⟨none, 0, 0, [], hc, Sl.Holds.nil _ _, by simp, by simp⟩
  · simp only [if_true] at hn
    have hlen : (zs.take len').length = len' := by rw [List.length_take]; omega
    refine ⟨some a, len', cap', zs.take len', hc, ⟨some a, cap', by rw [hlen], by rw [hlen]; exact hl, ?_⟩, fun n hnn => hwz n (List.mem_of_mem_take hnn), by rw [hlen, ← hmx]; exact Nat.le_trans hl hm⟩
    by_cases h0 : len' = 0
    · left; subst h0; simp
    · right
      obtain ⟨b, off, spot⟩ := a
      have h1 := hcell 0 (by omega)
      have hs : spot = none := by simpa [Addr.add] using World.cell?_spot h1
      subst hs
      refine ⟨b, off, rfl, fun i hi => ?_⟩
      rw [hlen] at hi
      have h2 := hcell i (by omega)
      rw [Go.WideShapes.add_plain] at h2
      rw [h2]
      simp only [Sl.nth, List.getD, List.getElem?_take, if_pos hi]
theorem five {α : Type} {cs : Array α} (h : cs.size = 5) : ∃ c0 c1 c2 c3 c4, cs = #[c0, c1, c2, c3, c4] := by
  obtain ⟨l⟩ := cs
  match l, h with
  | [c0, c1, c2, c3, c4], _ => exact ⟨c0, c1, c2, c3, c4, rfl⟩
/-- A packet as it came in. -/
theorem open_data {H : Type} {enc : TypeId × Value → H} {P : Program} {w : World} {base b2 : Nat} {held : Bool} {t ep eb : TypeId} {v : Value} {d : DataW H} {p : List MemPlace} {f0 f1 f2 f3 f4 g0 : Field}
    (he : P.underlying t = some (.struct #[f0, f1, f2, f3, f4])) (hN : P.underlying f0.type = some (.struct #[g0])) (hN2 : P.underlying f2.type = some (.struct #[g0])) (hg : P.underlying g0.type = some (.slice ep)) (hs : P.underlying ep = some .string) (hB : P.underlying f1.type = some (.slice eb)) (hb : P.underlying eb = some (.int .u8)) (hI3 : P.underlying f3.type = some (.int .i64)) (hI4 : P.underlying f4.type = some (.int .i64))
    (ho0 : f0.offset = 0) (ho1 : f1.offset = 1) (ho2 : f2.offset = 2) (ho3 : f3.offset = 3) (ho4 : f4.offset = 4) (hog : g0.offset = 0) (hc0 : P.cellsOf f0.type = 1) (hc1 : P.cellsOf f1.type = 1) (hc2 : P.cellsOf f2.type = 1) (hc3 : P.cellsOf f3.type = 1) (hc4 : P.cellsOf f4.type = 1) (hcg : P.cellsOf g0.type = 1) (hcs : P.cellsOf ep = 1) (hcb : P.cellsOf eb = 1) (hC : P.cellsOf t = 5)
    (hv : Value.okWide P w .any base t v) (h : DataW.Trod enc P w b2 (fun _ => true) held t v d p) :
    ∃ x, kD.At w v x ∧ WfD x ∧ x.1.length ≤ 9223372036854775807 ∧ x.2.1.length ≤ 9223372036854775807 ∧ x.2.2.1.length ≤ 9223372036854775807 := by
  obtain ⟨cs, rfl, hcz⟩ := okWide_struct he hv
  obtain ⟨fuel, hfu⟩ := h
  obtain ⟨xs, n2, -, -, -, hlen, hf⟩ := DataW.trod_struct he hfu
  have hlen5 : xs.length = 5 := hlen
  obtain ⟨y0, y1, y2, y3, y4, rfl⟩ : ∃ y0 y1 y2 y3 y4, xs = [y0, y1, y2, y3, y4] := by
    match xs, hlen5 with
    | [y0, y1, y2, y3, y4], _ => exact ⟨y0, y1, y2, y3, y4, rfl⟩
  have q0 := hf 0 f0 rfl
  have q1 := hf 1 f1 rfl
  have q2 := hf 2 f2 rfl
  have q3 := hf 3 f3 rfl
  have q4 := hf 4 f4 rfl
  simp only [List.getElem?_cons_zero, List.getElem?_cons_succ] at q0 q1 q2 q3 q4
  rw [ho0, hc0] at q0
  rw [ho1, hc1] at q1
  rw [ho2, hc2] at q2
  rw [ho3, hc3] at q3
  rw [ho4, hc4] at q4
  obtain ⟨z0, n3, -, -, q0⟩ := trod_struct1 hN q0
  rw [hog, hcg] at q0
  obtain ⟨z2, n4, -, -, q2⟩ := trod_struct1 hN2 q2
  rw [hog, hcg] at q2
  obtain ⟨a1, k1, c1, l, e0, hh, hz, hln⟩ := open_strs1 hg hs hcs q0
  obtain ⟨a2, k2, c2, m, e1, hh2, hz2, hln2⟩ := open_bytes1 hB hb hcb q1
  obtain ⟨a3, k3, c3, k, e2, hh3, hz3, hln3⟩ := open_strs1 hg hs hcs q2
  obtain ⟨v3, e3, -, w3⟩ := DataW.trod_int hI3 q3
  obtain ⟨v4, e4, -, w4⟩ := DataW.trod_int hI4 q4
  obtain ⟨u0, u1, u2, u3, u4, rfl⟩ := five (hcz.trans hC)
  simp [Value.cells] at e0 e1 e2 e3 e4
  subst e0 e1 e2 e3 e4
  exact ⟨(l, m, k, v3, v4), kD_of (x := (l, m, k, v3, v4)) ⟨hh, hh2, hh3⟩, ⟨hz, hz2, hz3, w3, w4⟩, hln, hln2, hln3⟩
end Go.Proofs.YtcidfmmeonhkhaaGreatDoor.Row
