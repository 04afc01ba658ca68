/- Contracts and mathematics, joined: RingMark, RingOpen, Part, Valid, AppP, RingV, Clone, RingCopy, RingFind, Want, Gives, Conv, VarMath, Var, ReadV, ReadVI, Bytes, Ints, WantS, WantV, ReadB, WantE, WantR, WantP, WantQ, DecI, VarBack, WantD, EncMath, RingMath. No conditions but those that each states. -/
import Derived.Test.YtcidfmmeonhkhaaB5
import Derived.Test.YtcidfmmeonhkhaaB1
import Derived.Deep.Slices
import Derived.Deep.Strs
import Derived.ChangeSame
import Derived.ChangeArms
import Derived.Laws.RangeAny
import Derived.Deep.RegionLaw
import Derived.Test.YtcidfmmeonhkhaaB2
import Derived.LoopTactic
import Derived.Lib.ConvBytes
import Derived.Laws.BitsLemmas
import Derived.Laws.Bits128
import Derived.Test.YtcidfmmeonhkhaaRows
import Derived.Laws.ShiftsVarLaws
import Derived.Laws.BytesArg
import Derived.Deep.Cut
import Derived.Deep.RegionHeld3
import Derived.Maps.OwnSet
/- Contracts of the helpers by which the laws mark tables and look at the marks. No conditions but that lengths fit. -/
namespace Go.Proofs.Ytcidfmmeonhkhaa.Row.Ring
open Go.ChangeShapes Go.WideShapes Go.ChangeAt Go.RowKit Go.Instr
set_option linter.unusedVariables false
set_option maxRecDepth 100000

/-- How many numbers a marking takes: one a part, one an entry. -/
def adv : List (List ByteArray × Int) → Nat
  | [] => 0
  | x :: r => x.1.length + 1 + adv r
theorem adv_append : ∀ (a b : List (List ByteArray × Int)), adv (a ++ b) = adv a + adv b
  | [], b => by simp [adv]
  | x :: a, b => by simp [adv, adv_append a b]; omega
theorem adv_bulk : ∀ T : List (List ByteArray × Int), adv T ≤ bulkT T
  | [] => by simp [adv]
  | x :: r => by
    have h1 := adv_bulk r
    have h2 := bulk_len x.1
    have e : bulkT (x :: r) = bulk x.1 + 1 + bulkT r := by simp [bulkT, bulkTTo]; omega
    rw [e]
    simp only [adv]
    omega
theorem adv_len : ∀ T : List (List ByteArray × Int), T.length ≤ adv T
  | [] => by simp
  | x :: r => by have := adv_len r; simp [adv]; omega
theorem adv_take {T : List (List ByteArray × Int)} {j : Nat} (h : j < T.length) : adv (T.take (j + 1)) = adv (T.take j) + (nth T j).1.length + 1 := by
  rw [List.take_succ_eq_append_getElem h, adv_append, nth_eq h]; simp [adv]; omega
theorem adv_take_le (T : List (List ByteArray × Int)) (j : Nat) : adv (T.take j) ≤ adv T := by
  have := adv_append (T.take j) (T.drop j)
  rw [List.take_append_drop] at this; omega
/-- A table as a marking from k on leaves it. -/
def markTb (k : Int) : List (List ByteArray × Int) → List (List ByteArray × Int)
  | [] => []
  | x :: r => (marks markT k x.1.length, k + x.1.length) :: markTb (k + x.1.length + 1) r
theorem markTb_append (k : Int) : ∀ (a b : List (List ByteArray × Int)), markTb k (a ++ b) = markTb k a ++ markTb (k + adv a) b
  | [], b => by simp [markTb, adv]
  | x :: a, b => by
    simp only [List.cons_append, markTb, adv, markTb_append _ a b]
    congr 3
    simp; omega
theorem drop_nth' {α : Type} [Inhabited α] {l : List α} {k : Nat} (h : k < l.length) : l.drop k = nth l k :: l.drop (k + 1) := by
  rw [nth_eq h, List.getElem_cons_drop]
def Ent.setPs (x : Ent) (ps : List ByteArray) : Ent := ⟨x.ad, x.n, x.cap, ps, x.val⟩
def Ent.setVal (x : Ent) (a : Int) : Ent := ⟨x.ad, x.n, x.cap, x.ps, a⟩
/-- An entry as it lies, marked. -/
def Ent.marked (x : Ent) (k : Int) : Ent := ⟨x.ad, x.n, x.cap, marks markT k x.ps.length, k + x.ps.length⟩

theorem pairwise_same {L M : List Ent} (h : L.Pairwise (fun a b => Apart a.v b.v)) (e : M.map Ent.v = L.map Ent.v) : M.Pairwise (fun a b => Apart a.v b.v) := by
  have h1 : (L.map Ent.v).Pairwise Apart := by rw [List.pairwise_map]; exact h
  rw [← e, List.pairwise_map] at h1
  exact h1
/-- Writing one name leaves the others and the row. -/
theorem TabO.named {B : Nat} {w w' : World} {v : Value} {L : List Ent} (h : TabO B w v L) {k : Nat} (hk : k < L.length) {ps : List ByteArray} (ho : Own 9 Value.string B w' (nth L k).v ps) (hg : w.grownBy w' (nth L k).v.ownBlock) :
    TabO B w' v (L.set k ((nth L k).setPs ps)) := by
  have hrow : OwnK 89 encE 2 B w' v L := h.1.grown hg (by
    cases hv : v.ownBlock with
    | none => exact Or.inl rfl
    | some g => exact Or.inr fun e => name_row (h.2.1 _ (nth_mem hk)) h.1 g e.symm hv)
  have henc : flat encE (L.set k ((nth L k).setPs ps)) = flat encE L := by
    unfold flat
    rw [List.flatMap_def, List.flatMap_def, List.map_set]
    congr 1
    have : encE ((nth L k).setPs ps) = (L.map encE)[k]'(by simpa using hk) := by simp [encE, Ent.v, Ent.setPs, nth_eq hk]
    rw [this, List.set_getElem_self]
  refine ⟨?_, fun y hy => ?_, ?_⟩
  · unfold OwnK at *
    rw [List.length_set, henc]; exact hrow
  · obtain ⟨i, hi, rfl⟩ := List.getElem_of_mem hy
    rw [List.length_set] at hi
    by_cases e : k = i
    · subst e
      rw [List.getElem_set_self]
      exact ho
    · rw [List.getElem_set_ne e]
      refine (h.2.1 _ (List.getElem_mem _)).grown hg (apart_or ?_)
      have := List.pairwise_iff_getElem.1 h.2.2
      have hkk := nth_eq hk
      generalize nth L k = z at *
      subst hkk
      have hi : i < L.length := by simpa using hi
      show Apart (L[i]'hi).v (L[k]'hk).v
      rcases Nat.lt_or_gt_of_ne e with e | e
      · exact (this k i hk hi e).symm
      · exact this i k hi hk e
  · refine pairwise_same h.2.2 ?_
    rw [List.map_set]
    have : Ent.v ((nth L k).setPs ps) = (L.map Ent.v)[k]'(by simpa using hk) := by simp [Ent.v, Ent.setPs, nth_eq hk]
    rw [this, List.set_getElem_self]
/-- A number is stored. -/
theorem TabO.valued {B : Nat} {w : World} {g n cap : Nat} {L : List Ent} (h : TabO B w (.slice (some ⟨g, 0, none⟩) n cap) L) (hn : n = L.length) {k : Nat} (hk : k < L.length) (a : Int) :
    TabO B (w.setCell ⟨g, k * 2 + 1, none⟩ (.int .i64 a)) (.slice (some ⟨g, 0, none⟩) n cap) (L.set k ((nth L k).setVal a)) ∧ w.grownBy (w.setCell ⟨g, k * 2 + 1, none⟩ (.int .i64 a)) (some g) := by
  obtain ⟨a1, a2⟩ := ownK_store szE h.1 hn hk (i := 1) (by decide) (y := ((nth L k).setVal a)) (u := .int .i64 a) rfl
  refine ⟨h.row a1 a2 (fun y hy => ?_) ?_, a2⟩
  · rcases List.mem_or_eq_of_mem_set hy with hy | hy
    · exact ⟨y, hy, rfl, rfl⟩
    · exact ⟨_, nth_mem hk, by rw [hy]; rfl, by rw [hy]; rfl⟩
  · refine pairwise_same h.2.2 ?_
    rw [List.map_set]
    have : Ent.v ((nth L k).setVal a) = (L.map Ent.v)[k]'(by simpa using hk) := by simp [Ent.v, Ent.setVal, nth_eq hk]
    rw [this, List.set_getElem_self]

set_option maxHeartbeats 4000000 in
/-- Marking: every part and every number of a table of the call's own is written. -/
theorem markKeyS (B E : Nat) (v : Value) (T : List (List ByteArray × Int)) (w : World) (k : Int) (h : TabIn B E w v T) (hl : adv T ≤ 100000000) (h0 : 0 ≤ k) (h1 : k ≤ 10000000000) :
    Calls Try.prog 22 #[v, .int .i64 k] w fun e w' => e = .returned (.int .i64 (k + adv T)) ∧ TabIn B E w' v (markTb k T) ∧ Wrote B E w w' := by
  obtain ⟨L, rfl, h, hE, hE2⟩ := h
  rcases h.1.form with ⟨rfl, rfl⟩ | ⟨g, cap, rfl, g1, g2, g3, g4⟩
  · have H := Lib.hid h; clear h hE hE2
    go_enter Try.func22, Try.ntmps22
    go_wp2
    refine wp_loop_rounds 1 ?_
    rw [rounds_succ]
    go_wp2
    go_ret
    exact ⟨ret_int (by simp [strip, adv]), ⟨[], rfl, H.out, by simp [Value.ownBlock], by simp⟩, Wrote.refl _ _ _⟩
  · obtain ⟨n, hn⟩ : ∃ n, n = L.length := ⟨_, rfl⟩
    have hgE : g < E := hE g rfl
    have hln : n ≤ 100000000 := by have := adv_len (strip L); rw [strip_length] at this; omega
    rw [← hn] at h g3 hE ⊢
    have HN := Lib.hid hn
    have HE2 := Lib.hid hE2
    have HADV := Lib.hid (fun j => adv_take_le (strip L) j)
    have HST := Lib.hid (fun j (h : j < L.length) => adv_take (T := strip L) (j := j) (by rw [strip_length]; exact h))
    have HB : Hid (TabO B w (.slice (some ⟨g, 0, none⟩) n cap) ([] ++ L.drop 0)) := by simpa using Lib.hid h
    clear hn h hE hE2
    go_enter Try.func22, Try.ntmps22
    go_wp2
    go_loopw [1, 5] (fun kv i wr => ∃ j : Nat, j ≤ n ∧ i = .int .i64 j ∧ kv = .int .i64 (k + adv ((strip L).take j)) ∧ ∃ M : List Ent, Hid (M.length = j ∧ strip M = markTb k ((strip L).take j) ∧ M.map Ent.v = (L.take j).map Ent.v) ∧ Hid (TabO B wr (.slice (some ⟨g, 0, none⟩) n cap) (M ++ L.drop j)) ∧ Hid (Wrote B E w wr)) (fun _ i _ => n - (intOf i).toNat)
    case atStart => exact ⟨0, Nat.zero_le _, rfl, by simp [adv], [], Lib.hid ⟨rfl, rfl, rfl⟩, HB, Lib.hid (Wrote.refl _ _ _)⟩
    case round =>
      obtain ⟨j, hj, rfl, rfl, M, hM, ho, hg⟩ := hrel
      by_cases hlt : j < n
      · have hn := HN.out
        have hlen : n = (M ++ L.drop j).length := by rw [List.length_append, hM.out.1, List.length_drop]; omega
        have hlt2 : j < (M ++ L.drop j).length := by omega
        have hnj : nth (M ++ L.drop j) j = nth L j := by
          simp only [nth, List.getD]
          rw [List.getElem?_append_right (by rw [hM.out.1]; exact Nat.le_refl _), hM.out.1]
          simp
        obtain ⟨⟨k1, k2⟩, -, hnm⟩ := ho.out.cells hlen hlt2
        rw [hnj] at k1 hnm
        have hps : nth (strip L) j = (nth L j).t := strip_nth (by omega)
        have hst := HST.out j (by omega)
        rw [hps] at hst
        have hst : adv ((strip L).take (j + 1)) = adv ((strip L).take j) + (nth L j).ps.length + 1 := hst
        have hadv := HADV.out j
        have hadv2 := HADV.out (j + 1)
        have HNM := Lib.hid hnm
        have HSTP := Lib.hid hst; have HLEN := Lib.hid hlen; have HLT2 := Lib.hid hlt2; have HNJ := Lib.hid hnj
        have hpl : (nth L j).ps.length ≤ 100000000 := by omega
        have ha0 : (adv ((strip L).take j) : Int) ≤ 100000000 := by omega
        clear hn hlen hlt2 hnj hps hst hadv hadv2 hnm
        go_wp2_with fail
        refine (markStringS B _ (nth L j).ps wr (k + adv ((strip L).take j)) HNM.out hpl (by omega) (by omega)).mono ?_
        rintro e w1 ⟨rfl, ho1, hg1⟩
        have HO1 := Lib.hid (TabO.named ho.out HLT2.out (ps := marks markT (k + adv ((strip L).take j)) (nth L j).ps.length) (by rw [HNJ.out]; exact ho1) (by rw [HNJ.out]; exact hg1))
        have HG1 := Lib.hid (hg.out.trans (Wrote.of hg1 (fun b hb => ⟨((HNM.out.lt b hb)).1, HE2.out _ (nth_mem (by have := HN.out; omega)) b hb⟩)))
        obtain ⟨-, ⟨k3, k4⟩, -⟩ := HO1.out.cells (by rw [List.length_set]; exact HLEN.out) (k := j) (by rw [List.length_set]; exact HLT2.out)
        obtain ⟨p1, p2⟩ := HO1.out.valued (by rw [List.length_set]; exact HLEN.out) (k := j) (by rw [List.length_set]; exact HLT2.out) (k + adv ((strip L).take j) + (nth L j).ps.length)
        rw [nth_set HLT2.out, List.set_set] at p1
        have HP1 := Lib.hid p1
        have HP2 := Lib.hid p2
        clear k1 k2 ho1 hg1 p1 p2
        go_wp2_with fail
        go_roundw
        case rel =>
          refine ⟨j + 1, by omega, by go_num, ?_, M ++ [(nth L j).marked (k + adv ((strip L).take j))], Lib.hid ⟨?_, ?_, ?_⟩, Lib.hid ?_, Lib.hid (HG1.out.trans (Wrote.of HP2.out (fun b hb => by cases hb; exact ⟨by omega, by omega⟩)))⟩
          · rw [HSTP.out]; go_num
          · simp [hM.out.1]
          · have e1 : (strip L).take (j + 1) = (strip L).take j ++ [(nth L j).t] := by
              have := HN.out
              rw [List.take_succ_eq_append_getElem (by rw [strip_length]; omega), ← nth_eq, strip_nth (by omega)]
            rw [e1, markTb_append, strip_append, hM.out.2.1]
            rfl
          · have e1 : L.take (j + 1) = L.take j ++ [nth L j] := by
              have := HN.out
              rw [List.take_succ_eq_append_getElem (by omega), nth_eq (by omega)]
            rw [e1, List.map_append, List.map_append, hM.out.2.2]
            rfl
          · have := HP1.out
            rw [HNJ.out] at this
            have e2 : (M ++ L.drop j).set j ((nth L j).marked (k + adv ((strip L).take j))) = M ++ [(nth L j).marked (k + adv ((strip L).take j))] ++ L.drop (j + 1) := by
              have := HN.out
              rw [List.set_append_right _ _ (by rw [hM.out.1]; exact Nat.le_refl _), hM.out.1, Nat.sub_self, drop_nth' (by omega), List.set_cons_zero, List.append_assoc]
              rfl
            rw [← e2]
            exact this
        case measure => simp [intOf]; omega
      · obtain rfl : j = n := by omega
        clear hlt
        go_wp2
        go_ret
        have hn := HN.out
        have e1 : (strip L).take j = strip L := List.take_of_length_le (by rw [strip_length]; omega)
        have e2 : L.take j = L := List.take_of_length_le (by omega)
        have e3 : L.drop j = [] := List.drop_eq_nil_of_le (by omega)
        have hh := ho.out
        have hm := hM.out
        rw [e3, List.append_nil] at hh
        rw [e1, e2] at hm
        rw [e1]
        refine ⟨rfl, ⟨M, hm.2.1, hh, fun b hb => by cases hb; exact hgE, fun y hy b hb => ?_⟩, hg.out⟩
        have : y.v ∈ L.map Ent.v := by rw [← hm.2.2]; exact List.mem_map_of_mem hy
        obtain ⟨z, hz, hzv⟩ := List.mem_map.1 this
        exact HE2.out z hz b (by rw [hzv]; exact hb)

end Go.Proofs.Ytcidfmmeonhkhaa.Row.Ring
/- What the exact laws on tables use besides the contracts: a table that came in as an argument; equal ones compared; marks in a range of blocks. No conditions. -/
namespace Go.Proofs.Ytcidfmmeonhkhaa.Row.Ring
open Go.ChangeShapes Go.WideShapes Go.ChangeAt Go.RowKit Go.Instr
set_option linter.unusedVariables false
set_option maxRecDepth 100000

/-- A table as it came in. -/
theorem open_tab {H : Type} {enc : TypeId × Value → H} {P : Program} {w : World} {base b2 : Nat} {held : Bool} {t e ep : TypeId} {v : Value} {d : DataW H} {p : List MemPlace} {f0 f1 g0 : Field}
    (ht : P.underlying t = some (.slice e)) (he : P.underlying e = some (.struct #[f0, f1])) (hN : P.underlying f0.type = some (.struct #[g0])) (hg : P.underlying g0.type = some (.slice ep)) (hs : P.underlying ep = some .string) (hI : P.underlying f1.type = some (.int .i64))
    (ho0 : f0.offset = 0) (ho1 : f1.offset = 1) (hog : g0.offset = 0) (hc0 : P.cellsOf f0.type = 1) (hc1 : P.cellsOf f1.type = 1) (hcg : P.cellsOf g0.type = 1) (hcs : P.cellsOf ep = 1) (hC : P.cellsOf e = 2)
    (hv : Value.okWide P w .any base t v) (h : DataW.Trod enc P w b2 (fun _ => true) held t v d p) :
    ∃ T, TabHolds w v T ∧ (∀ t ∈ T, t.1.length ≤ 9223372036854775807 ∧ (∀ x ∈ t.1, x.size ≤ maxLen) ∧ (Lit.int .i64 t.2).wf = true) ∧ T.length ≤ 9223372036854775807 := by
  have hmx : maxLen = 9223372036854775807 := rfl
  obtain ⟨a0, len, cap, rfl⟩ := okWide_slice ht hv
  obtain ⟨fuel, hf⟩ := h
  rcases Deep.open_slice ht hf with ⟨hcs, -⟩ | ⟨a, len', cap', m, n, D, Pl, hcs', hb, hl, hm, hmm, -, hi⟩
  · have : Value.slice a0 len cap = .slice none 0 0 := by simpa [Value.cells] using hcs
    exact ⟨[], ⟨[], rfl, by rw [this]; exact TabH.nil _⟩, by simp, by simp⟩
  · have hcs' : Value.slice a0 len cap = .slice (some a) len' cap' := by simpa [Value.cells] using hcs'
    simp only [if_true] at hmm
    have key : ∀ i, i < m → ∃ x : Ent, w.cell? (a.add (i * 2)) = some x.v ∧ w.cell? (a.add (i * 2 + 1)) = some (.int .i64 x.val) ∧ Holds Value.string w x.v x.ps ∧ (∀ y ∈ x.ps, y.size ≤ maxLen) ∧ x.ps.length ≤ 9223372036854775807 ∧ (Lit.int .i64 x.val).wf = true := by
      intro i him
      obtain ⟨cs, hc, htr⟩ := hi i him
      rw [hC] at hc
      obtain ⟨-, hcl, hat⟩ := World.cells?_some hc
      obtain ⟨y0, y1, n2, -, -, q0, q1⟩ := trod_struct2 he htr
      rw [ho0, hc0] at q0
      rw [ho1, hc1] at q1
      obtain ⟨z0, n3, -, -, q0⟩ := trod_struct1 hN q0
      rw [hog, hcg] at q0
      obtain ⟨ad, k, c, l, e0, hh, hz, hln⟩ := open_strs1 hg hs hcs q0
      obtain ⟨v1, e1, -, w1⟩ := DataW.trod_int hI q1
      obtain ⟨u0, u1, rfl⟩ : ∃ u0 u1, cs = [u0, u1] := by
        match cs, hcl with
        | [u0, u1], _ => exact ⟨u0, u1, rfl⟩
      simp at e0 e1
      subst e0 e1
      have c0 := hat 0 (by decide)
      have c1 := hat 1 (by decide)
      rw [Deep.add_add] at c0 c1
      exact ⟨⟨ad, k, c, l, v1⟩, by simpa [Ent.v] using c0, by simpa using c1, hh, hz, hln, w1⟩
    obtain ⟨Sx, hS⟩ := Deep.choose_lt key
    have hL : ((List.range len').map Sx).length = len' := by simp
    have hmem : ∀ x ∈ (List.range len').map Sx, ∃ i, i < len' ∧ x = Sx i := by
      intro x hx
      obtain ⟨i, hi2, rfl⟩ := List.mem_map.1 hx
      exact ⟨i, List.mem_range.1 hi2, rfl⟩
    refine ⟨strip ((List.range len').map Sx), ⟨_, rfl, ?_, ?_⟩, ?_, by rw [strip_length, hL, ← hmx]; exact Nat.le_trans hl hm⟩
    · rw [hcs']
      refine ⟨some a, cap', by rw [hL], by rw [hL]; exact hl, ?_⟩
      by_cases h00 : len' = 0
      · left; subst h00; simp
      · right
        obtain ⟨b, off, spot⟩ := a
        have q1 := (hS 0 (by omega)).1
        have hs : spot = none := by simpa [Addr.add] using World.cell?_spot q1
        subst hs
        refine ⟨b, off, rfl, fun j hj => ?_⟩
        rw [hL] at hj
        have hj2 : j / 2 < len' := by omega
        have q2 := hS (j / 2) (by omega)
        have hn : nth ((List.range len').map Sx) (j / 2) = Sx (j / 2) := by rw [nth_eq (by rw [hL]; exact hj2)]; simp
        have hfl := flat_at szE ((List.range len').map Sx) (j / 2) (j % 2) (by rw [hL]; exact hj2) (Nat.mod_lt _ (by decide))
        rw [hn, show j / 2 * 2 + j % 2 = j by omega] at hfl
        rcases Nat.mod_two_eq_zero_or_one j with hm0 | hm0
        · rw [hm0] at hfl
          refine ⟨_, hfl, ?_⟩
          have := q2.1
          rw [Go.WideShapes.add_plain, show j / 2 * 2 = j by omega] at this
          exact this
        · rw [hm0] at hfl
          refine ⟨_, hfl, ?_⟩
          have := q2.2.1
          rw [Go.WideShapes.add_plain, show j / 2 * 2 + 1 = j by omega] at this
          exact this
    · intro x hx
      obtain ⟨i, hi2, rfl⟩ := hmem x hx
      exact (hS i (by omega)).2.2.1
    · intro t ht
      obtain ⟨x, hx, rfl⟩ := List.mem_map.1 ht
      obtain ⟨i, hi2, rfl⟩ := hmem x hx
      have := hS i (by omega)
      exact ⟨this.2.2.2.2.1, this.2.2.2.1, this.2.2.2.2.2⟩
end Go.Proofs.Ytcidfmmeonhkhaa.Row.Ring
/- Contracts of ValidPart and ValidName, the program's and the reference model's: a part is right where its size is 1 to 8 and each byte is a small letter, a digit or a minus; a name where each part is and there are at most 6. No conditions but that lengths fit. -/
namespace Go.Proofs.Ytcidfmmeonhkhaa.Row
open Go.ChangeShapes Go.WideShapes Go.ChangeAt Go.RowKit Go.Instr
set_option linter.unusedVariables false
set_option maxRecDepth 100000

def okR (r : Int) : Prop := (97 ≤ r ∧ r ≤ 122) ∨ (48 ≤ r ∧ r ≤ 57) ∨ r = 45
instance (r : Int) : Decidable (okR r) := by unfold okR; infer_instance
def okTo (s : ByteArray) (k : Nat) : Prop := ∀ j (h : j < s.size), j < k → okR ((s[j]'h).toNat : Int)
instance (s : ByteArray) (k : Nat) : Decidable (okTo s k) := by unfold okTo; infer_instance
def validP (s : ByteArray) : Bool := decide (1 ≤ s.size ∧ s.size ≤ 8 ∧ okTo s s.size)
theorem okTo_zero (s : ByteArray) : okTo s 0 := fun j h h2 => absurd h2 (by omega)
theorem okTo_succ {s : ByteArray} {k : Nat} (h : okTo s k) (hk : k < s.size) (hc : okR ((s[k]'hk).toNat : Int)) : okTo s (k + 1) := fun j h1 h2 => by
  by_cases e : j = k
  · subst e; exact hc
  · exact h j h1 (by omega)
theorem validP_true {s : ByteArray} (h1 : 1 ≤ s.size) (h2 : s.size ≤ 8) (h : okTo s s.size) : validP s = true := by simp [validP, h1, h2, h]
theorem validP_size {s : ByteArray} (h : ¬ (1 ≤ s.size ∧ s.size ≤ 8)) : validP s = false := by
  unfold validP; exact decide_eq_false (fun e => h ⟨e.1, e.2.1⟩)
theorem validP_byte {s : ByteArray} {k : Nat} (hk : k < s.size) (hc : ¬ okR ((s[k]'hk).toNat : Int)) : validP s = false := by
  unfold validP; exact decide_eq_false (fun e => hc (e.2.2 k hk hk))
theorem rune_ok {s : ByteArray} {pos : Nat} (h : pos < s.size) (hr : okR ((Utf8.decode s pos).1 : Int)) : okR ((s[pos]'h).toNat : Int) ∧ (Utf8.decode s pos).2 = 1 := by
  by_cases ha : (s[pos]'h).toNat < 128
  · rw [decode_ascii s pos h ha] at hr ⊢
    exact ⟨hr, rfl⟩
  · have := (decode_high s pos h (by omega)).1
    unfold okR at hr; omega
theorem rune_not {s : ByteArray} {pos : Nat} (h : pos < s.size) (hr : ¬ okR ((Utf8.decode s pos).1 : Int)) : ¬ okR ((s[pos]'h).toNat : Int) := by
  by_cases ha : (s[pos]'h).toNat < 128
  · rwa [decode_ascii s pos h ha] at hr
  · unfold okR; omega

set_option maxHeartbeats 1000000 in
theorem isPartRune (r : Int) (w : World) : Calls Try.prog 144 #[.int .i32 r] w fun e w' => e = .returned (.bool (decide (okR r))) ∧ w = w' := by
  have HT := fun (h : okR r) => (decide_eq_true h).symm
  have HF := fun (h : ¬ okR r) => (decide_eq_false h).symm
  have HT := Lib.hid HT; have HF := Lib.hid HF
  by_cases h1 : 97 ≤ r ∧ r ≤ 122
  · obtain ⟨h1a, h1b⟩ := h1
    go_enter Try.func144, Try.ntmps144
    go_wp2
    go_ret
    exact ⟨ret_bool (HT.out (by unfold okR; omega)), rfl⟩
  · by_cases h2 : 48 ≤ r ∧ r ≤ 57
    · obtain ⟨h2a, h2b⟩ := h2
      have h1a : ¬ 97 ≤ r := by omega
      go_enter Try.func144, Try.ntmps144
      go_wp2
      go_ret
      exact ⟨ret_bool (HT.out (by unfold okR; omega)), rfl⟩
    · by_cases h3 : r = 45
      · subst h3
        go_enter Try.func144, Try.ntmps144
        go_wp2
        go_ret
        exact ⟨ret_bool (HT.out (by unfold okR; omega)), rfl⟩
      · have HF2 := Lib.hid (HF.out (by unfold okR; omega))
        have h3b : (r == 45) = false := by simpa using h3
        clear h3 HF HT
        by_cases h1a : 97 ≤ r
        · have h1b : ¬ r ≤ 122 := by omega
          have h2b : ¬ r ≤ 57 := by omega
          clear h1 h2
          go_enter Try.func144, Try.ntmps144
          go_wp2
          go_ret
          exact ⟨ret_bool HF2.out, rfl⟩
        · clear h1
          by_cases h2a : 48 ≤ r
          · have h2b : ¬ r ≤ 57 := by omega
            clear h2
            go_enter Try.func144, Try.ntmps144
            go_wp2
            go_ret
            exact ⟨ret_bool HF2.out, rfl⟩
          · clear h2
            go_enter Try.func144, Try.ntmps144
            go_wp2
            go_ret
            exact ⟨ret_bool HF2.out, rfl⟩

set_option maxHeartbeats 1000000 in
theorem implValidPart (s : ByteArray) (w : World) (hl : s.size ≤ 140737488351232) :
    Calls Try.prog 131 #[.string s] w fun e w' => e = .returned (.bool (validP s)) ∧ Below w.heap.size w w' := by
  go_enter Try.func131, Try.ntmps131
  go_wp2
  go_loopw [] (fun w' => ∃ pos : Nat, pos ≤ s.size ∧ w' = w.iter s pos ∧ Hid (okTo s pos)) (fun w' => s.size - w'.iterPos w.heap.size)
  case atStart => exact ⟨0, by omega, rfl, Lib.hid (okTo_zero s)⟩
  case round =>
    obtain ⟨pos, hpl, rfl, ho⟩ := hrel
    by_cases hp : pos < s.size
    · have hnx : ∀ ty, (Instr.next (.pointer (some ⟨w.heap.size, 0, none⟩)) true ty).run Try.prog (w.iter s pos) = _ := fun ty => run_next_any w s pos ty hp
      by_cases hr : okR ((Utf8.decode s pos).1 : Int)
      · obtain ⟨h1, h2⟩ := rune_ok hp hr
        have HO := Lib.hid (okTo_succ ho.out hp h1)
        have HR := Lib.hid (decide_eq_true hr)
        rw [h2] at hnx
        clear hr h1 h2
        go_wp2_with fail
        refine (isPartRune _ _).mono ?_
        rintro e w2 ⟨rfl, rfl⟩
        rw [HR.out]
        go_wp2
        go_roundw
        case rel => exact ⟨pos + 1, by omega, rfl, HO⟩
        case measure => simp; omega
      · have HV := Lib.hid (validP_byte hp (rune_not hp hr))
        have HR := Lib.hid (decide_eq_false hr)
        clear hr
        go_wp2_with fail
        refine (isPartRune _ _).mono ?_
        rintro e w2 ⟨rfl, rfl⟩
        rw [HR.out]
        go_wp2
        go_ret
        exact ⟨ret_bool HV.out.symm, (Below.refl _ _).alloc (Nat.le_refl _) _⟩
    · obtain rfl : pos = s.size := by omega
      have hnx : ∀ ty, (Instr.next (.pointer (some ⟨w.heap.size, 0, none⟩)) true ty).run Try.prog (w.iter s s.size) = _ := fun ty => run_next_end w s s.size ty hp
      go_wp2_with fail
      refine (Num.implInRange _ _ _ _).mono ?_
      rintro e w2 ⟨rfl, rfl⟩
      go_wp2
      go_ret
      refine ⟨ret_bool ?_, (Below.refl _ _).alloc (Nat.le_refl _) _⟩
      have := ho.out
      simp only [Num.inB, validP, this, and_true]
      congr 1
      apply propext
      omega

set_option maxHeartbeats 1000000 in
theorem specValidPart (s : ByteArray) (w : World) (hl : s.size ≤ 140737488351232) :
    Calls Try.prog 113 #[.string s] w fun e w' => e = .returned (.bool (validP s)) ∧ w = w' := by
  by_cases hsz : 1 ≤ s.size ∧ s.size ≤ 8
  · obtain ⟨hs1, hs8⟩ := hsz
    go_enter Try.func113, Try.ntmps113
    go_wp2_with fail
    refine (Num.specIn_true (by omega) (by omega) _).mono ?_
    rintro e w2 ⟨rfl, rfl⟩
    go_wp2
    go_loop [3] (fun iv => ∃ k : Nat, k ≤ s.size ∧ iv = .int .i64 k ∧ Hid (okTo s k)) (fun iv => s.size - (intOf iv).toNat)
    case atStart => exact ⟨0, by omega, rfl, Lib.hid (okTo_zero s)⟩
    case round =>
      obtain ⟨k, hk, rfl, ho⟩ := hrel
      by_cases hlt : k < s.size
      · have hb := (s[k]'hlt).toNat_lt
        have hb0 : (0 : Int) ≤ ((s[k]'hlt).toNat : Int) := by omega
        have hb1 : ((s[k]'hlt).toNat : Int) ≤ 255 := by omega
        have HOK := Lib.hid (fun hc => okTo_succ ho.out hlt hc)
        have HNO := Lib.hid (fun hc => validP_byte hlt hc)
        clear hb
        go_wp2_with fail
        by_cases h1 : 97 ≤ ((s[k]'hlt).toNat : Int) ∧ ((s[k]'hlt).toNat : Int) ≤ 122
        · refine (Num.specIn_true h1.1 h1.2 _).mono ?_
          rintro e w2 ⟨rfl, rfl⟩
          have HO2 := Lib.hid (HOK.out (by unfold okR; omega))
          clear HOK HNO h1
          go_wp2
          go_round
          case rel => exact ⟨k + 1, by omega, by go_num, HO2⟩
          case measure => simp [intOf]; omega
        · refine (Num.specIn_false h1 _).mono ?_
          rintro e w2 ⟨rfl, rfl⟩
          go_wp2_with fail
          by_cases h2 : 48 ≤ ((s[k]'hlt).toNat : Int) ∧ ((s[k]'hlt).toNat : Int) ≤ 57
          · refine (Num.specIn_true h2.1 h2.2 _).mono ?_
            rintro e w2 ⟨rfl, rfl⟩
            have HO2 := Lib.hid (HOK.out (by unfold okR; omega))
            clear HOK HNO h1 h2
            go_wp2
            go_round
            case rel => exact ⟨k + 1, by omega, by go_num, HO2⟩
            case measure => simp [intOf]; omega
          · refine (Num.specIn_false h2 _).mono ?_
            rintro e w2 ⟨rfl, rfl⟩
            by_cases h3 : (s[k]'hlt).toNat = 45
            · have h3b : (((s[k]'hlt).toNat : Int) != 45) = false := by simp [h3]
              have HO2 := Lib.hid (HOK.out (by unfold okR; omega))
              clear HOK HNO h1 h2
              go_wp2
              go_round
              case rel => exact ⟨k + 1, by omega, by go_num, HO2⟩
              case measure => simp [intOf]; omega
            · have h3b : (((s[k]'hlt).toNat : Int) != 45) = true := by simp; omega
              have HV := Lib.hid (HNO.out (by unfold okR; omega))
              clear HOK HNO h1 h2 h3
              go_wp2
              go_ret
              exact ⟨ret_bool HV.out.symm, rfl⟩
      · obtain rfl : k = s.size := by omega
        have HV := Lib.hid (validP_true hs1 hs8 ho.out)
        go_wp2
        go_ret
        exact ⟨ret_bool HV.out.symm, rfl⟩
  · have HV := Lib.hid (validP_size hsz)
    go_enter Try.func113, Try.ntmps113
    go_wp2_with fail
    refine (Num.specIn_false (by omega) _).mono ?_
    rintro e w2 ⟨rfl, rfl⟩
    go_wp2
    go_ret
    exact ⟨ret_bool HV.out.symm, rfl⟩

end Go.Proofs.Ytcidfmmeonhkhaa.Row
/- Contracts of ValidName, the program's and the reference model's: a name is right where each part is and there are at most 6. No conditions but that lengths fit. -/
namespace Go.Proofs.Ytcidfmmeonhkhaa.Row
open Go.ChangeShapes Go.WideShapes Go.ChangeAt Go.RowKit Go.Instr
set_option linter.unusedVariables false
set_option maxRecDepth 100000

def validN (l : List ByteArray) : Bool := decide (l.length ≤ 6 ∧ ∀ x ∈ l, validP x = true)
def allV (l : List ByteArray) (k : Nat) : Prop := ∀ j, j < k → validP (nth l j) = true
theorem allV_zero (l : List ByteArray) : allV l 0 := fun j h => absurd h (by omega)
theorem allV_succ {l : List ByteArray} {k : Nat} (h : allV l k) (hc : validP (nth l k) = true) : allV l (k + 1) := fun j h1 => by
  by_cases e : j = k
  · subst e; exact hc
  · exact h j (by omega)
theorem validN_not {l : List ByteArray} {k : Nat} (hk : k < l.length) (hc : validP (nth l k) = false) : validN l = false := by
  unfold validN
  refine decide_eq_false (fun e => ?_)
  have := e.2 (nth l k) (by rw [nth_eq hk]; exact List.getElem_mem _)
  rw [hc] at this; cases this
theorem validN_all {l : List ByteArray} (h : allV l l.length) : validN l = decide (l.length ≤ 6) := by
  have : ∀ x ∈ l, validP x = true := by
    intro x hx
    obtain ⟨j, hj, rfl⟩ := List.getElem_of_mem hx
    have := h j hj
    rwa [nth_eq hj] at this
  unfold validN
  congr 1
  exact propext ⟨fun e => e.1, fun e => ⟨e, this⟩⟩
theorem size_nth {l : List ByteArray} {m : Nat} (h : bulk l ≤ m) {k : Nat} (hk : k < l.length) : (nth l k).size ≤ m := by
  have h1 := bulkTo_succ l hk
  have h2 := bulkTo_le l (k + 1)
  omega

set_option maxHeartbeats 1000000 in
theorem implValidName (v : Value) (l : List ByteArray) (w : World) (h : Holds Value.string w v l) (hl : bulk l ≤ 100000000) :
    Calls Try.prog 119 #[.agg #[v]] w fun e w' => e = .returned (.bool (validN l)) ∧ Below w.heap.size w w' := by
  obtain ⟨x, cap, rfl, hcap, hh⟩ := h.shape
  have hll := bigLen hl
  have HS := Lib.hid (fun k (hk : k < l.length) => size_nth hl hk)
  obtain ⟨n, hn⟩ : ∃ n, n = l.length := ⟨_, rfl⟩
  rw [← hn] at hcap hh hll ⊢
  have HN := Lib.hid hn
  have HH := Lib.hid hh
  have HB0 := Lib.hid ((Below.refl w.heap.size w).alloc (Nat.le_refl _) (.cells #[.slice x n cap] 47))
  have HC0 := Lib.hid (Ret.cell_at (w := w) (u := .slice x n cap) (t := 47) (n := w.heap.size) rfl)
  clear hn h hh hl
  go_enter Try.func119, Try.ntmps119
  go_wp2_with fail
  go_loopw [8] (fun i wr => ∃ k : Nat, k ≤ n ∧ i = .int .i64 k ∧ Hid (allV l k) ∧ Hid (Below w.heap.size w wr) ∧ Hid (wr.cell? ⟨w.heap.size, 0, none⟩ = some (.slice x n cap))) (fun i _ => n - (intOf i).toNat)
  case atStart => exact ⟨0, Nat.zero_le _, rfl, Lib.hid (allV_zero _), HB0, HC0⟩
  case round =>
    obtain ⟨k, hk, rfl, ha, hb, hc0⟩ := hrel
    by_cases hlt : k < n
    · have hlen := HN.out
      obtain ⟨b, off, rfl, hc⟩ := (HH.out.on hb.out).at (j := k) (by omega)
      have hsz := HS.out k (by omega)
      clear hlen
      go_wp2_with fail
      refine (implValidPart _ _ (by omega)).mono ?_
      rintro e w2 ⟨rfl, hb2⟩
      have HB2 := Lib.hid (hb.out.trans (hb2.mono hb.out.size))
      have HC2 := Lib.hid ((hb2.cell (cell_lt hc0.out)).trans hc0.out)
      clear hb2 hc
      by_cases hv : validP (nth l k) = true
      · rw [hv]
        have HA2 := Lib.hid (allV_succ ha.out hv)
        clear hv
        go_wp2
        go_roundw
        case rel => exact ⟨k + 1, by omega, by go_num, HA2, HB2, HC2⟩
        case measure => simp [intOf]; omega
      · have hv2 : validP (nth l k) = false := by simpa using hv
        rw [hv2]
        have HV := Lib.hid (validN_not (by have := HN.out; omega) hv2)
        clear hv hv2
        go_wp2
        go_ret
        exact ⟨ret_bool HV.out.symm, HB2.out⟩
    · obtain rfl : k = n := by omega
      have HV := Lib.hid (validN_all (HN.out ▸ ha.out))
      have hc0 := hc0.out
      clear hlt
      go_wp2
      go_ret
      refine ⟨ret_bool ?_, hb.out⟩
      rw [HV.out, ← HN.out]
      simp
      omega

set_option maxHeartbeats 1000000 in
theorem specValidName (v : Value) (l : List ByteArray) (w : World) (h : Holds Value.string w v l) (hl : bulk l ≤ 100000000) :
    Calls Try.prog 82 #[.agg #[v]] w fun e w' => e = .returned (.bool (validN l)) ∧ Below w.heap.size w w' := by
  obtain ⟨x, cap, rfl, hcap, hh⟩ := h.shape
  have hll := bigLen hl
  have HS := Lib.hid (fun k (hk : k < l.length) => size_nth hl hk)
  obtain ⟨n, hn⟩ : ∃ n, n = l.length := ⟨_, rfl⟩
  rw [← hn] at hcap hh hll ⊢
  have HN := Lib.hid hn
  have HH := Lib.hid hh
  have HB0 := Lib.hid ((Below.refl w.heap.size w).alloc (Nat.le_refl _) (.cells #[.slice x n cap] 47))
  have HC0 := Lib.hid (Ret.cell_at (w := w) (u := .slice x n cap) (t := 47) (n := w.heap.size) rfl)
  clear hn h hh hl
  go_enter Try.func82, Try.ntmps82
  go_wp2_with fail
  go_loopw [3] (fun i wr => ∃ k : Nat, k ≤ n ∧ i = .int .i64 k ∧ Hid (allV l k) ∧ Hid (Below w.heap.size w wr) ∧ Hid (wr.cell? ⟨w.heap.size, 0, none⟩ = some (.slice x n cap))) (fun i _ => n - (intOf i).toNat)
  case atStart => exact ⟨0, Nat.zero_le _, rfl, Lib.hid (allV_zero _), HB0, HC0⟩
  case round =>
    obtain ⟨k, hk, rfl, ha, hb, hc0⟩ := hrel
    by_cases hlt : k < n
    · have hlen := HN.out
      obtain ⟨b, off, rfl, hc⟩ := (HH.out.on hb.out).at (j := k) (by omega)
      have hsz := HS.out k (by omega)
      have hc1 := hc0.out
      clear hlen
      go_wp2_with fail
      refine (specValidPart _ _ (by omega)).mono ?_
      rintro e w2 ⟨rfl, rfl⟩
      clear hc
      by_cases hv : validP (nth l k) = true
      · rw [hv]
        have HA2 := Lib.hid (allV_succ ha.out hv)
        clear hv
        go_wp2
        go_roundw
        case rel => exact ⟨k + 1, by omega, by go_num, HA2, hb, hc0⟩
        case measure => simp [intOf]; omega
      · have hv2 : validP (nth l k) = false := by simpa using hv
        rw [hv2]
        have HV := Lib.hid (validN_not (by have := HN.out; omega) hv2)
        clear hv hv2
        go_wp2
        go_ret
        exact ⟨ret_bool HV.out.symm, hb.out⟩
    · obtain rfl : k = n := by omega
      have HV := Lib.hid (validN_all (HN.out ▸ ha.out))
      have hc0 := hc0.out
      clear hlt
      go_wp2
      go_ret
      refine ⟨ret_bool ?_, hb.out⟩
      rw [HV.out, ← HN.out]
      simp
      omega

end Go.Proofs.Ytcidfmmeonhkhaa.Row
/- Contracts of AppendPart, the program's and the reference model's. No conditions but that lengths fit. -/
namespace Go.Proofs.Ytcidfmmeonhkhaa.Row
open Go.ChangeShapes Go.WideShapes Go.ChangeAt Go.RowKit Go.Instr
set_option linter.unusedVariables false
set_option maxRecDepth 100000

theorem bulk_append (l m : List ByteArray) : bulk (l ++ m) = bulk l + bulk m := by
  unfold bulk bulkTo
  rw [List.take_length, List.take_length, List.take_length, List.map_append, List.sum_append, List.length_append]
  omega
theorem bulk_one (s : ByteArray) : bulk [s] = 1 + s.size := by simp [bulk, bulkTo]
theorem bulk_cons (x : ByteArray) (l : List ByteArray) : bulk (x :: l) = 1 + x.size + bulk l := by
  have := bulk_append [x] l
  rw [bulk_one] at this
  exact this
def appN (l : List ByteArray) (s : ByteArray) : List ByteArray := if validN (l ++ [s]) = true then l ++ [s] else l
def vs2 (a b : Value) (j : Nat) : Value := if j = 0 then a else b
def ls2 (a b : List ByteArray) (j : Nat) : List ByteArray := if j = 0 then a else b
end Go.Proofs.Ytcidfmmeonhkhaa.Row
/- The names' contracts with their answers as letters. No conditions but that lengths fit. -/
namespace Go.Proofs.Ytcidfmmeonhkhaa.Row.Ring
open Go.ChangeShapes Go.WideShapes Go.ChangeAt Go.RowKit Go.Instr
set_option linter.unusedVariables false
set_option maxRecDepth 100000
section
variable {v u : Value} {l m : List ByteArray} {w : World}
theorem sEqV (b : Bool) (hb : eqB l m = b) (h : Holds Value.string w v l) (g : Holds Value.string w u m) (hl : l.length ≤ 9000000) (hm : m.length ≤ 9000000) :
    Calls Try.prog 65 #[.agg #[v], .agg #[u]] w fun e w' => e = .returned (.bool b) ∧ Below w.heap.size w w' := hb ▸ specEqualNames _ _ l m _ h g (by omega) (by omega)
theorem sValV (b : Bool) (hb : validN l = b) (h : Holds Value.string w v l) (hl : bulk l ≤ 9000000) :
    Calls Try.prog 82 #[.agg #[v]] w fun e w' => e = .returned (.bool b) ∧ Below w.heap.size w w' := hb ▸ specValidName _ l _ h (by omega)
end
end Go.Proofs.Ytcidfmmeonhkhaa.Row.Ring
/- Contract of the program's copy of a name. No conditions but that lengths fit. -/
namespace Go.Proofs.Ytcidfmmeonhkhaa.Row
open Go.ChangeShapes Go.WideShapes Go.ChangeAt Go.RowKit Go.Instr
set_option linter.unusedVariables false
set_option maxRecDepth 100000

end Go.Proofs.Ytcidfmmeonhkhaa.Row
/- Contracts of the copies of lists of keys, the program's and the model's. No conditions but that lengths fit. -/
namespace Go.Proofs.Ytcidfmmeonhkhaa.Row.Ring
open Go.ChangeShapes Go.WideShapes Go.ChangeAt Go.RowKit Go.Instr
set_option linter.unusedVariables false
set_option maxRecDepth 100000

/-- A result that is a table of the call's own. -/
def GivesT (w : World) (T : List (List ByteArray × Int)) (e : Ending) (w' : World) : Prop := ∃ v, e = .returned v ∧ TabOwn w.heap.size w' v T ∧ Below w.heap.size w w'
end Go.Proofs.Ytcidfmmeonhkhaa.Row.Ring
/- Contracts of the model's search for a key. No conditions but that lengths fit. -/
namespace Go.Proofs.Ytcidfmmeonhkhaa.Row.Ring
open Go.ChangeShapes Go.WideShapes Go.ChangeAt Go.RowKit Go.Instr
set_option linter.unusedVariables false
set_option maxRecDepth 100000

/-- The place of the first entry of which p is true; -1 if there is none. -/
def ixT (p : List ByteArray × Int → Bool) (T : List (List ByteArray × Int)) : Int := if T.findIdx p < T.length then (T.findIdx p : Int) else -1
def noP (p : List ByteArray × Int → Bool) (T : List (List ByteArray × Int)) (i : Nat) : Prop := ∀ j, j < i → p (nth T j) = false
section
variable {p : List ByteArray × Int → Bool} {T : List (List ByteArray × Int)} {i : Nat}
theorem noP_zero (p : List ByteArray × Int → Bool) (T : List (List ByteArray × Int)) : noP p T 0 := fun j h => absurd h (by omega)
theorem noP_succ (h : noP p T i) (hc : p (nth T i) = false) : noP p T (i + 1) := fun j h1 => by
  by_cases e : j = i
  · subst e; exact hc
  · exact h j (by omega)
theorem fp_at (hi : i < T.length) (h : noP p T i) (hc : p (nth T i) = true) : T.findIdx p = i := by
  rw [List.findIdx_eq hi]
  exact ⟨by rw [← nth_eq hi]; exact hc, fun j hj => by rw [← nth_eq (Nat.lt_trans hj hi)]; exact h j hj⟩
theorem fp_none (h : noP p T T.length) : T.findIdx p = T.length := by
  rw [List.findIdx_eq_length]
  intro x hx
  obtain ⟨j, hj, rfl⟩ := List.getElem_of_mem hx
  rw [← nth_eq hj]; exact h j hj
theorem ixT_at (hi : i < T.length) (h : noP p T i) (hc : p (nth T i) = true) : ixT p T = i := by
  unfold ixT; rw [fp_at hi h hc, if_pos hi]
theorem ixT_none (h : noP p T T.length) : ixT p T = -1 := by
  unfold ixT; rw [fp_none h, if_neg (by omega)]
/-- There is none, or there is a place. -/
theorem ixT_cases (p : List ByteArray × Int → Bool) (T : List (List ByteArray × Int)) : (ixT p T = -1 ∧ T.findIdx p = T.length ∧ noP p T T.length) ∨ ∃ i, i < T.length ∧ ixT p T = (i : Int) ∧ T.findIdx p = i ∧ p (nth T i) = true ∧ noP p T i := by
  by_cases h : T.findIdx p < T.length
  · refine Or.inr ⟨T.findIdx p, h, by unfold ixT; rw [if_pos h], rfl, ?_, ?_⟩
    · rw [nth_eq h]; exact List.findIdx_getElem
    · intro j hj
      rw [nth_eq (Nat.lt_trans hj h)]
      have := List.not_of_lt_findIdx hj
      simpa using this
  · have e : T.findIdx p = T.length := Nat.le_antisymm List.findIdx_le_length (by omega)
    refine Or.inl ⟨by unfold ixT; rw [if_neg h], e, fun j hj => ?_⟩
    rw [nth_eq hj]
    have := List.not_of_lt_findIdx (p := p) (xs := T) (i := j) (by omega)
    simpa using this
end
/-- The entry has this name. -/
def isN (n : List ByteArray) (x : List ByteArray × Int) : Bool := eqB x.1 n
def lkN (T : List (List ByteArray × Int)) (n : List ByteArray) : Int := if T.findIdx (isN n) < T.length then (nth T (T.findIdx (isN n))).2 else 0
set_option maxHeartbeats 2000000 in
theorem l9Find (v u : Value) (T : List (List ByteArray × Int)) (m : List ByteArray) (w : World) (h : TabHolds w v T) (g : Holds Value.string w u m) (hl : T.length ≤ 100000000) (hT : smT T) (hm : m.length ≤ 9000000) :
    Calls Try.prog 40 #[v, .agg #[u]] w fun e w' => e = .returned (.int .i64 (ixT (isN m) T)) ∧ Below w.heap.size w w' := by
  obtain ⟨L, rfl, h⟩ := h
  obtain ⟨x, n, cx, rfl, hn, hcx, hh⟩ := h.shapeN
  obtain ⟨y, q, cy, rfl, -, hcy, hg⟩ := g.shapeN
  rw [strip_length, ← hn] at hl
  have HB0 := Lib.hid ((Below.refl w.heap.size w).alloc (Nat.le_refl _) (.cells #[.slice y q cy] 47))
  have HC0 := Lib.hid (Ret.Box.new w (.slice y q cy) 47)
  have HN := Lib.hid hn
  have HH := Lib.hid (hh.on HB0.out)
  have HG := Lib.hid (hg.on HB0.out)
  have HT := Lib.hid hT
  clear hn h hh hT g hg
  go_enter Try.func40, Try.ntmps40
  go_wp2
  go_loopw [5] (fun i wr => ∃ k : Nat, k ≤ n ∧ i = .int .i64 k ∧ Hid (noP (isN m) (strip L) k) ∧ Hid (Below (w.alloc (.cells #[.slice y q cy] 47)).heap.size (w.alloc (.cells #[.slice y q cy] 47)) wr)) (fun i _ => n - (intOf i).toNat)
  case atStart => exact ⟨0, Nat.zero_le _, rfl, Lib.hid (noP_zero _ _), Lib.hid (Below.refl _ _)⟩
  case round =>
    obtain ⟨k, hk, rfl, ha, hb⟩ := hrel
    by_cases hlt : k < n
    · have hlen := HN.out
      obtain ⟨b, off, rfl, hc, hd, hnm⟩ := (HH.out.on hb.out).at (k := k) (by omega)
      have HL := Lib.hid (smT_psl HT.out (k := k) (by omega))
      have HE := Lib.hid (strip_nth (L := L) (k := k) (by omega))
      have hc0 := (HC0.out.on hb.out).cell
      have HNM := Lib.hid (hnm.on (Below.refl wr.heap.size wr).drew)
      have HGM := Lib.hid ((HG.out.on hb.out).on (Below.refl wr.heap.size wr).drew)
      have hk0 : (0 : Int) ≤ (k : Int) := by omega
      have hk1 : (k : Int) < (n : Int) := by omega
      have KS := Lib.hid (show wr.drew.cell? ⟨b, off + k * 2, none⟩ = some (.slice (nth L k).ad (nth L k).n (nth L k).cap) ∧ wr.drew.cell? ⟨w.heap.size, 0, none⟩ = some (.slice y q cy) ∧ Below (w.alloc (.cells #[.slice y q cy] 47)).heap.size (w.alloc (.cells #[.slice y q cy] 47)) wr.drew from ⟨hc, hc0, hb.out.drew⟩)
      by_cases he : isN m (nth L k).t = true
      · have HEQ := Lib.hid (show eqB (nth L k).ps m = true from he)
        have HA := Lib.hid (ixT_at (T := strip L) (by rw [strip_length]; omega) ha.out (by rw [HE.out]; exact he))
        clear hlen he hnm hc hd hc0
        go_wp2_with fail
        go_region_held3 (fun w' => w'.cell? ⟨b, off + k * 2, none⟩ = some (.slice (nth L k).ad (nth L k).n (nth L k).cap) ∧ w'.cell? ⟨w.heap.size, 0, none⟩ = some (.slice y q cy) ∧ Below (w.alloc (.cells #[.slice y q cy] 47)).heap.size (w.alloc (.cells #[.slice y q cy] 47)) w') (first | exact KS.out | exact keepN2 KS.out hb1) ((go_at_call 65; refine (sEqV true HEQ.out HNM.out HGM.out HL.out hm).mono ?_; rintro e w1 ⟨rfl, hb1⟩))
        all_goals
          have HB3 := Lib.hid (keepN2 KS.out hb1).2.2
          clear hb1
          go_wp2_with fail
          go_ret
          exact ⟨ret_int HA.out.symm, HB0.out.trans (HB3.out.mono (by simp))⟩
      · have he : isN m (nth L k).t = false := by simpa using he
        have HEQ := Lib.hid (show eqB (nth L k).ps m = false from he)
        have HA := Lib.hid (noP_succ ha.out (by rw [HE.out]; exact he))
        clear hlen he hnm hc hd hc0
        go_wp2_with fail
        go_region_held3 (fun w' => w'.cell? ⟨b, off + k * 2, none⟩ = some (.slice (nth L k).ad (nth L k).n (nth L k).cap) ∧ w'.cell? ⟨w.heap.size, 0, none⟩ = some (.slice y q cy) ∧ Below (w.alloc (.cells #[.slice y q cy] 47)).heap.size (w.alloc (.cells #[.slice y q cy] 47)) w') (first | exact KS.out | exact keepN2 KS.out hb1) ((go_at_call 65; refine (sEqV false HEQ.out HNM.out HGM.out HL.out hm).mono ?_; rintro e w1 ⟨rfl, hb1⟩))
        all_goals
          have HB3 := Lib.hid (keepN2 KS.out hb1).2.2
          clear hb1
          go_wp2_with fail
          go_roundw
          case rel => exact ⟨k + 1, by omega, by go_num, HA, HB3⟩
          case measure => simp [intOf]; omega
    · obtain rfl : k = n := by omega
      have HV := Lib.hid (ixT_none (T := strip L) (p := isN m) (by rw [strip_length, ← HN.out]; exact ha.out))
      clear hlt
      go_wp2
      go_ret
      exact ⟨ret_int HV.out.symm, HB0.out.trans (hb.out.mono (by simp))⟩

end Go.Proofs.Ytcidfmmeonhkhaa.Row.Ring
/- Contracts of the helpers by which the laws measure, copy, compare, mark and look at interests (a name and three numbers). No conditions but that lengths fit. -/
namespace Go.Proofs.Ytcidfmmeonhkhaa.Row
open Go.ChangeShapes Go.WideShapes Go.ChangeAt Go.RowKit Go.Instr
set_option linter.unusedVariables false
set_option maxRecDepth 100000

/-- An interest's cells. -/
abbrev wc (v : Value) (a b c : Int) : Array Value := #[v, .int .i64 a, .int .i64 b, .int .i64 c]
end Go.Proofs.Ytcidfmmeonhkhaa.Row
/- What calls leave that give a slice of the call's own; lists of bytes. No conditions. -/
namespace Go.Proofs.Ytcidfmmeonhkhaa.Sl
open Go.ChangeShapes Go.WideShapes Go.ChangeAt Go.RowKit Go.Instr
set_option linter.unusedVariables false
set_option maxRecDepth 100000

/-- What a call of a function that returns a slice of the call's own leaves. -/
def GivesB (w : World) (l : List Int) (e : Ending) (w' : World) : Prop := ∃ v, e = .returned v ∧ Own 5 .u8 w.heap.size w' v l ∧ Below w.heap.size w w'
def GivesI (w : World) (l : List Int) (e : Ending) (w' : World) : Prop := ∃ v, e = .returned v ∧ Own 3 .i64 w.heap.size w' v l ∧ Below w.heap.size w w'

/-- Every element is a byte. -/
def Byt (l : List Int) : Prop := ∀ x ∈ l, 0 ≤ x ∧ x ≤ 255
theorem Byt.at {l : List Int} (h : Byt l) {j : Nat} (hj : j < l.length) : 0 ≤ nth l j ∧ nth l j ≤ 255 := by rw [nth_eq hj]; exact h _ (List.getElem_mem hj)
end Go.Proofs.Ytcidfmmeonhkhaa.Sl
/- A string turned into a slice of bytes: where they lie, what they are. No conditions. -/
namespace Go.Proofs.Ytcidfmmeonhkhaa.Sl
open Go.ChangeShapes Go.WideShapes Go.ChangeAt Go.RowKit Go.Instr
set_option linter.unusedVariables false
set_option maxRecDepth 100000

/-- A string's bytes, as numbers. -/
def bytesOf (t : ByteArray) : List Int := t.data.toList.map fun c => (c.toNat : Int)
theorem bytesOf_length (t : ByteArray) : (bytesOf t).length = t.size := by unfold bytesOf; rw [List.length_map, Array.length_toList]; rfl
theorem bytesOf_byt (t : ByteArray) : Byt (bytesOf t) := fun x hx => by
  unfold bytesOf at hx
  obtain ⟨c, _, rfl⟩ := List.mem_map.1 hx
  have := c.toNat_lt
  omega
end Go.Proofs.Ytcidfmmeonhkhaa.Sl
/- Plain mathematics of the base-128 encoding, no program in sight: the encoding's bytes, how they are read back, how long they are. No conditions. -/
namespace Go.Proofs.Ytcidfmmeonhkhaa.Var

/-- The bytes of a number: groups of seven bits, the least one first, 128 added to all but the last. -/
def enc (n : Nat) : List Int := if h : n < 128 then [(n : Int)] else (((n % 128 : Nat) : Int) + 128) :: enc (n / 128)
  termination_by n
  decreasing_by omega

theorem enc_small {n : Nat} (h : n < 128) : enc n = [(n : Int)] := by rw [enc, dif_pos h]
theorem enc_big {n : Nat} (h : ¬ n < 128) : enc n = (((n % 128 : Nat) : Int) + 128) :: enc (n / 128) := by rw [enc, dif_neg h]
theorem enc_len : ∀ (k n : Nat), n < 128 ^ (k + 1) → (enc n).length ≤ k + 1
  | 0, n, h => by rw [enc_small (by simpa using h)]; simp
  | k + 1, n, h => by
    by_cases hn : n < 128
    · rw [enc_small hn]; simp
    · rw [enc_big hn]
      have := enc_len k (n / 128) (by rw [Nat.pow_succ] at h; omega)
      simp; omega
theorem enc_len6 {n : Nat} (h : n ≤ 1000000000000) : (enc n).length ≤ 6 :=
  enc_len 5 n (by have e : (128 : Nat) ^ (5 + 1) = 4398046511104 := by decide
                  omega)
theorem enc_ne (n : Nat) : enc n ≠ [] := by
  rw [enc]; split <;> simp
theorem enc_pos (n : Nat) : 1 ≤ (enc n).length := by
  have := enc_ne n
  cases h : enc n with
  | nil => exact absurd h this
  | cons _ _ => simp
theorem enc_byte : ∀ (n : Nat), ∀ x ∈ enc n, 0 ≤ x ∧ x ≤ 255 := by
  intro n
  induction n using Nat.strongRecOn with
  | ind n ih =>
    intro x hx
    by_cases h : n < 128
    · rw [enc_small h] at hx
      simp only [List.mem_singleton] at hx
      omega
    · rw [enc_big h] at hx
      rcases List.mem_cons.1 hx with h1 | h1
      · omega
      · exact ih (n / 128) (by omega) x h1

/-- What AppendVarint appends. -/
def var (n : Int) : List Int := if 0 ≤ n ∧ n ≤ 1000000000000 then enc n.toNat else []
theorem var_in {n : Int} (h0 : 0 ≤ n) (h1 : n ≤ 1000000000000) : var n = enc n.toNat := by simp [var, h0, h1]
theorem var_out {n : Int} (h : ¬ (0 ≤ n ∧ n ≤ 1000000000000)) : var n = [] := by simp [var, h]
theorem var_len (n : Int) : (var n).length ≤ 6 := by
  unfold var
  split
  · exact enc_len6 (by omega)
  · simp

/-- One step of the encoding, in the integers of the walk. -/
theorem enc_step {n : Int} (h : 128 ≤ n) : enc n.toNat = (n % 128 + 128) :: enc (n / 128).toNat := by
  rw [enc_big (by omega)]
  congr 1
  · omega
  · congr 1; omega
theorem enc_last {n : Int} (h0 : 0 ≤ n) (h : n < 128) : enc n.toNat = [n] := by
  rw [enc_small (by omega)]
  congr 1; omega

/-- Reading: the groups that are left, how many have been read, what they make. -/
def dec : Nat → List Int → Nat → Int → Option (Int × Nat)
  | 0, _, _, _ => none
  | _ + 1, [], _, _ => none
  | f + 1, x :: r, k, n =>
    if x < 128 then (if (x = 0 ∧ 0 < k) ∨ 1000000000000 < n + x * 128 ^ k then none else some (n + x * 128 ^ k, k + 1))
    else dec f r (k + 1) (n + x % 128 * 128 ^ k)

def okAt (l : List Int) (i : Int) : Prop := 0 ≤ i ∧ i ≤ l.length
def res (i : Int) : Option (Int × Nat) → Int × Int × Bool
  | none => (0, 0, false)
  | some (n, c) => (n, i + c, true)
/-- What ReadVarint returns. -/
def readV (l : List Int) (i : Int) : Int × Int × Bool := if 0 ≤ i ∧ i ≤ l.length then res i (dec 6 (l.drop i.toNat) 0 0) else (0, 0, false)

end Go.Proofs.Ytcidfmmeonhkhaa.Var
/- Contracts of AppendVarint, the reference model's and the program's: the slice and behind it the number's groups, in memory of the call's own. No conditions but that lengths fit. -/
namespace Go.Proofs.Ytcidfmmeonhkhaa.Sl
open Go.ChangeShapes Go.WideShapes Go.ChangeAt Go.RowKit Go.Instr
set_option linter.unusedVariables false
set_option maxRecDepth 100000

theorem or128 {n : Int} (h0 : 0 ≤ n) (h1 : n < 128) : bits .or .i64 n 128 = n + 128 := by
  have e : bits .or .i64 n 128 = bits .or .i64 128 n := by
    have hx : ∀ a b : Int, bits .or .i64 a b = IntKind.i64.wrap ((BitVec.ofInt 64 a ||| BitVec.ofInt 64 b).toNat : Int) := fun _ _ => rfl
    rw [hx, hx, BitVec.or_comm]
  rw [e, bits_join .i64 63 (by decide) (fun n a b => IntWalk.i64_in n (by omega)) 7 128 n (by decide) (by decide) (by decide) h0 (by omega) (by omega)]
  omega

set_option maxHeartbeats 1000000 in
theorem specAppendVarint (v : Value) (l : List Int) (n : Int) (w : World) (h : Holds .u8 w v l) (hl : l.length ≤ 100000000) :
    Calls Try.prog 55 #[v, .int .i64 n] w (GivesB w (l ++ Var.var n)) := by
  obtain ⟨x, cap, rfl, hcap, hh⟩ := h.shape
  obtain ⟨m, hm⟩ : ∃ m, m = l.length := ⟨_, rfl⟩
  rw [← hm] at hcap hh hl ⊢
  have HM := Lib.hid hm; clear hm h
  rename Holds .u8 w (.slice x m cap) l => h
  by_cases hn : 0 ≤ n ∧ n ≤ 1000000000000
  · have e1 := Var.var_in hn.1 hn.2
    have HE := Lib.hid e1
    have H := Lib.hid h
    have hin := fun wx => Num.specIn_true hn.1 hn.2 wx
    have HI := Lib.hid hin
    obtain ⟨hn1, hn2⟩ := hn
    clear e1 h hin
    go_enter Try.func55, Try.ntmps55
    go_wp2_with (at_builtin; refine wpList_app (k := .u8) (B := w.heap.size) (l := []) (m := l) rfl _ _ rfl Try.underlying44 elemBYTE rfl rfl rfl (own_empty .u8 _ w) (H.out.on ((Below.refl _ _).alloc (Nat.le_refl _) _)) ?_ (by decide) ?_ ?_)
    · have := HM.out; simp; omega
    · simp
    intro v1 w1 ho hg
    have hb : Below w.heap.size w w1 := ((Below.refl _ _).alloc (Nat.le_refl _) _).grown hg (by simp) (fun k hk => by cases hk; exact Nat.le_refl _)
    have HO := Lib.hid ho; have HB := Lib.hid hb
    clear ho hb hg
    go_wp2_with fail
    refine (HI.out _).mono ?_
    rintro e w' ⟨rfl, rfl⟩
    go_wp2_with fail
    go_loopw [1, 5] (fun nv bv wr => ∃ (y : Int) (p : List Int), nv = .int .i64 y ∧ 0 ≤ y ∧ y ≤ 1000000000000 ∧ Hid (p ++ Var.enc y.toNat = Var.enc n.toNat) ∧ Hid (Own 5 .u8 w.heap.size wr bv (l ++ p)) ∧ Hid (Below w.heap.size w wr)) (fun nv _ _ => (intOf nv).toNat)
    case atStart => exact ⟨n, [], rfl, hn1, hn2, Lib.hid rfl, by rw [List.append_nil]; exact HO, HB⟩
    case round =>
      obtain ⟨y, p, rfl, y0, y1, he, ho, hb⟩ := hrel
      have hpl : p.length ≤ 6 := by
        have e1 := congrArg List.length he.out
        have e2 := Var.enc_len6 (n := n.toNat) (by omega)
        have e3 := Var.enc_pos y.toNat
        simp at e1; omega
      by_cases hlt : 127 < y
      · have a1 := i64_and127 y
        have a2 := or128 (n := y % 128) (by omega) (by omega)
        have HS := Lib.hid (Var.enc_step (n := y) (by omega))
        go_wp2_with (at_builtin; refine wpList_app (k := .u8) (B := w.heap.size) (l := l ++ p) (m := [y % 128 + 128]) rfl _ _ rfl Try.underlying44 elemBYTE rfl rfl rfl (ho.out.on ((Below.refl _ _).alloc (Nat.le_refl _) _)) (holds_one .u8 _ _ _) ?_ (by decide) ?_ ?_)
        · have := HM.out; simp; omega
        · have := hb.out.size; simp; omega
        intro v2 w2 ho2 hg
        have hb2 : Below w.heap.size w w2 := ((hb.out).alloc hb.out.size _).grown hg (by have := hb.out.size; simp; omega) (fun g hk => (ho.out.lt g hk).1)
        have HO2 := Lib.hid ho2; have HB2 := Lib.hid hb2
        clear ho2 hb2 hg a1 a2
        go_wp2_with fail
        go_roundw
        case rel => exact ⟨y / 128, p ++ [y % 128 + 128], rfl, by omega, by omega, Lib.hid (by rw [List.append_assoc, ← he.out, HS.out]; rfl), HO2, HB2⟩
        case measure => simp [intOf]; omega
      · have HS := Lib.hid (Var.enc_last (n := y) (by omega) (by omega))
        go_wp2_with (at_builtin; refine wpList_app (k := .u8) (B := w.heap.size) (l := l ++ p) (m := [y]) rfl _ _ rfl Try.underlying44 elemBYTE rfl rfl rfl (ho.out.on ((Below.refl _ _).alloc (Nat.le_refl _) _)) (holds_one .u8 _ _ _) ?_ (by decide) ?_ ?_)
        · have := HM.out; simp; omega
        · have := hb.out.size; simp; omega
        intro v2 w2 ho2 hg
        have hb2 : Below w.heap.size w w2 := ((hb.out).alloc hb.out.size _).grown hg (by have := hb.out.size; simp; omega) (fun g hk => (ho.out.lt g hk).1)
        have HO2 := Lib.hid ho2; have HB2 := Lib.hid hb2
        clear ho2 hb2 hg
        go_wp2_with fail
        go_ret
        exact ⟨_, rfl, by rw [HE.out, ← he.out, HS.out]; exact HO2.out, HB2.out⟩
  · have e1 := Var.var_out hn
    have HE := Lib.hid e1
    have H := Lib.hid h
    have hin := fun wx => Num.specIn_false hn wx
    have HI := Lib.hid hin
    clear e1 h hin hn
    go_enter Try.func55, Try.ntmps55
    go_wp2_with (at_builtin; refine wpList_app (k := .u8) (B := w.heap.size) (l := []) (m := l) rfl _ _ rfl Try.underlying44 elemBYTE rfl rfl rfl (own_empty .u8 _ w) (H.out.on ((Below.refl _ _).alloc (Nat.le_refl _) _)) ?_ (by decide) ?_ ?_)
    · have := HM.out; simp; omega
    · simp
    intro v1 w1 ho hg
    have hb : Below w.heap.size w w1 := ((Below.refl _ _).alloc (Nat.le_refl _) _).grown hg (by simp) (fun k hk => by cases hk; exact Nat.le_refl _)
    have HO := Lib.hid ho; have HB := Lib.hid hb
    clear ho hb hg
    go_wp2_with fail
    refine (HI.out _).mono ?_
    rintro e w' ⟨rfl, rfl⟩
    go_wp2_with fail
    go_ret
    exact ⟨_, rfl, by rw [HE.out, List.append_nil]; exact HO.out, HB.out⟩

/-- What a call leaves that lengthens a slice: a slice of the call's own, from block B on. -/
def GrowsB (B : Nat) (w : World) (l : List Int) (e : Ending) (w' : World) : Prop := ∃ v, e = .returned v ∧ Own 5 .u8 B w' v l ∧ Below B w w'

set_option maxHeartbeats 1000000 in
theorem addVarint (B : Nat) (v : Value) (l : List Int) (n : Int) (w : World) (h : Fits 5 .u8 B w v l) (hB : B ≤ w.heap.size) (hl : l.length ≤ 100000000) (hn1 : 0 ≤ n) (hn2 : n ≤ 1000000000000) :
    Calls Try.prog 99 #[v, .int .i64 n] w (GrowsB B w (l ++ Var.var n)) := by
  have e1 := Var.var_in hn1 hn2
  have HE := Lib.hid e1
  have H := Lib.hid h
  have hin := fun wx => Num.implIn_true hn1 hn2 wx
  have HI := Lib.hid hin
  clear e1 h hin
  go_enter Try.func99, Try.ntmps99
  go_wp2_with fail
  refine (HI.out _).mono ?_
  rintro e w' ⟨rfl, rfl⟩
  go_wp2_with fail
  go_loopw [0, 1] (fun bv nv wr => ∃ (y : Int) (p : List Int), nv = .int .i64 y ∧ 0 ≤ y ∧ y ≤ 1000000000000 ∧ Hid (p ++ Var.enc y.toNat = Var.enc n.toNat) ∧ Hid (Fits 5 .u8 B wr bv (l ++ p)) ∧ Hid (Below B w wr)) (fun _ nv _ => (intOf nv).toNat)
  case atStart => exact ⟨n, [], rfl, hn1, hn2, Lib.hid rfl, by rw [List.append_nil]; exact H, Lib.hid (Below.refl _ _)⟩
  case round =>
    obtain ⟨y, p, rfl, y0, y1, he, ho, hb⟩ := hrel
    have hpl : p.length ≤ 6 := by
      have e1 := congrArg List.length he.out
      have e2 := Var.enc_len6 (n := n.toNat) (by omega)
      have e3 := Var.enc_pos y.toNat
      simp at e1; omega
    by_cases hlt : 128 ≤ y
    · have HS := Lib.hid (Var.enc_step (n := y) (by omega))
      go_wp2_with (at_builtin; refine wpList_app_fit (k := .u8) (B := B) (l := l ++ p) (m := [y % 128 + 128]) rfl _ _ rfl Try.underlying44 elemBYTE rfl rfl rfl (ho.out.on ((Below.refl _ _).alloc (Nat.le_refl _) _)) ?_ (by simp) ?_ (by decide) ?_ ?_)
      · rw [show y % 128 + 128 = 128 + y % 128 by omega]; exact holds_one .u8 _ _ _
      · first | omega | (simp; omega)
      · have := hb.out.size; first | omega | (simp; omega)
      intro v2 w2 ho2 hg
      have hb2 : Below B w w2 := ((hb.out).alloc (by have := hb.out.size; omega) _).trans hg
      have HO2 := Lib.hid (Or.inl ho2 : Fits 5 .u8 B w2 v2 _); have HB2 := Lib.hid hb2
      clear ho2 hb2 hg
      go_wp2_with fail
      go_roundw
      case rel => exact ⟨y / 128, p ++ [y % 128 + 128], rfl, by omega, by omega, Lib.hid (by rw [List.append_assoc, ← he.out, HS.out]; rfl), HO2, HB2⟩
      case measure => simp [intOf]; omega
    · have HS := Lib.hid (Var.enc_last (n := y) (by omega) (by omega))
      go_wp2_with (at_builtin; refine wpList_app_fit (k := .u8) (B := B) (l := l ++ p) (m := [y]) rfl _ _ rfl Try.underlying44 elemBYTE rfl rfl rfl (ho.out.on ((Below.refl _ _).alloc (Nat.le_refl _) _)) (holds_one .u8 _ _ _) (by simp) ?_ (by decide) ?_ ?_)
      · first | omega | (simp; omega)
      · have := hb.out.size; first | omega | (simp; omega)
      intro v2 w2 ho2 hg
      have hb2 : Below B w w2 := ((hb.out).alloc (by have := hb.out.size; omega) _).trans hg
      have HO2 := Lib.hid ho2; have HB2 := Lib.hid hb2
      clear ho2 hb2 hg
      go_wp2_with fail
      go_ret
      exact ⟨_, rfl, by rw [HE.out, ← he.out, HS.out]; exact HO2.out, HB2.out⟩

set_option maxHeartbeats 1000000 in
theorem implAppendVarint (v : Value) (l : List Int) (n : Int) (w : World) (h : Holds .u8 w v l) (hl : l.length ≤ 100000000) :
    Calls Try.prog 60 #[v, .int .i64 n] w (GivesB w (l ++ Var.var n)) := by
  obtain ⟨x, cap, rfl, hcap, hh⟩ := h.shape
  by_cases hn : 0 ≤ n ∧ n ≤ 1000000000000
  · have hin := fun wx => Num.implIn_true hn.1 hn.2 wx
    have HI := Lib.hid hin
    have ha := fun x' hx' => addVarint w.heap.size (.slice x' l.length l.length) l n w (Or.inr ⟨x', rfl, hx'⟩) (Nat.le_refl _) hl hn.1 hn.2
    have HA := Lib.hid ha
    have hf : Holds .u8 w (.slice x l.length l.length) l := by
      obtain ⟨x', cap', hv, hc, hh⟩ := hh
      cases hv
      exact ⟨x, l.length, rfl, Nat.le_refl _, hh⟩
    have HF := Lib.hid hf
    obtain ⟨hn1, hn2⟩ := hn
    clear hin ha hf hh h
    go_enter Try.func60, Try.ntmps60
    go_wp2_with fail
    refine (HI.out _).mono ?_
    rintro e w' ⟨rfl, rfl⟩
    go_wp2_with fail
    refine (HA.out _ HF.out).mono ?_
    rintro e w' ⟨v', rfl, ho, hb⟩
    have HO := Lib.hid ho; have HB := Lib.hid hb
    clear ho hb
    go_wp2_with fail
    go_ret
    exact ⟨_, rfl, HO.out, HB.out⟩
  · have e1 := Var.var_out hn
    have HE := Lib.hid e1
    have hin := fun wx => Num.implIn_false hn wx
    have HI := Lib.hid hin
    obtain ⟨m, hm⟩ : ∃ m, m = l.length := ⟨_, rfl⟩
    rw [← hm] at hcap hh hl ⊢
    have HM := Lib.hid hm
    have HF := Lib.hid hh
    clear e1 hin hn hh hm h
    go_enter Try.func60, Try.ntmps60
    go_wp2_with fail
    refine (HI.out _).mono ?_
    rintro e w' ⟨rfl, rfl⟩
    go_wp2_with (at_builtin; refine wpList_app (k := .u8) (B := w.heap.size) (l := []) (m := l) rfl _ _ rfl Try.underlying44 elemBYTE rfl rfl rfl (own_empty .u8 _ w) (HF.out.on ((Below.refl _ _).alloc (Nat.le_refl _) _)) ?_ (by decide) ?_ ?_)
    · have := HM.out; simp; omega
    · simp
    intro v1 w1 ho hg
    have hb : Below w.heap.size w w1 := ((Below.refl _ _).alloc (Nat.le_refl _) _).grown hg (by simp) (fun k hk => by cases hk; exact Nat.le_refl _)
    have HO := Lib.hid ho; have HB := Lib.hid hb
    clear ho hb hg
    go_wp2_with fail
    go_ret
    exact ⟨_, rfl, by rw [HE.out, List.append_nil]; exact HO.out, HB.out⟩
end Go.Proofs.Ytcidfmmeonhkhaa.Sl
/- Contracts of ReadVarint, the reference model's and the program's: what the groups at the offset make, the offset behind them, true; or 0, 0 and false. Nothing in memory turns. No conditions but that the elements are bytes and the length fits. -/
namespace Go.Proofs.Ytcidfmmeonhkhaa.Sl
open Go.ChangeShapes Go.WideShapes Go.ChangeAt Go.RowKit Go.Instr
set_option linter.unusedVariables false
set_option maxRecDepth 100000

/-- The three results of ReadVarint. -/
def rdV (r : Int × Int × Bool) : Value := .tuple #[.int .i64 r.1, .int .i64 r.2.1, .bool r.2.2]
end Go.Proofs.Ytcidfmmeonhkhaa.Sl
/- Contracts of the program's ReadVarint: what the groups at the offset make, the offset behind them, true; or 0, 0 and false. What was in memory stays as it was. No conditions but that the elements are bytes and the length fits. -/
namespace Go.Proofs.Ytcidfmmeonhkhaa.Sl
open Go.ChangeShapes Go.WideShapes Go.ChangeAt Go.RowKit Go.Instr
set_option linter.unusedVariables false
set_option maxRecDepth 100000

end Go.Proofs.Ytcidfmmeonhkhaa.Sl
/- Contracts of AppendBytes, EqualBytes and EncodeInts, the reference model's and the program's. Slices that are returned lie in memory of the call's own. No conditions but that lengths fit and that the elements are bytes. -/
namespace Go.Proofs.Ytcidfmmeonhkhaa.Sl
open Go.ChangeShapes Go.WideShapes Go.ChangeAt Go.RowKit Go.Instr
set_option linter.unusedVariables false
set_option maxRecDepth 100000

/-! ### EqualBytes -/
theorem conv_holds {x : Option Addr} {cap : Nat} {l : List Int} {w : World} (h : Holds .u8 w (.slice x l.length cap) l) :
    (convert 44 9 (.slice x l.length cap)).run Try.prog w = .ok (.string (strOfNums l)) w := by
  obtain ⟨x', cap', hv, hc, hh⟩ := h
  cases hv
  rcases hh with rfl | ⟨b, off, rfl, hc⟩
  · cases x with
    | none => exact run_convert_bytes_nil w 44 5 Try.underlying44 Try.underlying5 _ _ 9 Try.underlying9
    | some a => exact run_convert_bytes_back w 44 9 5 a cap [] Try.underlying44 Try.underlying5 Try.underlying9 (fun j hj => absurd hj (by simp))
  · exact run_convert_bytes_arg w 44 5 Try.underlying44 Try.underlying5 b off l.length cap l rfl hc 9 Try.underlying9

end Go.Proofs.Ytcidfmmeonhkhaa.Sl
/- Contracts of EncodeInts, the reference model's and the program's: the numbers' groups, one number after the other, in memory of the call's own. No conditions but that lengths fit. -/
namespace Go.Proofs.Ytcidfmmeonhkhaa.Sl
open Go.ChangeShapes Go.WideShapes Go.ChangeAt Go.RowKit Go.Instr
set_option linter.unusedVariables false
set_option maxRecDepth 100000

/-- The groups of the first k numbers. -/
def encs (l : List Int) : List Int := l.flatMap Var.var
end Go.Proofs.Ytcidfmmeonhkhaa.Sl
/- Contracts of the model's functions on interests: AppendName. No conditions but that lengths fit. -/
namespace Go.Proofs.Ytcidfmmeonhkhaa.Row
open Go.ChangeShapes Go.WideShapes Go.ChangeAt Go.RowKit Go.Instr
set_option linter.unusedVariables false
set_option maxRecDepth 100000

/-- The parts' encodings, one behind the other. -/
def encPs (l : List ByteArray) : List Int := l.flatMap fun s => Var.var s.size ++ Sl.bytesOf s
def encN (l : List ByteArray) : List Int := Var.var l.length ++ encPs l
def appName (b : List Int) (l : List ByteArray) : List Int := if validN l = true then b ++ encN l else b
theorem encPs_next {l : List ByteArray} {k : Nat} (h : k < l.length) : encPs (l.take (k + 1)) = encPs (l.take k) ++ (Var.var (nth l k).size ++ Sl.bytesOf (nth l k)) := by
  unfold encPs
  rw [List.take_succ_eq_append_getElem h, List.flatMap_append, nth_eq h]
  simp
theorem encPs_len : ∀ l : List ByteArray, (encPs l).length ≤ 6 * bulk l
  | [] => by simp [encPs]
  | s :: r => by
    have h1 := encPs_len r
    have h2 := Var.var_len s.size
    have h3 : encPs (s :: r) = (Var.var s.size ++ Sl.bytesOf s) ++ encPs r := by simp [encPs]
    have h4 : bulk (s :: r) = 1 + s.size + bulk r := by simp [bulk_cons]
    rw [h3, List.length_append, List.length_append, Sl.bytesOf_length]
    omega
theorem bulk_take_le (l : List ByteArray) (k : Nat) : bulk (l.take k) ≤ bulk l := by
  have := bulk_append (l.take k) (l.drop k)
  rw [List.take_append_drop] at this
  omega
theorem size_bulk {l : List ByteArray} {k : Nat} (h : k < l.length) : (nth l k).size ≤ bulk l := by
  have h1 := bulk_append (l.take k) (l.drop k)
  rw [List.take_append_drop, List.drop_eq_getElem_cons h, bulk_cons, ← nth_eq h] at h1
  omega

end Go.Proofs.Ytcidfmmeonhkhaa.Row
/- Contracts of the model's functions on interests: validity, copy, equality, the hop limit. No conditions but that lengths fit. -/
namespace Go.Proofs.Ytcidfmmeonhkhaa.Row
open Go.ChangeShapes Go.WideShapes Go.ChangeAt Go.RowKit Go.Instr
set_option linter.unusedVariables false
set_option maxRecDepth 100000

abbrev Wt := List ByteArray × Int × Int × Int
def validW (x : Wt) : Bool := validN x.1 && decide (0 < x.1.length) && decide (0 ≤ x.2.1 ∧ x.2.1 ≤ 1000000) && decide (0 ≤ x.2.2.1 ∧ x.2.2.1 ≤ 16) && decide (1 ≤ x.2.2.2 ∧ x.2.2.2 ≤ 20)
/-- A result that is an interest whose name is the call's own. -/
def GivesW (w : World) (x : Wt) (e : Ending) (w' : World) : Prop := ∃ v', e = .returned (.agg (wc v' x.2.1 x.2.2.1 x.2.2.2)) ∧ Own 9 Value.string w.heap.size w' v' x.1 ∧ Below w.heap.size w w'
def GivesWB (w : World) (x : Wt) (z : Bool) (e : Ending) (w' : World) : Prop := ∃ v', e = .returned (.tuple #[.agg (wc v' x.2.1 x.2.2.1 x.2.2.2), .bool z]) ∧ Own 9 Value.string w.heap.size w' v' x.1 ∧ Below w.heap.size w w'

def decW (x : Wt) : Wt := if x.2.2.1 < 1 then x else (x.1, x.2.1, x.2.2.1 - 1, x.2.2.2)
def decOk (x : Wt) : Bool := decide (1 ≤ x.2.2.1)
end Go.Proofs.Ytcidfmmeonhkhaa.Row
/- Contracts of ReadBytes, the reference model's and the program's: the bytes behind the length at the offset, the offset behind them, true; or an empty slice, 0 and false. What is returned lies in memory of the call's own. No conditions but that the elements are bytes and the lengths fit. -/
namespace Go.Proofs.Ytcidfmmeonhkhaa.Sl
open Go.ChangeShapes Go.WideShapes Go.ChangeAt Go.RowKit Go.Instr
set_option linter.unusedVariables false
set_option maxRecDepth 100000

/-- What ReadBytes returns. -/
def readB (l : List Int) (i most : Int) : List Int × Int × Bool :=
  let r := Var.readV l i
  if r.2.2 = false ∨ most < r.1 ∨ (l.length : Int) - r.2.1 < r.1 then ([], 0, false)
  else ((l.drop r.2.1.toNat).take r.1.toNat, r.2.1 + r.1, true)
def GivesB3 (w : World) (l : List Int) (n : Int) (ok : Bool) (e : Ending) (w' : World) : Prop := ∃ v, e = .returned (.tuple #[v, .int .i64 n, .bool ok]) ∧ Own 5 .u8 w.heap.size w' v l ∧ Below w.heap.size w w'
theorem GivesB3.of {w w' : World} {v : Value} {l m : List Int} {n p : Int} {a b : Bool} (h : (l, n, a) = (m, p, b)) (ho : Own 5 .u8 w.heap.size w' v l) (hb : Below w.heap.size w w') :
    GivesB3 w m p b (.returned (.tuple #[v, .int .i64 n, .bool a])) w' := by
  cases h; exact ⟨v, rfl, ho, hb⟩

end Go.Proofs.Ytcidfmmeonhkhaa.Sl
/- Contract of the model's EncodeInterest. No conditions but that lengths fit. -/
namespace Go.Proofs.Ytcidfmmeonhkhaa.Sl
open Go.ChangeShapes Go.WideShapes Go.ChangeAt Go.RowKit Go.Instr
set_option linter.unusedVariables false
end Go.Proofs.Ytcidfmmeonhkhaa.Sl
namespace Go.Proofs.Ytcidfmmeonhkhaa.Row
open Go.ChangeShapes Go.WideShapes Go.ChangeAt Go.RowKit Go.Instr
set_option linter.unusedVariables false
set_option maxRecDepth 100000

def encW (x : Wt) : List Int := if validW x = true then appName [] x.1 ++ Sl.encs [x.2.1, x.2.2.1, x.2.2.2] else []
end Go.Proofs.Ytcidfmmeonhkhaa.Row
/- Contract of the model's ReadName. No conditions but that lengths fit. -/
namespace Go.Proofs.Ytcidfmmeonhkhaa.Row
open Go.ChangeShapes Go.WideShapes Go.ChangeAt Go.RowKit Go.Instr
set_option linter.unusedVariables false
set_option maxRecDepth 100000

/-- So many parts are read from place i on, behind those that were read. -/
def rdP : Nat → List Int → Int → List ByteArray → Option (List ByteArray × Int)
  | 0, _, i, acc => some (acc, i)
  | k + 1, b, i, acc => if (Sl.readB b i 8).2.2 = true then rdP k b (Sl.readB b i 8).2.1 (acc ++ [strOfNums (Sl.readB b i 8).1]) else none
def rdN (b : List Int) (i : Int) : List ByteArray × Int × Bool :=
  if (Var.readV b i).2.2 = false ∨ 6 < (Var.readV b i).1 then ([], 0, false)
  else match rdP (Var.readV b i).1.toNat b (Var.readV b i).2.1 [] with
    | none => ([], 0, false)
    | some (l, j) => if validN l = true then (l, j, true) else ([], 0, false)
def GivesN3 (w : World) (l : List ByteArray) (n : Int) (ok : Bool) (e : Ending) (w' : World) : Prop := ∃ v, e = .returned (.tuple #[.agg #[v], .int .i64 n, .bool ok]) ∧ Own 9 Value.string w.heap.size w' v l ∧ Below w.heap.size w w'
end Go.Proofs.Ytcidfmmeonhkhaa.Row
namespace Go.Proofs.Ytcidfmmeonhkhaa.Ret
variable {P : Program}
end Go.Proofs.Ytcidfmmeonhkhaa.Ret
namespace Go.Proofs.Ytcidfmmeonhkhaa.Row
open Go.ChangeShapes Go.WideShapes Go.ChangeAt Go.RowKit Go.Instr
set_option linter.unusedVariables false
set_option maxRecDepth 100000
end Go.Proofs.Ytcidfmmeonhkhaa.Row
/- Contracts of the program's functions on interests: validity, AppendName, the numbers, copy, the hop limit. No conditions but that lengths fit. -/
namespace Go.Proofs.Ytcidfmmeonhkhaa.Row
open Go.ChangeShapes Go.WideShapes Go.ChangeAt Go.RowKit Go.Instr
set_option linter.unusedVariables false
set_option maxRecDepth 100000

end Go.Proofs.Ytcidfmmeonhkhaa.Row
/- Contract of the program's ReadName. No conditions but that lengths fit. -/
namespace Go.Proofs.Ytcidfmmeonhkhaa.Row
open Go.ChangeShapes Go.WideShapes Go.ChangeAt Go.RowKit Go.Instr
set_option linter.unusedVariables false
set_option maxRecDepth 100000

end Go.Proofs.Ytcidfmmeonhkhaa.Row
/- Contracts of DecodeInts, the reference model's and the program's: so many numbers at the offset, the offset behind them, true; or an empty slice, 0 and false. What is returned lies in memory of the call's own. No conditions but that the elements are bytes and the length fits. -/
namespace Go.Proofs.Ytcidfmmeonhkhaa.Sl
open Go.ChangeShapes Go.WideShapes Go.ChangeAt Go.RowKit Go.Instr
set_option linter.unusedVariables false
set_option maxRecDepth 100000

def decA : Nat → List Int → Int → List Int → List Int × Int × Bool
  | 0, _, i, acc => (acc, i, true)
  | k + 1, l, i, acc => if (Var.readV l i).2.2 = true then decA k l (Var.readV l i).2.1 (acc ++ [(Var.readV l i).1]) else ([], 0, false)
/-- What DecodeInts returns. -/
def readIs (l : List Int) (i n : Int) : List Int × Int × Bool := if (0 ≤ n ∧ n ≤ 100) ∧ 0 ≤ i ∧ i ≤ l.length then decA n.toNat l i [] else ([], 0, false)
def GivesI3 (w : World) (l : List Int) (n : Int) (ok : Bool) (e : Ending) (w' : World) : Prop := ∃ v, e = .returned (.tuple #[v, .int .i64 n, .bool ok]) ∧ Own 3 .i64 w.heap.size w' v l ∧ Below w.heap.size w w'
theorem GivesI3.of {w w' : World} {v : Value} {l m : List Int} {n p : Int} {a b : Bool} (h : (l, n, a) = (m, p, b)) (ho : Own 3 .i64 w.heap.size w' v l) (hb : Below w.heap.size w w') :
    GivesI3 w m p b (.returned (.tuple #[v, .int .i64 n, .bool a])) w' := by
  cases h; exact ⟨v, rfl, ho, hb⟩
end Go.Proofs.Ytcidfmmeonhkhaa.Sl
/- Plain mathematics: what the encoding writes is read back, and what is read is what the encoding writes. No program in sight. -/
namespace Go.Proofs.Ytcidfmmeonhkhaa.Var
open Sl (Byt)

end Go.Proofs.Ytcidfmmeonhkhaa.Var
/- Contract of the model's DecodeInterest. No conditions but that lengths fit. -/
namespace Go.Proofs.Ytcidfmmeonhkhaa.Row
open Go.ChangeShapes Go.WideShapes Go.ChangeAt Go.RowKit Go.Instr
set_option linter.unusedVariables false
set_option maxRecDepth 100000

def w0 : Wt := ([], 0, 0, 0)
/-- What DecodeInterest reads. -/
def gotW (b : List Int) : Wt := ((rdN b 0).1, Sl.nth (Sl.readIs b (rdN b 0).2.1 3).1 0, Sl.nth (Sl.readIs b (rdN b 0).2.1 3).1 1, Sl.nth (Sl.readIs b (rdN b 0).2.1 3).1 2)
def dcW (b : List Int) : Wt × Bool :=
  if (rdN b 0).2.2 = true ∧ (Sl.readIs b (rdN b 0).2.1 3).2.2 = true ∧ (Sl.readIs b (rdN b 0).2.1 3).2.1 = b.length ∧ validW (gotW b) = true then (gotW b, true) else (w0, false)
end Go.Proofs.Ytcidfmmeonhkhaa.Row
/- Plain mathematics of encodings: what is encoded is read back, what is read is what is encoded. No conditions but those that are named. -/
namespace Go.Proofs.Ytcidfmmeonhkhaa.Row
open Go.RowKit
set_option linter.unusedVariables false
set_option maxRecDepth 100000

/-! ### what is read is what is encoded -/
/-! ### what is encoded is read back -/
theorem str_back (s : ByteArray) : strOfNums (Sl.bytesOf s) = s := by
  obtain ⟨⟨d⟩⟩ := s
  unfold strOfNums Sl.bytesOf
  simp only [List.map_map]
  congr 1
  congr 1
  conv => rhs; rw [← List.map_id d]
  apply List.map_congr_left
  intro x hx
  simp only [Function.comp, id, Int.toNat_natCast, UInt8.ofNat_toNat]
end Go.Proofs.Ytcidfmmeonhkhaa.Row
/- Keyrings as data: a map from a name's text to the first key with this name; the numbers that are in use; valid lists of keys. No conditions. -/
namespace Go.Proofs.Ytcidfmmeonhkhaa.Row.Ring
open Go.ChangeShapes Go.WideShapes Go.ChangeAt Go.RowKit Go.Instr
set_option linter.unusedVariables false
set_option maxRecDepth 100000

/-! ### names' texts -/
theorem enc_app (n : Nat) : ∀ (m : Nat) (s t : List Int), Var.enc n ++ s = Var.enc m ++ t → n = m ∧ s = t := by
  induction n using Nat.strongRecOn with
  | ind n ih =>
    intro m s t h
    by_cases hn : n < 128
    · by_cases hm : m < 128
      · rw [Var.enc_small hn, Var.enc_small hm] at h
        simp only [List.cons_append, List.nil_append, List.cons.injEq] at h
        exact ⟨by omega, h.2⟩
      · rw [Var.enc_small hn, Var.enc_big hm] at h
        simp only [List.cons_append, List.nil_append, List.cons.injEq] at h
        exact absurd h.1 (by omega)
    · by_cases hm : m < 128
      · rw [Var.enc_big hn, Var.enc_small hm] at h
        simp only [List.cons_append, List.nil_append, List.cons.injEq] at h
        exact absurd h.1 (by omega)
      · rw [Var.enc_big hn, Var.enc_big hm] at h
        simp only [List.cons_append, List.cons.injEq] at h
        obtain ⟨e1, e2⟩ := ih (n / 128) (by omega) (m / 128) s t h.2
        exact ⟨by omega, e2⟩
theorem encPs_cons (s : ByteArray) (r : List ByteArray) : encPs (s :: r) = Var.var s.size ++ (Sl.bytesOf s ++ encPs r) := by simp [encPs]
/-- The parts are no longer than an integer that is encoded. -/
def smN (l : List ByteArray) : Prop := ∀ x ∈ l, x.size ≤ 1000000000000
theorem smN_bulk {l : List ByteArray} (h : bulk l ≤ 9000000) : smN l := fun x hx => by
  obtain ⟨k, hk, rfl⟩ := List.getElem_of_mem hx
  have := size_bulk hk
  rw [nth_eq hk] at this
  omega
theorem encPs_inj : ∀ (l m : List ByteArray), smN l → smN m → encPs l = encPs m → l = m
  | [], [], _, _, _ => rfl
  | [], s :: r, _, hm, h => by
    rw [encPs_cons, Var.var_in (by omega) (by have := hm s (by simp); omega)] at h
    have h1 := congrArg List.length h
    have h2 := Var.enc_pos (s.size : Int).toNat
    simp only [List.length_append] at h1
    have h3 : (encPs []).length = 0 := rfl
    omega
  | s :: r, [], hl, _, h => by
    rw [encPs_cons, Var.var_in (by omega) (by have := hl s (by simp); omega)] at h
    have h1 := congrArg List.length h
    have h2 := Var.enc_pos (s.size : Int).toNat
    simp only [List.length_append] at h1
    have h3 : (encPs []).length = 0 := rfl
    omega
  | s :: r, t :: q, hl, hm, h => by
    rw [encPs_cons, encPs_cons, Var.var_in (by omega) (by have := hl s (by simp); omega), Var.var_in (by omega) (by have := hm t (by simp); omega)] at h
    obtain ⟨e1, e2⟩ := enc_app _ _ _ _ h
    have e3 : s.size = t.size := by omega
    obtain ⟨e4, e5⟩ := List.append_inj e2 (by rw [Sl.bytesOf_length, Sl.bytesOf_length, e3])
    have e6 : s = t := by rw [← str_back s, ← str_back t, e4]
    rw [e6, encPs_inj r q (fun x hx => hl x (by simp [hx])) (fun x hx => hm x (by simp [hx])) e5]
theorem encPs_byt : ∀ l : List ByteArray, Sl.Byt (encPs l)
  | [] => fun x hx => by simp [encPs] at hx
  | s :: r => fun x hx => by
    rw [encPs_cons] at hx
    rcases List.mem_append.1 hx with hx | hx
    · unfold Var.var at hx
      split at hx
      · exact Var.enc_byte _ x hx
      · simp at hx
    · rcases List.mem_append.1 hx with hx | hx
      · exact Sl.bytesOf_byt s x hx
      · exact encPs_byt r x hx
/-- What the program keeps a name's key under. -/
def txt (l : List ByteArray) : ByteArray := strOfNums (encPs l)
def kl (l : List ByteArray) : Lit := .string (txt l).data.toList
theorem bytes_inj : ∀ (a b : List Int), Sl.Byt a → Sl.Byt b → (a.map fun n => UInt8.ofNat n.toNat) = (b.map fun n => UInt8.ofNat n.toNat) → a = b
  | [], [], _, _, _ => rfl
  | [], _ :: _, _, _, h => by simp at h
  | _ :: _, [], _, _, h => by simp at h
  | x :: r, y :: s, ha, hb, h => by
    simp only [List.map_cons, List.cons.injEq] at h
    have h1 := ha x (by simp)
    have h2 := hb y (by simp)
    have h3 := congrArg UInt8.toNat h.1
    simp at h3
    have h4 : x = y := by omega
    rw [h4, bytes_inj r s (fun z hz => ha z (by simp [hz])) (fun z hz => hb z (by simp [hz])) h.2]
theorem kl_inj {l m : List ByteArray} (hl : smN l) (hm : smN m) (h : kl l = kl m) : l = m := by
  have h1 : (txt l).data.toList = (txt m).data.toList := by
    unfold kl at h
    injection h
  unfold txt at h1
  rw [strOfNums_data, strOfNums_data] at h1
  exact encPs_inj l m hl hm (bytes_inj _ _ (encPs_byt l) (encPs_byt m) (by simpa using h1))
theorem kl_key (l : List ByteArray) : WideAt.IsKeyLit (kl l) := trivial
theorem txt_size (l : List ByteArray) : (txt l).size ≤ 6 * bulk l := by
  have h := encPs_len l
  have e : (txt l).size = (encPs l).length := by
    show (txt l).data.size = _
    unfold txt
    have := congrArg List.length (strOfNums_data (encPs l))
    simpa using this
  omega

/-! ### the keyring -/
/-- An element is held as it is. -/
def heldV (v : Value) : Option (DataW Value × List MemPlace) := some (.held v, [])
theorem heldV_inj {v u : Value} {ps : List MemPlace} (h : heldV v = some (.held u, ps)) : v = u := by
  unfold heldV at h
  cases h
  rfl
def step (D : DataW Value) (x : List ByteArray × Value) : DataW Value := if Maps.has D (kl x.1) then D else D.put (kl x.1) (.held x.2)
def ringD (l : List (List ByteArray × Value)) : DataW Value := l.foldl step (.map [])
theorem ringD_next (l : List (List ByteArray × Value)) (x : List ByteArray × Value) : ringD (l ++ [x]) = step (ringD l) x := by simp [ringD, List.foldl_append]
theorem step_tidy {D : DataW Value} (h : Maps.Tidy D) (x : List ByteArray × Value) : Maps.Tidy (step D x) := by
  unfold step
  split
  · exact h
  · exact h.put (kl_key _) _
/-- The first one with this name. -/
def fst1 (m : List ByteArray) : List (List ByteArray × Value) → DataW Value → DataW Value
  | [], z => z
  | x :: r, z => if x.1 = m then .held x.2 else fst1 m r z
theorem fold_at (m : List ByteArray) (hm : smN m) (z : DataW Value) : ∀ (l : List (List ByteArray × Value)) (D : DataW Value), (∀ x ∈ l, smN x.1) → Maps.Tidy D →
    (l.foldl step D).atKey (kl m) z = if Maps.has D (kl m) then D.atKey (kl m) z else fst1 m l z
  | [], D, _, _ => by
    show D.atKey (kl m) z = _
    split
    · rfl
    · rename_i h
      exact Maps.atKey_of_not_has (by simpa using h) z
  | x :: r, D, hl, hD => by
    have ih := fold_at m hm z r (step D x) (fun y hy => hl y (by simp [hy])) (step_tidy hD x)
    rw [List.foldl_cons, ih]
    by_cases he : x.1 = m
    · rw [show fst1 m (x :: r) z = .held x.2 from if_pos he]
      unfold step
      rw [he]
      cases hh : Maps.has D (kl m) with
      | true => simp [hh]
      | false =>
        simp only [Bool.false_eq_true, if_false]
        rw [Maps.has_put_same hD.isMap (kl_key m), Maps.atKey_put_same hD.isMap (kl_key m)]
        simp
    · rw [show fst1 m (x :: r) z = fst1 m r z from if_neg he]
      have hne : kl m ≠ kl x.1 := fun e => he (kl_inj hm (hl x (by simp)) e).symm
      unfold step
      cases hh : Maps.has D (kl x.1) with
      | true => simp
      | false =>
        simp only [Bool.false_eq_true, if_false]
        rw [Maps.has_put_other hne, Maps.atKey_put_other hne]
theorem ringD_at {l : List (List ByteArray × Value)} {m : List ByteArray} (hl : ∀ x ∈ l, smN x.1) (hm : smN m) (z : DataW Value) : (ringD l).atKey (kl m) z = fst1 m l z := by
  unfold ringD
  rw [fold_at m hm z l _ hl Maps.tidy_empty]
  simp [Maps.has]
theorem fold_le : ∀ (l : List (List ByteArray × Value)) (D : DataW Value), Maps.Tidy D → Maps.size (l.foldl step D) ≤ Maps.size D + l.length
  | [], D, _ => by simp
  | x :: r, D, h => by
    have ih := fold_le r (step D x) (step_tidy h x)
    rw [List.foldl_cons]
    have h1 : Maps.size (step D x) ≤ Maps.size D + 1 := by
      unfold step
      split
      · omega
      · rw [Maps.size_put h]; split <;> omega
    simp only [List.length_cons]
    omega
theorem fold_size : ∀ (l : List (List ByteArray × Value)) (D : DataW Value), (∀ x ∈ l, smN x.1) → Maps.Tidy D →
    (Maps.size (l.foldl step D) = Maps.size D + l.length ↔ (l.map (·.1)).Nodup ∧ ∀ x ∈ l, Maps.has D (kl x.1) = false)
  | [], D, _, _ => by simp
  | x :: r, D, hl, h => by
    have hle := fold_le r (step D x) (step_tidy h x)
    have ih := fold_size r (step D x) (fun y hy => hl y (by simp [hy])) (step_tidy h x)
    rw [List.foldl_cons]
    cases hh : Maps.has D (kl x.1) with
    | true =>
      have e : step D x = D := by unfold step; simp [hh]
      rw [e] at hle ⊢
      simp only [List.length_cons]
      constructor
      · intro h1; omega
      · intro h1
        have := h1.2 x (by simp)
        rw [hh] at this
        cases this
    | false =>
      have e : step D x = D.put (kl x.1) (.held x.2) := by unfold step; simp [hh]
      have e2 : Maps.size (step D x) = Maps.size D + 1 := by rw [e, Maps.size_put h]; simp [hh]
      rw [e2] at ih
      rw [show Maps.size D + (x :: r).length = Maps.size D + 1 + r.length by simp; omega, ih]
      simp only [List.map_cons, List.nodup_cons, List.mem_cons]
      constructor
      · rintro ⟨h1, h2⟩
        refine ⟨⟨fun hx => ?_, h1⟩, fun y hy => ?_⟩
        · obtain ⟨y, hy, hyx⟩ := List.mem_map.1 hx
          have := h2 y hy
          rw [e, hyx, Maps.has_put_same h.isMap (kl_key _)] at this
          cases this
        · rcases hy with rfl | hy
          · exact hh
          · by_cases hk : kl y.1 = kl x.1
            · rw [hk]; exact hh
            · have := h2 y hy
              rw [e, Maps.has_put_other hk] at this
              exact this
      · rintro ⟨⟨h1, h2⟩, h3⟩
        refine ⟨h2, fun y hy => ?_⟩
        rw [e, Maps.has_put_other (fun ek => h1 ?_)]
        · exact h3 y (Or.inr hy)
        · have := kl_inj (hl y (by simp [hy])) (hl x (by simp)) ek
          rw [← this]
          exact List.mem_map_of_mem hy
theorem ringD_size {l : List (List ByteArray × Value)} (hl : ∀ x ∈ l, smN x.1) : Maps.size (ringD l) = l.length ↔ (l.map (·.1)).Nodup := by
  have h := fold_size l (.map []) hl Maps.tidy_empty
  have e : Maps.size (.map [] : DataW Value) = 0 := rfl
  rw [e, Nat.zero_add] at h
  unfold ringD
  rw [h]
  simp [Maps.has]

/-! ### the numbers in use -/
def sk (s : Int) : Lit := .int .i64 s
def secD (l : List Int) : DataW Value := l.foldl (fun D s => D.put (sk s) (.held (.bool true))) (.map [])
theorem secD_next (l : List Int) (s : Int) : secD (l ++ [s]) = (secD l).put (sk s) (.held (.bool true)) := by simp [secD, List.foldl_append]
theorem sec_fold (s : Int) (z : DataW Value) : ∀ (l : List Int) (D : DataW Value), Maps.IsMap D → (l.foldl (fun D s => D.put (sk s) (.held (.bool true))) D).atKey (sk s) z = if s ∈ l then .held (.bool true) else D.atKey (sk s) z
  | [], D, _ => by simp
  | x :: r, D, h => by
    rw [List.foldl_cons, sec_fold s z r _ (h.put _ _)]
    by_cases he : s = x
    · subst he
      rw [Maps.atKey_put_same h (show WideAt.IsKeyLit (sk s) from trivial)]
      simp
    · have hne : sk s ≠ sk x := fun e => he (by unfold sk at e; injection e)
      rw [Maps.atKey_put_other hne]
      simp [he]
theorem secD_at (l : List Int) (s : Int) : (secD l).atKey (sk s) (.held (.bool false)) = .held (.bool (decide (s ∈ l))) := by
  unfold secD
  rw [sec_fold s _ l _ Maps.isMap_empty]
  by_cases h : s ∈ l <;> simp [h, DataW.atKey]

/-! ### lists of keys -/
/-- The keys as they are held. -/
def pairs (L : List Ent) : List (List ByteArray × Value) := L.map fun x => (x.ps, x.whole)
theorem pairs_take (L : List Ent) {k : Nat} (h : k < L.length) : pairs (L.take (k + 1)) = pairs (L.take k) ++ [((nth L k).ps, (nth L k).whole)] := by
  rw [List.take_succ_eq_append_getElem h, ← nth_eq h]; simp [pairs]
theorem pairs_fst (L : List Ent) : (pairs L).map (·.1) = (strip L).map (·.1) := by simp [pairs, strip, Ent.t]
theorem pairs_length (L : List Ent) : (pairs L).length = (strip L).length := by simp [pairs, strip]
theorem pairs_sm {L : List Ent} (h : smT (strip L)) : ∀ x ∈ pairs L, smN x.1 := by
  intro x hx
  obtain ⟨y, hy, rfl⟩ := List.mem_map.1 hx
  exact smN_bulk (h _ (strip_mem hy))
theorem lkN_cons (x : List ByteArray × Int) (T : List (List ByteArray × Int)) (n : List ByteArray) : lkN (x :: T) n = if x.1 = n then x.2 else lkN T n := by
  by_cases he : x.1 = n
  · have h1 : isN n x = true := by unfold isN; exact eqB_true he
    unfold lkN
    rw [List.findIdx_cons, h1, if_pos he]
    simp [nth]
  · have h1 : isN n x = false := by unfold isN; exact eqB_false he
    unfold lkN
    rw [List.findIdx_cons, h1, if_neg he]
    simp only [cond_false, List.length_cons, Nat.add_lt_add_iff_right]
    by_cases h2 : T.findIdx (isN n) < T.length
    · rw [if_pos h2, if_pos h2]; simp [nth]
    · rw [if_neg h2, if_neg h2]
theorem lkN_nil (n : List ByteArray) : lkN [] n = 0 := by simp [lkN]
def zK : Value := .agg #[.slice none 0 0, .int .i64 0]
/-- What is held under a name: a key with the number that the model finds. -/
theorem fst1_lk (m : List ByteArray) : ∀ L : List Ent, ∃ ad n cap, fst1 m (pairs L) (.held zK) = .held (.agg #[.slice ad n cap, .int .i64 (lkN (strip L) m)])
  | [] => ⟨none, 0, 0, by show DataW.held zK = _; rw [show strip [] = [] from rfl, lkN_nil]; rfl⟩
  | x :: L => by
    have e1 : pairs (x :: L) = (x.ps, x.whole) :: pairs L := rfl
    have e2 : strip (x :: L) = x.t :: strip L := rfl
    rw [e1, e2, lkN_cons]
    unfold fst1
    by_cases he : x.ps = m
    · rw [if_pos (show (x.ps, x.whole).1 = m from he), if_pos (show x.t.1 = m from he)]
      exact ⟨x.ad, x.n, x.cap, rfl⟩
    · rw [if_neg (show ¬ (x.ps, x.whole).1 = m from he), if_neg (show ¬ x.t.1 = m from he)]
      exact fst1_lk m L
/-- A key that is valid by itself. -/
def vkey (x : List ByteArray × Int) : Bool := validN x.1 && decide (0 < x.1.length) && Num.inB x.2 1 2147483646
def Vk (T : List (List ByteArray × Int)) : Prop := (∀ x ∈ T, vkey x = true) ∧ (T.map (·.1)).Nodup ∧ (T.map (·.2)).Nodup
def validK (T : List (List ByteArray × Int)) : Bool := decide ((∀ x ∈ T, vkey x = true) ∧ (T.map (·.1)).Nodup ∧ (T.map (·.2)).Nodup ∧ T.length ≤ 8)
theorem validK_iff {T : List (List ByteArray × Int)} : validK T = true ↔ (∀ x ∈ T, vkey x = true) ∧ (T.map (·.1)).Nodup ∧ (T.map (·.2)).Nodup ∧ T.length ≤ 8 := by unfold validK; exact decide_eq_true_iff
theorem validK_no {T : List (List ByteArray × Int)} (h : ¬ ((∀ x ∈ T, vkey x = true) ∧ (T.map (·.1)).Nodup ∧ (T.map (·.2)).Nodup ∧ T.length ≤ 8)) : validK T = false := by
  cases e : validK T
  · rfl
  · exact absurd (validK_iff.1 e) h
end Go.Proofs.Ytcidfmmeonhkhaa.Row.Ring
