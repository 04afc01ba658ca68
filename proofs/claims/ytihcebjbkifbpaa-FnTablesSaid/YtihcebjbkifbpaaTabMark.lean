/- Contracts of the helpers by which the laws mark tables and look at the marks. No conditions but that lengths fit. -/
import Derived.Test.YtihcebjbkifbpaaTabLaw2
namespace Go.Proofs.Ytihcebjbkifbpaa.Row
open Go.ChangeShapes Go.WideShapes Go.ChangeAt Go.RowKit Go.Instr
set_option linter.unusedVariables false
set_option maxRecDepth 100000

/-- How many numbers a marking takes: one a part, one an entry. -/
def adv : List (List ByteArray × Int) → Nat
  | [] => 0
  | x :: r => x.1.length + 1 + adv r
theorem adv_append : ∀ (a b : List (List ByteArray × Int)), adv (a ++ b) = adv a + adv b
  | [], b => by simp [adv]
  | x :: a, b => by simp [adv, adv_append a b]; omega
theorem adv_bulk : ∀ T : List (List ByteArray × Int), adv T ≤ bulkT T
  | [] => by simp [adv]
  | x :: r => by
    have h1 := adv_bulk r
    have h2 := bulk_len x.1
    have e : bulkT (x :: r) = bulk x.1 + 1 + bulkT r := by simp [bulkT, bulkTTo]; omega
    rw [e]
    simp only [adv]
    omega
theorem adv_len : ∀ T : List (List ByteArray × Int), T.length ≤ adv T
  | [] => by simp
  | x :: r => by have := adv_len r; simp [adv]; omega
theorem adv_take {T : List (List ByteArray × Int)} {j : Nat} (h : j < T.length) : adv (T.take (j + 1)) = adv (T.take j) + (nth T j).1.length + 1 := by
  rw [List.take_succ_eq_append_getElem h, adv_append, nth_eq h]; simp [adv]; omega
theorem adv_take_le (T : List (List ByteArray × Int)) (j : Nat) : adv (T.take j) ≤ adv T := by
  have := adv_append (T.take j) (T.drop j)
  rw [List.take_append_drop] at this; omega
/-- A table as a marking from k on leaves it. -/
def markTb (k : Int) : List (List ByteArray × Int) → List (List ByteArray × Int)
  | [] => []
  | x :: r => (marks markT k x.1.length, k + x.1.length) :: markTb (k + x.1.length + 1) r
theorem markTb_append (k : Int) : ∀ (a b : List (List ByteArray × Int)), markTb k (a ++ b) = markTb k a ++ markTb (k + adv a) b
  | [], b => by simp [markTb, adv]
  | x :: a, b => by
    simp only [List.cons_append, markTb, adv, markTb_append _ a b]
    congr 3
    simp; omega
theorem markTb_length (k : Int) : ∀ T, (markTb k T).length = T.length
  | [] => rfl
  | x :: r => by simp [markTb, markTb_length _ r]
theorem markTb_at (k : Int) (T : List (List ByteArray × Int)) {j : Nat} (h : j < T.length) : nth (markTb k T) j = (marks markT (k + adv (T.take j)) (nth T j).1.length, k + adv (T.take j) + (nth T j).1.length) := by
  have e : T = T.take j ++ T[j] :: T.drop (j + 1) := by rw [List.getElem_cons_drop, List.take_append_drop]
  have h2 : (markTb k (T.take j)).length = j := by rw [markTb_length]; simp; omega
  rw [nth_eq h]
  conv => lhs; rw [e, markTb_append]
  simp only [nth, List.getD, markTb]
  rw [List.getElem?_append_right (by omega), h2]
  simp
theorem markTb_small {k : Int} {T : List (List ByteArray × Int)} : ∀ t ∈ markTb k T, ∃ (k' : Int) (u : List ByteArray × Int), u ∈ T ∧ t = (marks markT k' u.1.length, k' + u.1.length) := by
  intro t ht
  obtain ⟨j, hj, rfl⟩ := List.getElem_of_mem ht
  have hj2 : j < T.length := by rwa [markTb_length] at hj
  exact ⟨_, nth T j, nth_mem hj2, by rw [← nth_eq hj, markTb_at k T hj2]⟩
theorem drop_nth' {α : Type} [Inhabited α] {l : List α} {k : Nat} (h : k < l.length) : l.drop k = nth l k :: l.drop (k + 1) := by
  rw [nth_eq h, List.getElem_cons_drop]
def Ent.setPs (x : Ent) (ps : List ByteArray) : Ent := ⟨x.ad, x.n, x.cap, ps, x.val⟩
def Ent.setVal (x : Ent) (a : Int) : Ent := ⟨x.ad, x.n, x.cap, x.ps, a⟩
/-- An entry as it lies, marked. -/
def Ent.marked (x : Ent) (k : Int) : Ent := ⟨x.ad, x.n, x.cap, marks markT k x.ps.length, k + x.ps.length⟩

theorem pairwise_same {L M : List Ent} (h : L.Pairwise (fun a b => Apart a.v b.v)) (e : M.map Ent.v = L.map Ent.v) : M.Pairwise (fun a b => Apart a.v b.v) := by
  have h1 : (L.map Ent.v).Pairwise Apart := by rw [List.pairwise_map]; exact h
  rw [← e, List.pairwise_map] at h1
  exact h1
/-- Writing one name leaves the others and the row. -/
theorem TabO.named {B : Nat} {w w' : World} {v : Value} {L : List Ent} (h : TabO B w v L) {k : Nat} (hk : k < L.length) {ps : List ByteArray} (ho : Own 9 Value.string B w' (nth L k).v ps) (hg : w.grownBy w' (nth L k).v.ownBlock) :
    TabO B w' v (L.set k ((nth L k).setPs ps)) := by
  have hrow : OwnK 44 encE 2 B w' v L := h.1.grown hg (by
    cases hv : v.ownBlock with
    | none => exact Or.inl rfl
    | some g => exact Or.inr fun e => name_row (h.2.1 _ (nth_mem hk)) h.1 g e.symm hv)
  have henc : flat encE (L.set k ((nth L k).setPs ps)) = flat encE L := by
    unfold flat
    rw [List.flatMap_def, List.flatMap_def, List.map_set]
    congr 1
    have : encE ((nth L k).setPs ps) = (L.map encE)[k]'(by simpa using hk) := by simp [encE, Ent.v, Ent.setPs, nth_eq hk]
    rw [this, List.set_getElem_self]
  refine ⟨?_, fun y hy => ?_, ?_⟩
  · unfold OwnK at *
    rw [List.length_set, henc]; exact hrow
  · obtain ⟨i, hi, rfl⟩ := List.getElem_of_mem hy
    rw [List.length_set] at hi
    by_cases e : k = i
    · subst e
      rw [List.getElem_set_self]
      exact ho
    · rw [List.getElem_set_ne e]
      refine (h.2.1 _ (List.getElem_mem _)).grown hg (apart_or ?_)
      have := List.pairwise_iff_getElem.1 h.2.2
      have hkk := nth_eq hk
      generalize nth L k = z at *
      subst hkk
      have hi : i < L.length := by simpa using hi
      show Apart (L[i]'hi).v (L[k]'hk).v
      rcases Nat.lt_or_gt_of_ne e with e | e
      · exact (this k i hk hi e).symm
      · exact this i k hi hk e
  · refine pairwise_same h.2.2 ?_
    rw [List.map_set]
    have : Ent.v ((nth L k).setPs ps) = (L.map Ent.v)[k]'(by simpa using hk) := by simp [Ent.v, Ent.setPs, nth_eq hk]
    rw [this, List.set_getElem_self]
/-- A number is stored. -/
theorem TabO.valued {B : Nat} {w : World} {g n cap : Nat} {L : List Ent} (h : TabO B w (.slice (some ⟨g, 0, none⟩) n cap) L) (hn : n = L.length) {k : Nat} (hk : k < L.length) (a : Int) :
    TabO B (w.setCell ⟨g, k * 2 + 1, none⟩ (.int .i64 a)) (.slice (some ⟨g, 0, none⟩) n cap) (L.set k ((nth L k).setVal a)) ∧ w.grownBy (w.setCell ⟨g, k * 2 + 1, none⟩ (.int .i64 a)) (some g) := by
  obtain ⟨a1, a2⟩ := ownK_store szE h.1 hn hk (i := 1) (by decide) (y := ((nth L k).setVal a)) (u := .int .i64 a) rfl
  refine ⟨h.row a1 a2 (fun y hy => ?_) ?_, a2⟩
  · rcases List.mem_or_eq_of_mem_set hy with hy | hy
    · exact ⟨y, hy, rfl, rfl⟩
    · exact ⟨_, nth_mem hk, by rw [hy]; rfl, by rw [hy]; rfl⟩
  · refine pairwise_same h.2.2 ?_
    rw [List.map_set]
    have : Ent.v ((nth L k).setVal a) = (L.map Ent.v)[k]'(by simpa using hk) := by simp [Ent.v, Ent.setVal, nth_eq hk]
    rw [this, List.set_getElem_self]

set_option maxHeartbeats 4000000 in
/-- Marking: every part and every number of a table of the call's own is written. -/
theorem markTableEntryS (B E : Nat) (v : Value) (T : List (List ByteArray × Int)) (w : World) (k : Int) (h : TabIn B E w v T) (hl : adv T ≤ 100000000) (h0 : 0 ≤ k) (h1 : k ≤ 10000000000) :
    Calls Try.prog 39 #[v, .int .i64 k] w fun e w' => e = .returned (.int .i64 (k + adv T)) ∧ TabIn B E w' v (markTb k T) ∧ Wrote B E w w' := by
  obtain ⟨L, rfl, h, hE, hE2⟩ := h
  rcases h.1.form with ⟨rfl, rfl⟩ | ⟨g, cap, rfl, g1, g2, g3, g4⟩
  · have H := Lib.hid h; clear h hE hE2
    go_enter Try.func39, Try.ntmps39
    go_wp2
    refine wp_loop_rounds 1 ?_
    rw [rounds_succ]
    go_wp2
    go_ret
    exact ⟨ret_int (by simp [strip, adv]), ⟨[], rfl, H.out, by simp [Value.ownBlock], by simp⟩, Wrote.refl _ _ _⟩
  · obtain ⟨n, hn⟩ : ∃ n, n = L.length := ⟨_, rfl⟩
    have hgE : g < E := hE g rfl
    have hln : n ≤ 100000000 := by have := adv_len (strip L); rw [strip_length] at this; omega
    rw [← hn] at h g3 hE ⊢
    have HN := Lib.hid hn
    have HE2 := Lib.hid hE2
    have HADV := Lib.hid (fun j => adv_take_le (strip L) j)
    have HST := Lib.hid (fun j (h : j < L.length) => adv_take (T := strip L) (j := j) (by rw [strip_length]; exact h))
    have HB : Hid (TabO B w (.slice (some ⟨g, 0, none⟩) n cap) ([] ++ L.drop 0)) := by simpa using Lib.hid h
    clear hn h hE hE2
    go_enter Try.func39, Try.ntmps39
    go_wp2
    go_loopw [1, 5] (fun kv i wr => ∃ j : Nat, j ≤ n ∧ i = .int .i64 j ∧ kv = .int .i64 (k + adv ((strip L).take j)) ∧ ∃ M : List Ent, Hid (M.length = j ∧ strip M = markTb k ((strip L).take j) ∧ M.map Ent.v = (L.take j).map Ent.v) ∧ Hid (TabO B wr (.slice (some ⟨g, 0, none⟩) n cap) (M ++ L.drop j)) ∧ Hid (Wrote B E w wr)) (fun _ i _ => n - (intOf i).toNat)
    case atStart => exact ⟨0, Nat.zero_le _, rfl, by simp [adv], [], Lib.hid ⟨rfl, rfl, rfl⟩, HB, Lib.hid (Wrote.refl _ _ _)⟩
    case round =>
      obtain ⟨j, hj, rfl, rfl, M, hM, ho, hg⟩ := hrel
      by_cases hlt : j < n
      · have hn := HN.out
        have hlen : n = (M ++ L.drop j).length := by rw [List.length_append, hM.out.1, List.length_drop]; omega
        have hlt2 : j < (M ++ L.drop j).length := by omega
        have hnj : nth (M ++ L.drop j) j = nth L j := by
          simp only [nth, List.getD]
          rw [List.getElem?_append_right (by rw [hM.out.1]; exact Nat.le_refl _), hM.out.1]
          simp
        obtain ⟨⟨k1, k2⟩, -, hnm⟩ := ho.out.cells hlen hlt2
        rw [hnj] at k1 hnm
        have hps : nth (strip L) j = (nth L j).t := strip_nth (by omega)
        have hst := HST.out j (by omega)
        rw [hps] at hst
        have hst : adv ((strip L).take (j + 1)) = adv ((strip L).take j) + (nth L j).ps.length + 1 := hst
        have hadv := HADV.out j
        have hadv2 := HADV.out (j + 1)
        have HNM := Lib.hid hnm
        have HSTP := Lib.hid hst; have HLEN := Lib.hid hlen; have HLT2 := Lib.hid hlt2; have HNJ := Lib.hid hnj
        have hpl : (nth L j).ps.length ≤ 100000000 := by omega
        have ha0 : (adv ((strip L).take j) : Int) ≤ 100000000 := by omega
        clear hn hlen hlt2 hnj hps hst hadv hadv2 hnm
        go_wp2_with fail
        refine (markStringS B _ (nth L j).ps wr (k + adv ((strip L).take j)) HNM.out hpl (by omega) (by omega)).mono ?_
        rintro e w1 ⟨rfl, ho1, hg1⟩
        have HO1 := Lib.hid (TabO.named ho.out HLT2.out (ps := marks markT (k + adv ((strip L).take j)) (nth L j).ps.length) (by rw [HNJ.out]; exact ho1) (by rw [HNJ.out]; exact hg1))
        have HG1 := Lib.hid (hg.out.trans (Wrote.of hg1 (fun b hb => ⟨((HNM.out.lt b hb)).1, HE2.out _ (nth_mem (by have := HN.out; omega)) b hb⟩)))
        obtain ⟨-, ⟨k3, k4⟩, -⟩ := HO1.out.cells (by rw [List.length_set]; exact HLEN.out) (k := j) (by rw [List.length_set]; exact HLT2.out)
        obtain ⟨p1, p2⟩ := HO1.out.valued (by rw [List.length_set]; exact HLEN.out) (k := j) (by rw [List.length_set]; exact HLT2.out) (k + adv ((strip L).take j) + (nth L j).ps.length)
        rw [nth_set HLT2.out, List.set_set] at p1
        have HP1 := Lib.hid p1
        have HP2 := Lib.hid p2
        clear k1 k2 ho1 hg1 p1 p2
        go_wp2_with fail
        go_roundw
        case rel =>
          refine ⟨j + 1, by omega, by go_num, ?_, M ++ [(nth L j).marked (k + adv ((strip L).take j))], Lib.hid ⟨?_, ?_, ?_⟩, Lib.hid ?_, Lib.hid (HG1.out.trans (Wrote.of HP2.out (fun b hb => by cases hb; exact ⟨by omega, by omega⟩)))⟩
          · rw [HSTP.out]; go_num
          · simp [hM.out.1]
          · have e1 : (strip L).take (j + 1) = (strip L).take j ++ [(nth L j).t] := by
              have := HN.out
              rw [List.take_succ_eq_append_getElem (by rw [strip_length]; omega), ← nth_eq, strip_nth (by omega)]
            rw [e1, markTb_append, strip_append, hM.out.2.1]
            rfl
          · have e1 : L.take (j + 1) = L.take j ++ [nth L j] := by
              have := HN.out
              rw [List.take_succ_eq_append_getElem (by omega), nth_eq (by omega)]
            rw [e1, List.map_append, List.map_append, hM.out.2.2]
            rfl
          · have := HP1.out
            rw [HNJ.out] at this
            have e2 : (M ++ L.drop j).set j ((nth L j).marked (k + adv ((strip L).take j))) = M ++ [(nth L j).marked (k + adv ((strip L).take j))] ++ L.drop (j + 1) := by
              have := HN.out
              rw [List.set_append_right _ _ (by rw [hM.out.1]; exact Nat.le_refl _), hM.out.1, Nat.sub_self, drop_nth' (by omega), List.set_cons_zero, List.append_assoc]
              rfl
            rw [← e2]
            exact this
        case measure => simp [intOf]; omega
      · obtain rfl : j = n := by omega
        clear hlt
        go_wp2
        go_ret
        have hn := HN.out
        have e1 : (strip L).take j = strip L := List.take_of_length_le (by rw [strip_length]; omega)
        have e2 : L.take j = L := List.take_of_length_le (by omega)
        have e3 : L.drop j = [] := List.drop_eq_nil_of_le (by omega)
        have hh := ho.out
        have hm := hM.out
        rw [e3, List.append_nil] at hh
        rw [e1, e2] at hm
        rw [e1]
        refine ⟨rfl, ⟨M, hm.2.1, hh, fun b hb => by cases hb; exact hgE, fun y hy b hb => ?_⟩, hg.out⟩
        have : y.v ∈ L.map Ent.v := by rw [← hm.2.2]; exact List.mem_map_of_mem hy
        obtain ⟨z, hz, hzv⟩ := List.mem_map.1 this
        exact HE2.out z hz b (by rw [hzv]; exact hb)
end Go.Proofs.Ytihcebjbkifbpaa.Row
