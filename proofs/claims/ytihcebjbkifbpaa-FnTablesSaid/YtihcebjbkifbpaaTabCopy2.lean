/- Contracts of the model's functions that build tables: the copy, RemoveEntry, EntriesUnder. No conditions but that lengths fit. -/
import Derived.Test.YtihcebjbkifbpaaTabCopy
import Derived.Test.YtihcebjbkifbpaaTabFind
namespace Go.Proofs.Ytihcebjbkifbpaa.Row
open Go.ChangeShapes Go.WideShapes Go.ChangeAt Go.RowKit Go.Instr
set_option linter.unusedVariables false
set_option maxRecDepth 100000

theorem ownK_some {α : Type} {enc : α → List Value} {e : TypeId} {sz B : Nat} {w : World} {v : Value} {l : List α} (h : OwnK e enc sz B w v l) (hl : l ≠ []) : v.ownBlock ≠ none := by
  rcases h.form with ⟨_, h0⟩ | ⟨g, cap, rfl, _⟩
  · exact absurd h0 hl
  · simp [Value.ownBlock]
set_option maxHeartbeats 4000000 in
theorem l6CopyB (v : Value) (T : List (List ByteArray × Int)) (w : World) (h : TabHolds w v T) (hl : T.length ≤ 4000000) (hT : smT T) :
    Calls Try.prog 51 #[v] w fun e w' => ∃ v, e = .returned v ∧ TabOwn w.heap.size w' v T ∧ Below w.heap.size w w' ∧ v.ownBlock ≠ none := by
  obtain ⟨L, rfl, h⟩ := h
  obtain ⟨x, n, cx, rfl, hn, hcx, hh⟩ := h.shapeN
  rw [strip_length, ← hn] at hl
  have HN := Lib.hid hn
  have HH := Lib.hid hh
  have HT := Lib.hid hT
  have HO := Lib.hid (TabO.empty w)
  have HB := Lib.hid ((Below.refl w.heap.size w).alloc (Nat.le_refl _) (.cells #[] 44))
  clear hn h hh hT
  go_enter Try.func51, Try.ntmps51
  go_wp2
  go_loopw [3, 4] (fun u i wr => ∃ k : Nat, k ≤ n ∧ i = .int .i64 k ∧ ∃ M : List Ent, Hid (M.length = k) ∧ Hid (strip M = (strip L).take k) ∧ Hid (TabO w.heap.size wr u M) ∧ Hid (Below w.heap.size w wr) ∧ Hid (u.ownBlock ≠ none)) (fun _ i _ => n - (intOf i).toNat)
  case atStart => exact ⟨0, Nat.zero_le _, rfl, [], Lib.hid rfl, Lib.hid (by simp [strip]), HO, HB, Lib.hid (by simp [Value.ownBlock])⟩
  case round =>
    obtain ⟨k, hk, rfl, M, hM, hst, ho, hb, hob⟩ := hrel
    obtain ⟨xu, nu, cu, rfl, -, -, ho⟩ := ho.out.shapeN
    have ho := Lib.hid ho
    by_cases hlt : k < n
    · have hlen := HN.out
      obtain ⟨b, off, rfl, hc, hd, hnm⟩ := (HH.out.on hb.out).at (k := k) (by omega)
      have HL := Lib.hid (smT_psl HT.out (k := k) (by omega))
      have HNM := Lib.hid hnm
      have HLM := Lib.hid (show (M.length + 1) * 32 ≤ 140737488355328 by have := hM.out; omega)
      have HLX := Lib.hid (show M.length + 1 ≤ maxLen by have := hM.out; unfold maxLen; omega)
      have HKL := Lib.hid (show k < L.length by omega)
      clear hlen hnm
      go_wp2_with fail
      refine (l4Copy _ (nth L k).ps _ HNM.out (Nat.le_trans HL.out (by decide))).mono ?_
      rintro e w3 ⟨v3, rfl, ho3, hb3⟩
      obtain ⟨x3, n3, c3, rfl, -, -, ho3⟩ := ho3.shapeN
      have ha := (Below.refl w3.heap.size w3).alloc (Nat.le_refl _) (.cells #[.slice x3 n3 c3] 27)
      have hq0 : ((w3.alloc (.cells #[.slice x3 n3 c3] 27))).cell? ⟨w3.heap.size, 0, none⟩ = some (.slice x3 n3 c3) := Ret.cell_at rfl
      have hq1 : ((w3.alloc (.cells #[.slice x3 n3 c3] 27))).cell? ⟨b, off + k * 2 + 1, none⟩ = some (.int .i64 (nth L k).val) := (ha.cell (Nat.lt_of_lt_of_le (cell_lt hd) hb3.size)).trans ((hb3.cell (cell_lt hd)).trans hd)
      have hq0d : ((w3.alloc (.cells #[.slice x3 n3 c3] 27))).drew.cell? ⟨w3.heap.size, 0, none⟩ = some (.slice x3 n3 c3) := hq0
      have hq1d : ((w3.alloc (.cells #[.slice x3 n3 c3] 27))).drew.cell? ⟨b, off + k * 2 + 1, none⟩ = some (.int .i64 (nth L k).val) := hq1
      have HO3 := Lib.hid (show Own 9 Value.string wr.heap.size ((w3.alloc (.cells #[.slice x3 n3 c3] 27)).drew) (Ent.v ⟨x3, n3, c3, (nth L k).ps, (nth L k).val⟩) (nth L k).ps from (ho3.on ha).on (Below.refl _ _).drew)
      have hbd := ((hb3.trans (ha.mono hb3.size))).drew
      have HB3 := Lib.hid hbd
      have HOA := Lib.hid ((ho.out.1.on hbd).on ((Below.refl _ _).alloc (Nat.le_refl _) (.cells #[.slice x3 n3 c3, .int .i64 (nth L k).val] 44)))
      have hB3 : w.heap.size ≤ (((w3.alloc (.cells #[.slice x3 n3 c3] 27)).drew).alloc (.cells #[.slice x3 n3 c3, .int .i64 (nth L k).val] 44)).heap.size := by have := Nat.le_trans hb.out.size hbd.size; rw [World.size_alloc]; omega
      have hs1 := holdsK_one szE 44 ((w3.alloc (.cells #[.slice x3 n3 c3] 27)).drew) ⟨x3, n3, c3, (nth L k).ps, (nth L k).val⟩
      rw [show ((w3.alloc (.cells #[.slice x3 n3 c3] 27)).drew).heap.size = w3.heap.size + 1 by simp] at hs1
      have HS1 := Lib.hid hs1
      clear hc hd ho3 hb3 ha hbd hs1
      go_wp2_with fail
      go_region_law (refine step_appK kindE (B := w.heap.size) (l := M) (m := [⟨x3, n3, c3, (nth L k).ps, (nth L k).val⟩]) rfl _ _ (by rfl) Try.underlying24 (by rfl) (by rfl) HOA.out HS1.out HLM.out HLX.out hB3 ?_; intro v4 w4 ho4 hg4; obtain ⟨x4, n4, c4, rfl, -, -, ho4⟩ := ho4.shapeN; have HQ := Lib.hid (TabO.grow ho.out hb.out hb.out.size HB3.out HO3.out ho4 hg4); clear ho4 hg4)
      all_goals
        have HST := Lib.hid (strip_next (x := ⟨x3, n3, c3, (nth L k).ps, (nth L k).val⟩) HKL.out hst.out rfl)
        clear hq0 hq1 hq0d hq1d
        go_wp2_with fail
        go_roundw
        case rel => exact ⟨k + 1, by omega, by go_num, _, Lib.hid (by simp [hM.out]), HST, Lib.hid HQ.out.1, Lib.hid HQ.out.2, Lib.hid (ownK_some HQ.out.1.1 (by simp))⟩
        case measure => simp [intOf]; omega
    · obtain rfl : k = n := by omega
      clear hlt
      go_wp2
      go_ret
      refine ⟨_, rfl, ⟨M, ?_, ho.out⟩, hb.out, hob.out⟩
      rw [hst.out, List.take_of_length_le (by rw [strip_length, ← HN.out]; exact Nat.le_refl _)]

theorem l6Copy (v : Value) (T : List (List ByteArray × Int)) (w : World) (h : TabHolds w v T) (hl : T.length ≤ 4000000) (hT : smT T) :
    Calls Try.prog 51 #[v] w (GivesT w T) :=
  (l6CopyB v T w h hl hT).mono fun e w' ⟨v', h1, h2, h3, _⟩ => ⟨v', h1, h2, h3⟩

theorem filter_next {M L : List Ent} {k : Nat} {x : Ent} {p : List ByteArray × Int → Bool} (h : k < L.length) (hM : strip M = ((strip L).take k).filter p) (hx : x.t = (nth L k).t) (hp : p (nth L k).t = true) : strip (M ++ [x]) = ((strip L).take (k + 1)).filter p := by
  rw [strip_append, hM, take_next (by rw [strip_length]; exact h), strip_nth h, List.filter_append, ← hx]
  rw [← hx] at hp
  simp [hp, strip]
theorem filter_skip {M L : List Ent} {k : Nat} {p : List ByteArray × Int → Bool} (h : k < L.length) (hM : strip M = ((strip L).take k).filter p) (hp : p (nth L k).t = false) : strip M = ((strip L).take (k + 1)).filter p := by
  rw [hM, take_next (by rw [strip_length]; exact h), strip_nth h, List.filter_append]
  simp [hp]
/-- The entries without this name; the entries under this name. -/
def rmT (T : List (List ByteArray × Int)) (n : List ByteArray) : List (List ByteArray × Int) := T.filter (fun x => !isN n x)
def unT (T : List (List ByteArray × Int)) (n : List ByteArray) : List (List ByteArray × Int) := T.filter (fun x => hpB x.1 n)

set_option maxHeartbeats 4000000 in
theorem specRemoveEntry (v u : Value) (T : List (List ByteArray × Int)) (m : List ByteArray) (w : World) (h : TabHolds w v T) (g : Holds Value.string w u m) (hl : T.length ≤ 4000000) (hT : smT T) (hm : m.length ≤ 9000000) :
    Calls Try.prog 26 #[v, .agg #[u]] w (GivesT w (rmT T m)) := by
  obtain ⟨L, rfl, h⟩ := h
  obtain ⟨x, n, cx, rfl, hn, hcx, hh⟩ := h.shapeN
  obtain ⟨y, q, cy, rfl, -, hcy, hg⟩ := g.shapeN
  rw [strip_length, ← hn] at hl
  have hb0 := (Below.refl w.heap.size w).alloc (Nat.le_refl _) (.cells #[.slice y q cy] 27)
  have hb1 := hb0.alloc (by simp) (.cells #[] 44)
  have HN := Lib.hid hn
  have HH := Lib.hid hh
  have HG := Lib.hid (hg.on hb0)
  have HT := Lib.hid hT
  have HC0 := Lib.hid ((Ret.Box.new w (.slice y q cy) 27).on ((Below.refl _ _).alloc (Nat.le_refl _) (.cells #[] 44)))
  have HO := Lib.hid ((TabO.empty (w.alloc (.cells #[.slice y q cy] 27))))
  simp only [World.size_alloc] at HO
  have HB := Lib.hid hb1
  have HB1 := Lib.hid ((Below.refl _ _).alloc (Nat.le_refl _) (.cells #[] 44) : Below (w.alloc (.cells #[.slice y q cy] 27)).heap.size (w.alloc (.cells #[.slice y q cy] 27)) _)
  simp only [World.size_alloc] at HB1
  clear hn h hh hT g hg hb0 hb1
  go_enter Try.func26, Try.ntmps26
  go_wp2
  go_loopw [5, 6] (fun u i wr => ∃ k : Nat, k ≤ n ∧ i = .int .i64 k ∧ ∃ M : List Ent, Hid (M.length ≤ k) ∧ Hid (strip M = ((strip L).take k).filter (fun x => !isN m x)) ∧ Hid (TabO (w.heap.size + 1) wr u M) ∧ Hid (Below w.heap.size w wr) ∧ Hid (Below (w.heap.size + 1) (w.alloc (.cells #[.slice y q cy] 27)) wr)) (fun _ i _ => n - (intOf i).toNat)
  case atStart => exact ⟨0, Nat.zero_le _, rfl, [], Lib.hid (Nat.le_refl _), Lib.hid (by simp [strip]), HO, HB, HB1⟩
  case round =>
    obtain ⟨k, hk, rfl, M, hM, hst, ho, hb, hbb⟩ := hrel
    obtain ⟨xu, nu, cu, rfl, -, -, ho⟩ := ho.out.shapeN
    have ho := Lib.hid ho
    by_cases hlt : k < n
    · have hlen := HN.out
      obtain ⟨b, off, rfl, hc, hd, hnm⟩ := (HH.out.on hb.out).at (k := k) (by omega)
      have HL := Lib.hid (smT_psl HT.out (k := k) (by omega))
      have HLM := Lib.hid (show (M.length + 1) * 32 ≤ 140737488355328 by have := hM.out; omega)
      have HLX := Lib.hid (show M.length + 1 ≤ maxLen by have := hM.out; unfold maxLen; omega)
      have HKL := Lib.hid (show k < L.length by omega)
      have hbx : Ret.Box wr w.heap.size (.slice y q cy) 27 := (hbb.out.block w.heap.size (by omega)).trans (Ret.Box.new w (.slice y q cy) 27)
      have hc0 := hbx.cell
      have hgg : Holds Value.string wr (.slice y q cy) m := by
        have h0 := HG.out
        have hsz : (w.alloc (.cells #[.slice y q cy] 27)).heap.size = w.heap.size + 1 := by simp
        exact h0.on (by rw [hsz]; exact hbb.out)
      have hk0 : (0 : Int) ≤ (k : Int) := by omega
      have hk1 : (k : Int) < (n : Int) := by omega
      have HNM := Lib.hid (hnm.on (Below.refl wr.heap.size wr).drew)
      have HGM := Lib.hid (hgg.on (Below.refl wr.heap.size wr).drew)
      have HCK := Lib.hid hc; have HDK := Lib.hid hd; have HNM0 := Lib.hid hnm
      have KS := Lib.hid (show wr.drew.cell? ⟨b, off + k * 2, none⟩ = some (.slice (nth L k).ad (nth L k).n (nth L k).cap) ∧ wr.drew.cell? ⟨w.heap.size, 0, none⟩ = some (.slice y q cy) ∧ Below wr.heap.size wr wr.drew from ⟨hc, hc0, (Below.refl _ _).drew⟩)
      by_cases he : eqB (nth L k).ps m = true
      · have HEQ := Lib.hid he
        clear hlen hnm hc hd hc0 hbx hgg he
        go_wp2_with fail
        go_region_held3 (fun w' => w'.cell? ⟨b, off + k * 2, none⟩ = some (.slice (nth L k).ad (nth L k).n (nth L k).cap) ∧ w'.cell? ⟨w.heap.size, 0, none⟩ = some (.slice y q cy) ∧ Below wr.heap.size wr w') (first | exact KS.out | exact keepN2 KS.out hb1) ((go_at_call 63; refine (sEqV true HEQ.out HNM.out HGM.out HL.out hm).mono ?_; rintro e w1 ⟨rfl, hb1⟩))
        all_goals
          have HW := Lib.hid (keepN2 KS.out hb1).2.2
          clear hb1
          have HOd := Lib.hid (ho.out.on HW.out)
          have HBd := Lib.hid (hb.out.trans (HW.out.mono hb.out.size))
          have HBBd := Lib.hid (hbb.out.trans (HW.out.mono (by have := hbb.out.size; simp at this; omega)))
          have HST := Lib.hid (filter_skip (p := (fun x => !isN m x)) HKL.out hst.out (by rw [show isN m (nth L k).t = true from HEQ.out]; rfl))
          go_wp2_with fail
          go_roundw
          case rel => exact ⟨k + 1, by omega, by go_num, _, Lib.hid (by have := hM.out; omega), HST, HOd, HBd, HBBd⟩
          case measure => simp [intOf]; omega
      · have he : eqB (nth L k).ps m = false := by simpa using he
        have HEQ := Lib.hid he
        clear hlen hnm hc hd hc0 hbx hgg he
        go_wp2_with fail
        go_region_held3 (fun w' => w'.cell? ⟨b, off + k * 2, none⟩ = some (.slice (nth L k).ad (nth L k).n (nth L k).cap) ∧ w'.cell? ⟨w.heap.size, 0, none⟩ = some (.slice y q cy) ∧ Below wr.heap.size wr w') (first | exact KS.out | exact keepN2 KS.out hb1) ((go_at_call 63; refine (sEqV false HEQ.out HNM.out HGM.out HL.out hm).mono ?_; rintro e w1 ⟨rfl, hb1⟩))
        all_goals
          have HW := Lib.hid (keepN2 KS.out hb1).2.2
          clear hb1
          have hdr := HW.out.drew
          have hc2 : w1.drew.cell? ⟨b, off + k * 2, none⟩ = some (.slice (nth L k).ad (nth L k).n (nth L k).cap) := (hdr.cell (cell_lt HCK.out)).trans HCK.out
          have hd2 : w1.drew.cell? ⟨b, off + k * 2 + 1, none⟩ = some (.int .i64 (nth L k).val) := (hdr.cell (cell_lt HDK.out)).trans HDK.out
          have HNM2 := Lib.hid (show Holds Value.string w1.drew (.slice (nth L k).ad (nth L k).n (nth L k).cap) (nth L k).ps from HNM0.out.on hdr)
          have HOd := Lib.hid (ho.out.on hdr)
          have HBd := Lib.hid (hb.out.trans (hdr.mono hb.out.size))
          have HBBd := Lib.hid (hbb.out.trans (hdr.mono (by have := hbb.out.size; simp at this; omega)))
          have HSZ := Lib.hid (show w.heap.size + 1 ≤ w1.drew.heap.size by have := HBBd.out.size; simp at this; show w.heap.size + 1 ≤ w1.heap.size; omega)
          clear hdr
          go_wp2_with fail
          go_region_law (first | (refine step_appK kindE (B := w.heap.size + 1) (l := M) (m := [⟨x3, n3, c3, (nth L k).ps, (nth L k).val⟩]) rfl _ _ (by rfl) Try.underlying24 (by rfl) (by rfl) HOA.out (holdsK_one szE 44 w3 ⟨x3, n3, c3, (nth L k).ps, (nth L k).val⟩) HLM.out HLX.out hB3 ?_; intro v4 w4 ho4 hg4; obtain ⟨x4, n4, c4, rfl, -, -, ho4⟩ := ho4.shapeN; have HQ := Lib.hid (TabO.grow HOd.out HBBd.out HSZ.out HB3.out HO3.out ho4 hg4); have HQB := Lib.hid (((HBd.out.trans (HB3.out.mono HBd.out.size)).alloc (Nat.le_trans HBd.out.size HB3.out.size) (.cells #[.slice x3 n3 c3, .int .i64 (nth L k).val] 44)).grown hg4 (by omega) (fun g hg => by have := (HOA.out.lt g hg).1; omega)); clear ho4 hg4) | (go_simp; go_at_call 54; refine (l4Copy _ (nth L k).ps _ HNM2.out (Nat.le_trans HL.out (by decide))).mono ?_; rintro e w3 ⟨v3, rfl, ho3, hb3⟩; obtain ⟨x3, n3, c3, rfl, -, -, ho3⟩ := ho3.shapeN; have HO3 := Lib.hid (show Own 9 Value.string _ w3 (Ent.v ⟨x3, n3, c3, (nth L k).ps, (nth L k).val⟩) (nth L k).ps from ho3); have HB3 := Lib.hid hb3; have hd3 : w3.cell? ⟨b, off + k * 2 + 1, none⟩ = some (.int .i64 (nth L k).val) := (hb3.cell (cell_lt hd2)).trans hd2; have HOA := Lib.hid ((HOd.out.1.on hb3).on ((Below.refl _ _).alloc (Nat.le_refl _) (.cells #[.slice x3 n3 c3, .int .i64 (nth L k).val] 44))); have hB3 : w.heap.size + 1 ≤ (w3.alloc (.cells #[.slice x3 n3 c3, .int .i64 (nth L k).val] 44)).heap.size := (by have := Nat.le_trans HSZ.out hb3.size; simp; omega); clear ho3 hb3))
          all_goals
            have HST := Lib.hid (filter_next (x := ⟨x3, n3, c3, (nth L k).ps, (nth L k).val⟩) (p := (fun x => !isN m x)) HKL.out hst.out rfl (by rw [show isN m (nth L k).t = false from HEQ.out]; rfl))
            clear hd3 hc2 hd2
            go_wp2_with fail
            go_roundw
            case rel => exact ⟨k + 1, by omega, by go_num, _, Lib.hid (by have := hM.out; simp; omega), HST, Lib.hid HQ.out.1, HQB, Lib.hid HQ.out.2⟩
            case measure => simp [intOf]; omega
    · obtain rfl : k = n := by omega
      clear hlt
      go_wp2
      go_ret
      refine ⟨_, rfl, ⟨M, ?_, ho.out.mono (by omega)⟩, hb.out⟩
      rw [hst.out, List.take_of_length_le (by rw [strip_length, ← HN.out]; exact Nat.le_refl _)]
      rfl

set_option maxHeartbeats 4000000 in
theorem specEntriesUnder (v u : Value) (T : List (List ByteArray × Int)) (m : List ByteArray) (w : World) (h : TabHolds w v T) (g : Holds Value.string w u m) (hl : T.length ≤ 4000000) (hT : smT T) (hm : m.length ≤ 9000000) :
    Calls Try.prog 28 #[v, .agg #[u]] w (GivesT w (unT T m)) := by
  obtain ⟨L, rfl, h⟩ := h
  obtain ⟨x, n, cx, rfl, hn, hcx, hh⟩ := h.shapeN
  obtain ⟨y, q, cy, rfl, -, hcy, hg⟩ := g.shapeN
  rw [strip_length, ← hn] at hl
  have hb0 := (Below.refl w.heap.size w).alloc (Nat.le_refl _) (.cells #[.slice y q cy] 27)
  have hb1 := hb0.alloc (by simp) (.cells #[] 44)
  have HN := Lib.hid hn
  have HH := Lib.hid hh
  have HG := Lib.hid (hg.on hb0)
  have HT := Lib.hid hT
  have HC0 := Lib.hid ((Ret.Box.new w (.slice y q cy) 27).on ((Below.refl _ _).alloc (Nat.le_refl _) (.cells #[] 44)))
  have HO := Lib.hid ((TabO.empty (w.alloc (.cells #[.slice y q cy] 27))))
  simp only [World.size_alloc] at HO
  have HB := Lib.hid hb1
  have HB1 := Lib.hid ((Below.refl _ _).alloc (Nat.le_refl _) (.cells #[] 44) : Below (w.alloc (.cells #[.slice y q cy] 27)).heap.size (w.alloc (.cells #[.slice y q cy] 27)) _)
  simp only [World.size_alloc] at HB1
  clear hn h hh hT g hg hb0 hb1
  go_enter Try.func28, Try.ntmps28
  go_wp2
  go_loopw [5, 6] (fun u i wr => ∃ k : Nat, k ≤ n ∧ i = .int .i64 k ∧ ∃ M : List Ent, Hid (M.length ≤ k) ∧ Hid (strip M = ((strip L).take k).filter (fun x => hpB x.1 m)) ∧ Hid (TabO (w.heap.size + 1) wr u M) ∧ Hid (Below w.heap.size w wr) ∧ Hid (Below (w.heap.size + 1) (w.alloc (.cells #[.slice y q cy] 27)) wr)) (fun _ i _ => n - (intOf i).toNat)
  case atStart => exact ⟨0, Nat.zero_le _, rfl, [], Lib.hid (Nat.le_refl _), Lib.hid (by simp [strip]), HO, HB, HB1⟩
  case round =>
    obtain ⟨k, hk, rfl, M, hM, hst, ho, hb, hbb⟩ := hrel
    obtain ⟨xu, nu, cu, rfl, -, -, ho⟩ := ho.out.shapeN
    have ho := Lib.hid ho
    by_cases hlt : k < n
    · have hlen := HN.out
      obtain ⟨b, off, rfl, hc, hd, hnm⟩ := (HH.out.on hb.out).at (k := k) (by omega)
      have HL := Lib.hid (smT_psl HT.out (k := k) (by omega))
      have HLM := Lib.hid (show (M.length + 1) * 32 ≤ 140737488355328 by have := hM.out; omega)
      have HLX := Lib.hid (show M.length + 1 ≤ maxLen by have := hM.out; unfold maxLen; omega)
      have HKL := Lib.hid (show k < L.length by omega)
      have hbx : Ret.Box wr w.heap.size (.slice y q cy) 27 := (hbb.out.block w.heap.size (by omega)).trans (Ret.Box.new w (.slice y q cy) 27)
      have hc0 := hbx.cell
      have hgg : Holds Value.string wr (.slice y q cy) m := by
        have h0 := HG.out
        have hsz : (w.alloc (.cells #[.slice y q cy] 27)).heap.size = w.heap.size + 1 := by simp
        exact h0.on (by rw [hsz]; exact hbb.out)
      have hk0 : (0 : Int) ≤ (k : Int) := by omega
      have hk1 : (k : Int) < (n : Int) := by omega
      have HNM := Lib.hid (hnm.on (Below.refl wr.heap.size wr).drew)
      have HGM := Lib.hid (hgg.on (Below.refl wr.heap.size wr).drew)
      have HCK := Lib.hid hc; have HDK := Lib.hid hd; have HNM0 := Lib.hid hnm
      have KS := Lib.hid (show wr.drew.cell? ⟨b, off + k * 2, none⟩ = some (.slice (nth L k).ad (nth L k).n (nth L k).cap) ∧ wr.drew.cell? ⟨w.heap.size, 0, none⟩ = some (.slice y q cy) ∧ Below wr.heap.size wr wr.drew from ⟨hc, hc0, (Below.refl _ _).drew⟩)
      by_cases he : hpB (nth L k).ps m = true
      · have HEQ := Lib.hid he
        clear hlen hnm hc hd hc0 hbx hgg he
        go_wp2_with fail
        go_region_held3 (fun w' => w'.cell? ⟨b, off + k * 2, none⟩ = some (.slice (nth L k).ad (nth L k).n (nth L k).cap) ∧ w'.cell? ⟨w.heap.size, 0, none⟩ = some (.slice y q cy) ∧ Below wr.heap.size wr w') (first | exact KS.out | exact keepN2 KS.out hb1) ((go_at_call 59; refine (sHpV true HEQ.out HNM.out HGM.out HL.out hm).mono ?_; rintro e w1 ⟨rfl, hb1⟩))
        all_goals
          have HW := Lib.hid (keepN2 KS.out hb1).2.2
          clear hb1
          have hdr := HW.out.drew
          have hc2 : w1.drew.cell? ⟨b, off + k * 2, none⟩ = some (.slice (nth L k).ad (nth L k).n (nth L k).cap) := (hdr.cell (cell_lt HCK.out)).trans HCK.out
          have hd2 : w1.drew.cell? ⟨b, off + k * 2 + 1, none⟩ = some (.int .i64 (nth L k).val) := (hdr.cell (cell_lt HDK.out)).trans HDK.out
          have HNM2 := Lib.hid (show Holds Value.string w1.drew (.slice (nth L k).ad (nth L k).n (nth L k).cap) (nth L k).ps from HNM0.out.on hdr)
          have HOd := Lib.hid (ho.out.on hdr)
          have HBd := Lib.hid (hb.out.trans (hdr.mono hb.out.size))
          have HBBd := Lib.hid (hbb.out.trans (hdr.mono (by have := hbb.out.size; simp at this; omega)))
          have HSZ := Lib.hid (show w.heap.size + 1 ≤ w1.drew.heap.size by have := HBBd.out.size; simp at this; show w.heap.size + 1 ≤ w1.heap.size; omega)
          clear hdr
          go_wp2_with fail
          go_region_law (first | (refine step_appK kindE (B := w.heap.size + 1) (l := M) (m := [⟨x3, n3, c3, (nth L k).ps, (nth L k).val⟩]) rfl _ _ (by rfl) Try.underlying24 (by rfl) (by rfl) HOA.out (holdsK_one szE 44 w3 ⟨x3, n3, c3, (nth L k).ps, (nth L k).val⟩) HLM.out HLX.out hB3 ?_; intro v4 w4 ho4 hg4; obtain ⟨x4, n4, c4, rfl, -, -, ho4⟩ := ho4.shapeN; have HQ := Lib.hid (TabO.grow HOd.out HBBd.out HSZ.out HB3.out HO3.out ho4 hg4); have HQB := Lib.hid (((HBd.out.trans (HB3.out.mono HBd.out.size)).alloc (Nat.le_trans HBd.out.size HB3.out.size) (.cells #[.slice x3 n3 c3, .int .i64 (nth L k).val] 44)).grown hg4 (by omega) (fun g hg => by have := (HOA.out.lt g hg).1; omega)); clear ho4 hg4) | (go_simp; go_at_call 54; refine (l4Copy _ (nth L k).ps _ HNM2.out (Nat.le_trans HL.out (by decide))).mono ?_; rintro e w3 ⟨v3, rfl, ho3, hb3⟩; obtain ⟨x3, n3, c3, rfl, -, -, ho3⟩ := ho3.shapeN; have HO3 := Lib.hid (show Own 9 Value.string _ w3 (Ent.v ⟨x3, n3, c3, (nth L k).ps, (nth L k).val⟩) (nth L k).ps from ho3); have HB3 := Lib.hid hb3; have hd3 : w3.cell? ⟨b, off + k * 2 + 1, none⟩ = some (.int .i64 (nth L k).val) := (hb3.cell (cell_lt hd2)).trans hd2; have HOA := Lib.hid ((HOd.out.1.on hb3).on ((Below.refl _ _).alloc (Nat.le_refl _) (.cells #[.slice x3 n3 c3, .int .i64 (nth L k).val] 44))); have hB3 : w.heap.size + 1 ≤ (w3.alloc (.cells #[.slice x3 n3 c3, .int .i64 (nth L k).val] 44)).heap.size := (by have := Nat.le_trans HSZ.out hb3.size; simp; omega); clear ho3 hb3))
          all_goals
            have HST := Lib.hid (filter_next (x := ⟨x3, n3, c3, (nth L k).ps, (nth L k).val⟩) (p := (fun x => hpB x.1 m)) HKL.out hst.out rfl (by exact HEQ.out))
            clear hd3 hc2 hd2
            go_wp2_with fail
            go_roundw
            case rel => exact ⟨k + 1, by omega, by go_num, _, Lib.hid (by have := hM.out; simp; omega), HST, Lib.hid HQ.out.1, HQB, Lib.hid HQ.out.2⟩
            case measure => simp [intOf]; omega
      · have he : hpB (nth L k).ps m = false := by simpa using he
        have HEQ := Lib.hid he
        clear hlen hnm hc hd hc0 hbx hgg he
        go_wp2_with fail
        go_region_held3 (fun w' => w'.cell? ⟨b, off + k * 2, none⟩ = some (.slice (nth L k).ad (nth L k).n (nth L k).cap) ∧ w'.cell? ⟨w.heap.size, 0, none⟩ = some (.slice y q cy) ∧ Below wr.heap.size wr w') (first | exact KS.out | exact keepN2 KS.out hb1) ((go_at_call 59; refine (sHpV false HEQ.out HNM.out HGM.out HL.out hm).mono ?_; rintro e w1 ⟨rfl, hb1⟩))
        all_goals
          have HW := Lib.hid (keepN2 KS.out hb1).2.2
          clear hb1
          have HOd := Lib.hid (ho.out.on HW.out)
          have HBd := Lib.hid (hb.out.trans (HW.out.mono hb.out.size))
          have HBBd := Lib.hid (hbb.out.trans (HW.out.mono (by have := hbb.out.size; simp at this; omega)))
          have HST := Lib.hid (filter_skip (p := (fun x => hpB x.1 m)) HKL.out hst.out (by exact HEQ.out))
          go_wp2_with fail
          go_roundw
          case rel => exact ⟨k + 1, by omega, by go_num, _, Lib.hid (by have := hM.out; omega), HST, HOd, HBd, HBBd⟩
          case measure => simp [intOf]; omega
    · obtain rfl : k = n := by omega
      clear hlt
      go_wp2
      go_ret
      refine ⟨_, rfl, ⟨M, ?_, ho.out.mono (by omega)⟩, hb.out⟩
      rw [hst.out, List.take_of_length_le (by rw [strip_length, ← HN.out]; exact Nat.le_refl _)]
      rfl
end Go.Proofs.Ytihcebjbkifbpaa.Row
