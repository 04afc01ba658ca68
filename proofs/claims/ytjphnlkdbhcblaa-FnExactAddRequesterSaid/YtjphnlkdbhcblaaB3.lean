/- Contracts and mathematics, joined: PendingInterestSM, SeenNonceSM, NameK, NameSK, NameSM, NameSW, PendZ, PendN1, PendL1, PendL, PendE0, PendR1, PendR2, PendR3, PendR4, PendR5, Open. No conditions but those that each states. -/
import Derived.Test.YtjphnlkdbhcblaaB2
import Derived.Test.YtjphnlkdbhcblaaB1
import Derived.WalkKit
import Derived.Deep.RegionHeld3
import Derived.Deep.RegionLaw
import Derived.RangeFuncNested
import Derived.RangeFuncBound
import Derived.RangeFuncCalls
import Derived.RangeFuncLeaves
import Derived.RangeFuncBox
import Derived.Shelf.Abstract
import Derived.Shelf.RegionOpen
import Derived.OwnWalkIn
import Derived.TacticsInMore
import Derived.LoopNIn
import Derived.LoopIn
import Derived.Shelf.Spec.SlicesInsert
import Derived.Lib.AppendZerosOnto
import Derived.SizedLaws
import Derived.ChangeSlices
import Derived.Lib.SmallJoins
/- Lists of PendingInterest: marked and looked at. No conditions but that lengths fit. -/
namespace Go.Proofs.Ytjphnlkdbhcblaa.Row
open Go.ChangeShapes Go.WideShapes Go.ChangeAt Go.RowKit Go.Instr
set_option linter.unusedVariables false
set_option maxRecDepth 100000
def mvPi (z : Pit) : Nat := z.1.length + advK mvRq z.2.1 + 1
def mePi (q : Int) (z : Pit) : Pit := (marks markT (q) z.1.length, mkLK mvRq meRq (q + (z.1.length : Int)) z.2.1, q + (z.1.length : Int) + (advK mvRq z.2.1 : Int))
theorem mfPi0 (B E : Nat) (x : Pim) (w : World) (q : Int) (a : Nat) (ha : (kPi.strip x).1.length = a) (ho : kPi.Own B E w x) (hl : a ≤ 100000000) (h0 : 0 ≤ q) (h1 : q + (a : Int) ≤ 100000000000) :
    Calls Try.prog 97 #[x.1.v, .int .i64 q] w fun e w' => e = .returned (.int .i64 (q + (a : Int))) ∧ ∃ x', kPi.cells x' = kPi.cells x ∧ kPi.blocks x' = kPi.blocks x ∧ kPi.strip x' = (marks markT (q) (kPi.strip x).1.length, (kPi.strip x).2.1, (kPi.strip x).2.2) ∧ kPi.Own B E w' x' ∧ WroteBy (kPi.blocks x) w w' := by
  subst ha
  exact (markF_N.fst _) B E x w q ho hl h0 h1
theorem mfPi1 (B E : Nat) (x : Pim) (w : World) (q : Int) (a : Nat) (ha : advK mvRq (kPi.strip x).2.1 = a) (ho : kPi.Own B E w x) (hl : a ≤ 100000000) (h0 : 0 ≤ q) (h1 : q + (a : Int) ≤ 100000000000) :
    Calls Try.prog 51 #[x.2.1.v, .int .i64 q] w fun e w' => e = .returned (.int .i64 (q + (a : Int))) ∧ ∃ x', kPi.cells x' = kPi.cells x ∧ kPi.blocks x' = kPi.blocks x ∧ kPi.strip x' = ((kPi.strip x).1, mkLK mvRq meRq (q) (kPi.strip x).2.1, (kPi.strip x).2.2) ∧ kPi.Own B E w' x' ∧ WroteBy (kPi.blocks x) w w' := by
  subst ha
  exact ((markF_LRq.fst _).snd _) B E x w q ho hl h0 h1
set_option maxHeartbeats 4000000 in
theorem markPendingInterestSK (B E : Nat) (m : Rw Pim) (w : World) (k : Int) (h : kLPi.Own B E w m) (hl : advK mvPi (kLPi.strip m) ≤ 100000000) (h0 : 0 ≤ k) (h1 : k + (advK mvPi (kLPi.strip m) : Int) ≤ 100000000000) :
    Calls Try.prog 40 #[kLPi.val m, .int .i64 k] w fun e w' => e = .returned (.int .i64 (k + (advK mvPi (kLPi.strip m) : Int))) ∧ ∃ m', kLPi.val m' = kLPi.val m ∧ kLPi.blocks m' = kLPi.blocks m ∧ kLPi.strip m' = mkLK mvPi mePi k (kLPi.strip m) ∧ kLPi.Own B E w' m' ∧ WroteBy (kLPi.blocks m) w w' := by
  obtain ⟨ad, n, cap, L⟩ := m
  replace h : (kPi.slice 101).Own B E w ⟨ad, n, cap, L⟩ := h
  replace hl : advK mvPi (L.map kPi.strip) ≤ 100000000 := hl
  replace h1 : k + (advK mvPi (L.map kPi.strip) : Int) ≤ 100000000000 := h1
  show Calls Try.prog 40 #[.slice ad n cap, .int .i64 k] w fun e w' => e = .returned (.int .i64 (k + (advK mvPi (L.map kPi.strip) : Int))) ∧ ∃ m' : Rw Pim, Rw.v m' = .slice ad n cap ∧ (kPi.slice 101).blocks m' = (kPi.slice 101).blocks ⟨ad, n, cap, L⟩ ∧ m'.els.map kPi.strip = mkLK mvPi mePi k (L.map kPi.strip) ∧ (kPi.slice 101).Own B E w' m' ∧ WroteBy ((kPi.slice 101).blocks ⟨ad, n, cap, L⟩) w w'
  rcases h.row.form with ⟨hv, hL⟩ | ⟨g, cap', hv, g1, g2, g3, g4⟩
  · cases hv
    subst hL
    have H := Lib.hid h; clear h
    go_enter Try.func40, Try.ntmps40
    go_wp2
    refine wp_loop_rounds 1 ?_
    rw [rounds_succ]
    go_wp2
    go_ret
    exact ⟨ret_int (by simp [advK]), ⟨⟨none, 0, 0, []⟩, rfl, rfl, rfl, H.out, WroteBy.refl _ _⟩⟩
  · cases hv
    have HROWLT := g2
    obtain ⟨n, hn⟩ : ∃ n, n = L.length := ⟨_, rfl⟩
    rw [← hn] at h g3 ⊢
    obtain ⟨l, hl9⟩ : ∃ l, L.map kPi.strip = l := ⟨_, rfl⟩
    rw [hl9] at hl h1 ⊢
    have hll : l.length = n := by rw [← hl9, List.length_map, hn]
    obtain ⟨bs, hbs⟩ : ∃ bs, (kPi.slice 101).blocks ⟨some ⟨g, 0, none⟩, n, cap, L⟩ = bs := ⟨_, rfl⟩
    have hgb : g ∈ bs := by rw [← hbs]; exact List.mem_append_left _ (by simp [Value.ownBlock, Rw.v])
    have heb : ∀ x ∈ L, ∀ q ∈ kPi.blocks x, q ∈ bs := fun x hx q hq => by rw [← hbs]; exact List.mem_append_right _ (List.mem_flatMap.2 ⟨x, hx, hq⟩)
    have hmaxl : n ≤ 140737488351232 ∨ True := Or.inr trivial
    have hn2 : n ≤ maxLen := by rw [hn]; exact h.row.len
    unfold maxLen at hn2
    rw [hbs]
    have HN := Lib.hid hn; have HT := Lib.hid hl9; have HLL := Lib.hid hll; have HBS := Lib.hid hbs; have HGB := Lib.hid hgb; have HEB := Lib.hid heb
    have HST := Lib.hid (fun j (hj : j < n) => advK_take mvPi (l := l) (j := j) (by rw [hll]; exact hj))
    have HLE := Lib.hid (fun j => advK_take_le mvPi l j)
    have HB : Hid ((kPi.slice 101).Own B E w ⟨some ⟨g, 0, none⟩, n, cap, [] ++ L.drop 0⟩) := Lib.hid (by simpa using h)
    clear hn h hl9 hll hbs hgb heb hmaxl
    go_enter Try.func40, Try.ntmps40
    go_wp2
    go_loopw [1, 5] (fun kv i wr => ∃ j : Nat, j ≤ n ∧ i = .int .i64 j ∧ ∃ p : Int, kv = .int .i64 p ∧ 0 ≤ p ∧ p ≤ 100000000000 ∧ Hid (p = k + (advK mvPi (l.take j) : Int)) ∧ ∃ M : List Pim, Hid (M.length = j) ∧ Hid (M.map kPi.strip = mkLK mvPi mePi k (l.take j)) ∧ Hid (M.map kPi.blocks = (L.take j).map kPi.blocks) ∧ Hid ((kPi.slice 101).Own B E wr ⟨some ⟨g, 0, none⟩, n, cap, M ++ L.drop j⟩) ∧ Hid (WroteBy bs w wr)) (fun _ i _ => n - (intOf i).toNat)
    case atStart => exact ⟨0, Nat.zero_le _, rfl, k, rfl, h0, by omega, Lib.hid (by simp [advK]), [], Lib.hid rfl, Lib.hid (by simp [mkLK]), Lib.hid rfl, HB, Lib.hid (WroteBy.refl _ _)⟩
    case round =>
      obtain ⟨j, hj, rfl, p, rfl, hp0, hp1, HP, M, HM1, HM2, HM3, HO, HW⟩ := hrel
      by_cases hlt : j < n
      · have hjL : j < L.length := by have := HN.out; omega
        obtain ⟨x0, hx0⟩ : ∃ x, nth L j = x := ⟨_, rfl⟩
        obtain ⟨Z, hZ⟩ : ∃ Z, M ++ L.drop j = Z := ⟨_, rfl⟩
        have hZl : n = Z.length := by rw [← hZ, List.length_append, HM1.out, List.length_drop]; have := HN.out; omega
        have hjZ : j < Z.length := by omega
        have hx9 : nth Z j = x0 := by rw [← hZ, nth_over HM1.out hjL, hx0]
        have ho := HO.out
        rw [hZ, ← set_nth9 hjZ, hx9] at ho
        have hst := HST.out j hlt
        rw [show nth l j = kPi.strip x0 by rw [← HT.out, nth_map _ hjL, hx0]] at hst
        have hle := HLE.out (j + 1)
        have hxb := HEB.out x0 (by rw [← hx0]; exact nth_mem hjL)
        obtain ⟨a0, ha0⟩ : ∃ a, (kPi.strip x0).1.length = a := ⟨_, rfl⟩
        obtain ⟨a1, ha1⟩ : ∃ a, advK mvRq (kPi.strip x0).2.1 = a := ⟨_, rfl⟩
        have hmv : mvPi (kPi.strip x0) = a0 + a1 + 1 := by unfold mvPi; rw [ha0, ha1]
        rw [hmv] at hst
        have hp := HP.out
        have ba0 : a0 ≤ 100000000 := by omega
        have ba1 : a1 ≤ 100000000 := by omega
        have btot : p + ((a0 + a1 + 1 : Nat) : Int) ≤ 100000000000 := by omega
        have HX0 := Lib.hid hx0; have HZ := Lib.hid hZ; have HZL := Lib.hid hZl; have HJZ := Lib.hid hjZ; have HO0 := Lib.hid ho; have HSTP := Lib.hid hst; have HXB := Lib.hid hxb; have HJL := Lib.hid hjL; have HMV := Lib.hid hmv
        have HA0_0 := Lib.hid ha0
        have HA1_0 := Lib.hid ha1
        have HW0 := HW
        clear hx0 hZ hZl hjZ hx9 ho hst hle hxb hp hjL hmv ha0 ha1
        have c : wr.cell? ⟨g, j * 3, none⟩ = some x0.1.v := (HO0.out.cell9 HZL.out HJZ.out (i := 0) (by decide)).1
        go_wp2_with fail
        clear c
        refine (mfPi0 B E x0 wr (p) a0 HA0_0.out (HO0.out.elem9 HJZ.out) ba0 (by omega) (by omega)).mono ?_
        rintro e w1 ⟨rfl, x1, hc, hb, hs, ho, hw⟩
        have HO1 := Lib.hid (HO0.out.part9 HJZ.out hc hb ho hw); have HB1 := Lib.hid hb; have HS1 := Lib.hid hs
        have HW1 := Lib.hid (HW0.out.trans (hw.more (fun q hq => HXB.out q hq)))
        have HA1_1 : Hid (advK mvRq (kPi.strip x1).2.1 = a1) := Lib.hid (by rw [hs]; exact HA1_0.out)
        clear hc hb hs ho hw
        have c : w1.cell? ⟨g, j * 3 + 1, none⟩ = some x1.2.1.v := (HO1.out.cell9 HZL.out HJZ.out (i := 1) (by decide)).1
        go_wp2_with fail
        clear c
        refine (mfPi1 B E x1 w1 (p + (a0 : Int)) a1 HA1_1.out (HO1.out.elem9 HJZ.out) ba1 (by omega) (by omega)).mono ?_
        rintro e w2 ⟨rfl, x2, hc, hb, hs, ho, hw⟩
        have HO2 := Lib.hid (HO1.out.part9 HJZ.out hc hb ho hw); have HB2 := Lib.hid (hb.trans HB1.out); have HS2 := Lib.hid hs
        have HW2 := Lib.hid (HW1.out.trans (hw.more (fun q hq => HXB.out q (by rw [HB1.out] at hq; exact hq))))
        clear hc hb hs ho hw
        have c2 : w2.cell? ⟨g, j * 3 + 2, none⟩ = some (.int .i64 x2.2.2) := (HO2.out.cell9 HZL.out HJZ.out (i := 2) (by decide)).1; have t2 : w2.frozen? ⟨g, j * 3 + 2, none⟩ = false := (HO2.out.cell9 HZL.out HJZ.out (i := 2) (by decide)).2
        have HOF : Hid ((kPi.slice 101).Own B E (w2.setCell ⟨g, j * 3 + 2, none⟩ (.int .i64 (p + (a0 : Int) + (a1 : Int)))) ⟨some ⟨g, 0, none⟩, n, cap, Z.set j (x2.1, x2.2.1, p + (a0 : Int) + (a1 : Int))⟩) := Lib.hid (Kd.Own.put9 (x' := ((x2.1, x2.2.1, p + (a0 : Int) + (a1 : Int)) : Pim)) HO2.out HZL.out HJZ.out (i := 2) (by decide) (u := .int .i64 (p + (a0 : Int) + (a1 : Int))) rfl rfl (fun h => h))
        have HWF : Hid (WroteBy bs w (w2.setCell ⟨g, j * 3 + 2, none⟩ (.int .i64 (p + (a0 : Int) + (a1 : Int))))) := Lib.hid (HW2.out.trans (WroteBy.of (Ret.grownBy_set w2 ⟨g, j * 3 + 2, none⟩ (.int .i64 (p + (a0 : Int) + (a1 : Int)))) (fun q hq => by cases hq; exact HGB.out)))
        have HSF : Hid (kPi.strip (x2.1, x2.2.1, p + (a0 : Int) + (a1 : Int)) = mePi p (kPi.strip x0)) := Lib.hid (by
          show ((kPi.strip x2).1, (kPi.strip x2).2.1, p + (a0 : Int) + (a1 : Int)) = _
          unfold mePi
          simp only [HS2.out, HS1.out, HA0_0.out, HA1_0.out])
        have HBF : Hid (kPi.blocks (x2.1, x2.2.1, p + (a0 : Int) + (a1 : Int)) = kPi.blocks x0) := Lib.hid (show _ = _ from HB2.out)
        clear HO0 HW0 HO1 HW1 HO2 HW2 HB1 HB2 HS1 HS2
        go_wp2_with fail
        go_roundw
        case rel =>
          refine ⟨j + 1, by omega, by go_num, p + (a0 : Int) + (a1 : Int) + 1, by go_num, by omega, by omega, Lib.hid ?_, M ++ [(x2.1, x2.2.1, p + (a0 : Int) + (a1 : Int))], Lib.hid ?_, Lib.hid ?_, Lib.hid ?_, Lib.hid ?_, HWF⟩
          · rw [HSTP.out, HP.out]; omega
          · simp [HM1.out]
          · rw [List.map_append, HM2.out, mkLK_take _ _ _ (by rw [HLL.out]; exact hlt), show nth l j = kPi.strip x0 by rw [← HT.out, nth_map _ HJL.out, HX0.out], ← HP.out, ← HSF.out]
            rfl
          · rw [List.map_append, HM3.out, List.take_succ_eq_append_getElem HJL.out, List.map_append, ← nth_eq HJL.out, HX0.out]
            simp only [List.map_cons, List.map_nil]
            rw [HBF.out]
          · have h9 := HOF.out
            rw [← HZ.out, set_over HM1.out HJL.out] at h9
            exact h9
        case measure => simp [intOf]; omega
      · obtain rfl : j = n := by omega
        clear hlt
        go_wp2
        go_ret
        have hn := HN.out
        have hp := HP.out
        have e1 : l.take j = l := List.take_of_length_le (by rw [HLL.out]; exact Nat.le_refl _)
        have e2 : L.take j = L := List.take_of_length_le (by omega)
        have e3 : L.drop j = [] := List.drop_eq_nil_of_le (by omega)
        have hh := HO.out
        have hm2 := HM2.out
        have hm3 := HM3.out
        rw [e1] at hp hm2
        rw [e2] at hm3
        rw [e3, List.append_nil] at hh
        refine ⟨ret_int hp, ⟨some ⟨g, 0, none⟩, j, cap, M⟩, rfl, ?_, hm2, hh, HW.out⟩
        rw [← HBS.out]
        show _ ++ M.flatMap kPi.blocks = _ ++ L.flatMap kPi.blocks
        rw [List.flatMap_def, List.flatMap_def, hm3]
        rfl
set_option maxHeartbeats 4000000 in
theorem heldPendingInterestSK (V : Value) (l : List Pit) (w : World) (k : Int) (h : kLPi.At w V (mkLK mvPi mePi k l)) (hl : advK mvPi l ≤ 100000000) (hlen : l.length ≤ 100000000) (h0 : 0 ≤ k) (h1 : k + (advK mvPi l : Int) ≤ 100000000000) :
    Calls Try.prog 42 #[V, .int .i64 k] w fun e w' => e = .returned (.int .i64 (k + (advK mvPi l : Int))) ∧ Below w.heap.size w w' := by
  obtain ⟨ad, n, cap, L, rfl, hn, hL, hh, hel⟩ := kLPi_at h
  have hll : l.length = n := by have := congrArg List.length hL; rw [List.length_map, mkLK_length] at this; omega
  rw [hll] at hlen
  have HN := Lib.hid hn; have HT := Lib.hid hL; have HH := Lib.hid hh; have HEL := Lib.hid hel; have HLL := Lib.hid hll
  have HST := Lib.hid (fun j (hj : j < n) => advK_take mvPi (l := l) (j := j) (by rw [hll]; exact hj))
  have HLE := Lib.hid (fun j => advK_take_le mvPi l j)
  clear h hn hL hh hel hll
  go_enter Try.func42, Try.ntmps42
  go_wp2
  go_loopw [1, 5] (fun kv i wr => ∃ j : Nat, j ≤ n ∧ i = .int .i64 j ∧ ∃ p : Int, kv = .int .i64 p ∧ 0 ≤ p ∧ p ≤ 100000000000 ∧ Hid (p = k + (advK mvPi (l.take j) : Int)) ∧ Hid (Below w.heap.size w wr)) (fun _ i _ => n - (intOf i).toNat)
  case atStart => exact ⟨0, Nat.zero_le _, rfl, k, rfl, h0, by omega, Lib.hid (by simp [advK]), Lib.hid (Below.refl _ _)⟩
  case round =>
    obtain ⟨j, hj, rfl, p, rfl, hp0, hp1, HP, hb⟩ := hrel
    by_cases hlt : j < n
    · have hn := HN.out
      obtain ⟨b, off, x0, n0, c0, x1, n1, c1, rfl, -, hc0, hc1, hc2, ha⟩ := kLPi_elem (HH.out.on hb.out) (fun y hy => kPi.holds_on (HEL.out y hy) hb.out) (j := j) (by omega)
      have hme : kPi.strip (nth L j) = mePi p (nth l j) := by rw [← nth_map kPi.strip (by omega), HT.out, mkLK_at _ _ _ (by rw [HLL.out]; exact hlt), ← HP.out]
      rw [hme] at ha hc2
      have hst := HST.out j hlt
      have hle := HLE.out (j + 1)
      obtain ⟨z, hz⟩ : ∃ z, nth l j = z := ⟨_, rfl⟩
      rw [hz] at ha hst hc2
      obtain ⟨y0, m0, d0, y1, m1, d1, e9, g0, g1⟩ := kPi_at ha
      cases e9
      obtain ⟨a0, ha0⟩ : ∃ a, z.1.length = a := ⟨_, rfl⟩
      obtain ⟨a1, ha1⟩ : ∃ a, advK mvRq z.2.1 = a := ⟨_, rfl⟩
      obtain ⟨v9, e9, h9_0⟩ := kN_at g0
      cases e9
      have h9_1 := g1; have HA1 := Lib.hid ha1
      have hmv : mvPi z = a0 + a1 + 1 := by unfold mvPi; rw [ha0, ha1]
      rw [hmv] at hst
      have hp := HP.out
      have G0 := Lib.hid (show Holds Value.string wr (.slice x0 n0 c0) (marks markT (p) a0) from by have h8 := h9_0; simp only [mePi, ha0, ha1] at h8; exact h8)
      have G1 := Lib.hid (show kLRq.At wr (.slice x1 n1 c1) (mkLK mvRq meRq (p + (a0 : Int)) z.2.1) from by have h8 := h9_1; simp only [mePi, ha0, ha1] at h8; exact h8)
      have HC2 := Lib.hid (show wr.cell? ⟨b, off + j * 3 + 2, none⟩ = some (.int .i64 (p + (a0 : Int) + (a1 : Int))) from by have h8 := hc2; simp only [mePi, ha0, ha1] at h8; exact h8)
      have HC0 := Lib.hid (show wr.cell? ⟨b, off + j * 3, none⟩ = some (.slice x0 n0 c0) from hc0)
      have HC1 := Lib.hid (show wr.cell? ⟨b, off + j * 3 + 1, none⟩ = some (.slice x1 n1 c1) from hc1)
      have ba0 : a0 ≤ 100000000 := by omega
      have ba1 : a1 ≤ 100000000 := by omega
      have btot : p + ((a0 + a1 + 1 : Nat) : Int) ≤ 100000000000 := by omega
      have HSTP := Lib.hid hst
      clear hn ha hme hst hle hmv hp hz hc0 hc1 hc2 ha0 ha1 h9_0 h9_1 g0 g1
      have c : wr.cell? ⟨b, off + j * 3, none⟩ = some (.slice x0 n0 c0) := HC0.out
      go_wp2_with fail
      clear c
      refine (heldStringS _ _ (p) a0 G0.out ba0 (by omega) (by omega)).mono ?_
      rintro e w1 ⟨rfl, hb1⟩
      replace HC1 := Lib.hid ((hb1.cell (Ret.cell_lt HC1.out)).trans HC1.out)
      replace HC2 := Lib.hid ((hb1.cell (Ret.cell_lt HC2.out)).trans HC2.out)
      replace G1 := Lib.hid (G1.out.on hb1)
      replace hb := Lib.hid (hb.out.trans (hb1.mono hb.out.size)); clear hb1
      have bq : ¬ p + (a0 : Int) < 0 := by omega
      have c : w1.cell? ⟨b, off + j * 3 + 1, none⟩ = some (.slice x1 n1 c1) := HC1.out
      go_wp2_with fail
      clear c bq
      refine (heldRequesterSA _ _ _ (p + (a0 : Int)) a1 HA1.out G1.out ba1 (by omega) (by omega)).mono ?_
      rintro e w2 ⟨rfl, hb1⟩
      replace HC2 := Lib.hid ((hb1.cell (Ret.cell_lt HC2.out)).trans HC2.out)
      replace hb := Lib.hid (hb.out.trans (hb1.mono hb.out.size)); clear hb1
      have bq : ¬ p + (a0 : Int) + (a1 : Int) < 0 := by omega
      have c29 : w2.cell? ⟨b, off + j * 3 + 2, none⟩ = some (.int .i64 (p + (a0 : Int) + (a1 : Int))) := HC2.out
      go_wp2_with fail
      go_roundw
      case rel => exact ⟨j + 1, by omega, by go_num, p + (a0 : Int) + (a1 : Int) + 1, by go_num, by omega, by omega, Lib.hid (by rw [HSTP.out, HP.out]; omega), hb⟩
      case measure => simp [intOf]; omega
    · obtain rfl : j = n := by omega
      clear hlt
      go_wp2
      go_ret
      have hp := HP.out
      rw [show l.take j = l from List.take_of_length_le (by rw [HLL.out]; exact Nat.le_refl _)] at hp
      exact ⟨ret_int hp, hb.out⟩
theorem lenAdvPi : ∀ l : List Pit, l.length ≤ advK mvPi l
  | [] => Nat.le_refl _
  | x :: r => by
    have h := lenAdvPi r
    have h2 : 1 ≤ mvPi x := by unfold mvPi; omega
    simp only [advK, List.length_cons]
    omega
theorem heldPendingInterestSA (V : Value) (l : List Pit) (w : World) (k : Int) (a : Nat) (ha : advK mvPi l = a) (h : kLPi.At w V (mkLK mvPi mePi k l)) (hl : a ≤ 100000000) (h0 : 0 ≤ k) (h1 : k + (a : Int) ≤ 100000000000) :
    Calls Try.prog 42 #[V, .int .i64 k] w fun e w' => e = .returned (.int .i64 (k + (a : Int))) ∧ Below w.heap.size w w' := by
  subst ha
  exact heldPendingInterestSK V l w k h hl (Nat.le_trans (lenAdvPi l) hl) h0 h1
end Go.Proofs.Ytjphnlkdbhcblaa.Row
/- Lists of SeenNonce: marked and looked at. No conditions but that lengths fit. -/
namespace Go.Proofs.Ytjphnlkdbhcblaa.Row
open Go.ChangeShapes Go.WideShapes Go.ChangeAt Go.RowKit Go.Instr
set_option linter.unusedVariables false
set_option maxRecDepth 100000
def mvSn (z : Snt) : Nat := z.1.length + 1
def meSn (q : Int) (z : Snt) : Snt := (marks markT (q) z.1.length, q + (z.1.length : Int))
end Go.Proofs.Ytjphnlkdbhcblaa.Row
/- Names in the words that kslice.py wants. No conditions but that lengths fit. -/
namespace Go.Proofs.Ytjphnlkdbhcblaa.Row
open Go.ChangeShapes Go.WideShapes Go.ChangeAt Go.RowKit Go.Instr
set_option linter.unusedVariables false
set_option maxRecDepth 100000
abbrev Nnt := List ByteArray
abbrev Nnm := Rw ByteArray
abbrev kNn : Kd Nnt Nnm := kN
abbrev wtNn (x : Nnt) : Nat := bulk x
abbrev adNn (x : Nnt) : Nat := x.length
abbrev okNn (x : Nnt) : Prop := okN x
abbrev inNn (x : Nnt) : Prop := okN x
theorem okN.ok {x : List ByteArray} (h : okN x) : okNn x := h
end Go.Proofs.Ytjphnlkdbhcblaa.Row
/- Lists of names in the words of kinds: sz, to, eq. No conditions but that lengths fit. -/
namespace Go.Proofs.Ytjphnlkdbhcblaa.Row
open Go.ChangeShapes Go.WideShapes Go.ChangeAt Go.RowKit Go.Instr
set_option linter.unusedVariables false
set_option maxRecDepth 100000
def kLNn : Kd (List Nnt) (Rw Nnm) := kNn.slice 27
def okLNn (l : List Nnt) : Prop := l.length ≤ 9223372036854775807 ∧ ∀ x ∈ l, okNn x
section
variable {w : World} {V : Value} {l : List Nnt} {B E : Nat}
end
def inLNn (l : List Nnt) : Prop := l.length ≤ 9223372036854775807 ∧ ∀ x ∈ l, inNn x
theorem inLNn.ok {l : List Nnt} (h : inLNn l) : okLNn l := ⟨h.1, fun x hx => (h.2 x hx).ok⟩
def adLNn (l : List Nnt) : Nat := bulkK adNn l
end Go.Proofs.Ytjphnlkdbhcblaa.Row
/- Lists of Name: marked and looked at. No conditions but that lengths fit. -/
namespace Go.Proofs.Ytjphnlkdbhcblaa.Row
open Go.ChangeShapes Go.WideShapes Go.ChangeAt Go.RowKit Go.Instr
set_option linter.unusedVariables false
set_option maxRecDepth 100000
def mvNn (z : Nnt) : Nat := z.length
def meNn (q : Int) (z : Nnt) : Nnt := marks markT (q) z.length
end Go.Proofs.Ytjphnlkdbhcblaa.Row
/- Lists of names, marked and held, in the words of the exact laws. No conditions but that lengths fit. -/
namespace Go.Proofs.Ytjphnlkdbhcblaa.Row
open Go.ChangeShapes Go.WideShapes Go.ChangeAt Go.RowKit Go.Instr
set_option linter.unusedVariables false
set_option maxRecDepth 100000
theorem advK_sum {α : Type} (f : α → Nat) (l : List α) : advK f l = (l.map f).sum := by
  induction l with
  | nil => rfl
  | cons a r ih => simp [advK, ih]
end Go.Proofs.Ytjphnlkdbhcblaa.Row
/- Lists of pending interests and of seen nonces in the words of the exact laws: marks; how much the answers of chapter 13's functions hold. No conditions but that lengths fit. -/
namespace Go.Proofs.Ytjphnlkdbhcblaa.Row
open Go.ChangeShapes Go.WideShapes Go.ChangeAt Go.RowKit Go.Instr
set_option linter.unusedVariables false
set_option maxRecDepth 100000
theorem bulkK_sumP {α : Type} (f : α → Nat) (l : List α) : bulkK f l = l.length + (l.map f).sum := by unfold bulkK bulkKTo; rw [List.take_length]
theorem sum_setP {α : Type} [Inhabited α] (f : α → Nat) {y : α} {d : Nat} : ∀ {l : List α} {i : Nat}, i < l.length → f y ≤ f (nth l i) + d → ((l.set i y).map f).sum ≤ (l.map f).sum + d
  | [], i, h, _ => absurd h (by simp)
  | a :: r, 0, _, hy => by
    have e : f (nth (a :: r) 0) = f a := rfl
    rw [e] at hy
    simp only [List.set_cons_zero, List.map_cons, List.sum_cons]; omega
  | a :: r, i + 1, h, hy => by
    have e : nth (a :: r) (i + 1) = nth r i := rfl
    rw [e] at hy
    have h9 := sum_setP f (l := r) (i := i) (by simpa using h) hy
    simp only [List.set_cons_succ, List.map_cons, List.sum_cons]; omega
theorem mul_sum9 {α : Type} (f g : α → Nat) (h : ∀ x, f x ≤ 3 * g x + 1) (l : List α) : (l.map f).sum ≤ 3 * (l.map g).sum + l.length := by
  induction l with
  | nil => simp
  | cons a r ih => have := h a; simp only [List.map_cons, List.sum_cons, List.length_cons]; omega
theorem advRq (l : List Rqt) : advK mvRq l = 3 * l.length := by
  induction l with
  | nil => rfl
  | cons a r ih => show mvRq a + advK mvRq r = _; rw [ih, List.length_cons]; show 3 + _ = _; omega
theorem adRq_len (l : List Rqt) : bulkK adRq l = l.length := by
  rw [bulkK_sumP]
  have : (l.map adRq).sum = 0 := by
    induction l with
    | nil => rfl
    | cons a r ih => rw [List.map_cons, List.sum_cons, ih]; rfl
  omega
theorem adPi_eq (x : Pit) : adPi x = x.1.length + x.2.1.length := by unfold adPi; rw [adRq_len]
theorem mvPi_eq (x : Pit) : mvPi x = x.1.length + 3 * x.2.1.length + 1 := by unfold mvPi; rw [advRq]
theorem avPi_le (l : List Pit) : advK mvPi l ≤ 3 * adLPi l := by
  have h := mul_sum9 mvPi adPi (fun x => by rw [mvPi_eq, adPi_eq]; omega) l
  unfold adLPi
  rw [advK_sum, bulkK_sumP]
  omega
theorem avPi_big {l : List Pit} {n : Nat} (h : bulkK wtPi l ≤ n) : advK mvPi l ≤ 3 * n := by
  have h1 := avPi_le l
  have h2 := adLPi_big h
  omega
theorem markLPiK (B E : Nat) (V : Value) (l : List Pit) (w : World) (k : Int) (h : kLPi.In B E w V l) (hl : advK mvPi l ≤ 100000000) (h0 : 0 ≤ k) (h1 : k ≤ 1000000000) :
    Calls Try.prog 40 #[V, .int .i64 k] w fun e w' => e = .returned (.int .i64 (k + (advK mvPi l : Int))) ∧ kLPi.In B E w' V (mkLK mvPi mePi k l) ∧ Wrote B E w w' := by
  obtain ⟨m, rfl, rfl, hw9⟩ := h.split
  refine (markPendingInterestSK B E m w k hw9 hl h0 (by omega)).mono ?_
  rintro e w' ⟨a, n, v, b, s, ho, hw⟩
  exact ⟨a, v ▸ s ▸ ho.in, hw.wrote (fun g hg => ⟨(hw9.lt g hg).1, (hw9.lt g hg).2.1⟩)⟩
theorem heldLPiK (V : Value) (w : World) (k : Int) (l : List Pit) (h : kLPi.At w V (mkLK mvPi mePi k l)) (hl : advK mvPi l ≤ 100000000) (h0 : 0 ≤ k) (h1 : k ≤ 1000000000) :
    Calls Try.prog 42 #[V, .int .i64 k] w fun e w' => e = .returned (.int .i64 (k + (advK mvPi l : Int))) ∧ Below w.heap.size w w' :=
  heldPendingInterestSA V l w k _ rfl h hl h0 (by omega)
theorem setPi {l : List Pit} {i : Nat} {y : Pit} {d : Nat} (hi : i < l.length) (h1 : adPi y ≤ adPi (nth l i) + d) (h2 : mvPi y ≤ mvPi (nth l i) + 3 * d) : adLPi (l.set i y) ≤ adLPi l + d ∧ advK mvPi (l.set i y) ≤ advK mvPi l + 3 * d := by
  have h3 := sum_setP adPi hi h1
  have h4 := sum_setP mvPi hi h2
  unfold adLPi
  rw [bulkK_sumP, bulkK_sumP, advK_sum, advK_sum, List.length_set]
  omega
theorem ixP_lt {n : List ByteArray} {l : List Pit} (h : 0 ≤ ixL (isP n) l) : (ixL (isP n) l).toNat < l.length := by
  rcases ixL_cases (isP n) l with ⟨e, -⟩ | ⟨j, hj, e, -⟩ <;> omega
theorem addP_sz (l : List Pit) (w : Wt) (f now : Int) : adLPi (addP l w f now) ≤ adLPi l + w.1.length + 2 ∧ advK mvPi (addP l w f now) ≤ advK mvPi l + w.1.length + 4 := by
  unfold addP
  split
  · split
    · rename_i h
      have hp := putR_len (nth l (ixL (isP w.1) l).toNat).2.1 (askR w f now)
      have h1 := setPi (d := 1) (y := ((nth l (ixL (isP w.1) l).toNat).1, putR (nth l (ixL (isP w.1) l).toNat).2.1 (askR w f now), (nth l (ixL (isP w.1) l).toNat).2.2)) (ixP_lt h) (by rw [adPi_eq, adPi_eq]; dsimp only; omega) (by rw [mvPi_eq, mvPi_eq]; dsimp only; omega)
      omega
    · unfold adLPi
      rw [bulkK_sumP, bulkK_sumP, advK_sum, advK_sum, List.map_append, List.map_append, List.sum_append, List.sum_append, List.length_append]
      have e1 : (List.map adPi [((w.1, [askR w f now], 0) : Pit)]).sum = w.1.length + 1 := by simp [adPi_eq]
      have e2 : (List.map mvPi [((w.1, [askR w f now], 0) : Pit)]).sum = w.1.length + 4 := by simp [mvPi_eq]
      rw [e1, e2]
      simp only [List.length_singleton]
      omega
  · omega
end Go.Proofs.Ytjphnlkdbhcblaa.Row
/- AddSeenNonce, model and program. No conditions but that lengths fit. -/
namespace Go.Proofs.Ytjphnlkdbhcblaa.Row
open Go.ChangeShapes Go.WideShapes Go.ChangeAt Go.RowKit Go.Instr
set_option linter.unusedVariables false
set_option maxRecDepth 100000
end Go.Proofs.Ytjphnlkdbhcblaa.Row
/- requestersOf: what it hands out; IsLoop: whether a nonce was seen. No conditions but that lengths fit. -/
namespace Go.Proofs.Ytjphnlkdbhcblaa.Row
open Go.ChangeShapes Go.WideShapes Go.ChangeAt Go.RowKit Go.Instr
open Go.Shelf
attribute [local go_sem] Oper.semAt_some
set_option linter.unusedVariables false
set_option maxRecDepth 100000
end Go.Proofs.Ytjphnlkdbhcblaa.Row
/- IsLoop, the program. No conditions but that lengths fit. -/
namespace Go.Proofs.Ytjphnlkdbhcblaa.Row
open Go.ChangeShapes Go.WideShapes Go.ChangeAt Go.RowKit Go.Instr
open Go.Shelf
attribute [local go_sem] Oper.semAt_some
set_option linter.unusedVariables false
set_option maxRecDepth 100000
theorem kW_kN {w : World} {x : Wt} {xn : Option Addr} {nn cn : Nat} {a b c : Int} (h : kW.At w (.agg #[.slice xn nn cn, .int .i64 a, .int .i64 b, .int .i64 c]) x) : kN.At w (.agg #[.slice xn nn cn]) x.1 := by
  obtain ⟨v, e, ho⟩ := kW_at h
  have e2 : v = .slice xn nn cn := by injection e with e; exact (Option.some.inj (congrArg (fun A : Array Value => A[0]?) e)).symm
  subst e2
  exact kN_of ho
def NoR (k : Int) (pre : List Rqt) : Prop := ∀ r ∈ pre, nnR k r = false
def HitR (k : Int) (pre : List Rqt) : Prop := ∃ ini r, pre = ini ++ [r] ∧ nnR k r = true
end Go.Proofs.Ytjphnlkdbhcblaa.Row
/- The closures of ExpirePending, wantedRequesters, an element's requesters stored. No conditions but that lengths fit. -/
namespace Go.Proofs.Ytjphnlkdbhcblaa.Row
open Go.ChangeShapes Go.WideShapes Go.ChangeAt Go.RowKit Go.Instr
set_option linter.unusedVariables false
set_option maxRecDepth 100000
theorem nodup_set {γ : Type} {f : γ → List Nat} {L : List γ} {j E : Nat} {y : γ} (h : (L.flatMap f).Nodup) (hj : j < L.length) (hy : (f y).Nodup) (hsub : ∀ g ∈ f y, g ∈ f L[j] ∨ E ≤ g) (hlt : ∀ g ∈ L.flatMap f, g < E) : ((L.set j y).flatMap f).Nodup := by
  have key : ∀ (i k : Nat) (hi : i < L.length) (hk : k < L.length), i ≠ k → ∀ x ∈ f ((L.set j y)[i]'(by simpa using hi)), x ∉ f ((L.set j y)[k]'(by simpa using hk)) := by
    intro i k hi hk hne x hx hx2
    by_cases e1 : j = i
    · subst e1
      rw [List.getElem_set_self] at hx
      rw [List.getElem_set_ne hne] at hx2
      rcases hsub x hx with h1 | h1
      · exact flat_disj h hj hk hne x h1 hx2
      · have := hlt x (List.mem_flatMap.2 ⟨_, List.getElem_mem hk, hx2⟩); omega
    · rw [List.getElem_set_ne e1] at hx
      by_cases e2 : j = k
      · subst e2
        rw [List.getElem_set_self] at hx2
        rcases hsub x hx2 with h1 | h1
        · exact flat_disj h hj hi (fun e => e1 e) x h1 hx
        · have := hlt x (List.mem_flatMap.2 ⟨_, List.getElem_mem hi, hx⟩); omega
      · rw [List.getElem_set_ne e2] at hx2
        exact flat_disj h hi hk hne x hx hx2
  refine List.pairwise_flatMap.2 ⟨fun a ha => ?_, ?_⟩
  · rcases List.mem_or_eq_of_mem_set ha with h1 | rfl
    · exact (List.pairwise_flatMap.1 h).1 a h1
    · exact hy
  · refine List.pairwise_iff_getElem.2 fun i k hi hk hik x hx z hz e => ?_
    subst e
    exact key i k (by simpa using hi) (by simpa using hk) (by omega) x hx hz
theorem put_rq {B E E' : Nat} {w : World} {g n cap j : Nat} {L : List Pim} {q : Rw Rqm} {v : Value} (h : kLPi.Own B E w ⟨some ⟨g, 0, none⟩, n, cap, L⟩) (hn : n = L.length) (hj : j < L.length) (hq : kLRq.Own E E' w q) (hE : E ≤ E') (hBE : B ≤ E) (hv : kLRq.val q = v) :
    kLPi.Own B E' (w.setCell ⟨g, j * 3 + 1, none⟩ v) ⟨some ⟨g, 0, none⟩, n, cap, L.set j ((nth L j).1, q, (nth L j).2.2)⟩ := by
  subst hv
  replace h : (kPi.slice 101).Own B E w ⟨some ⟨g, 0, none⟩, n, cap, L⟩ := h
  obtain ⟨hap1, hap2⟩ := Kd.Own.apart h
  have hg0 := hap2 g rfl
  have hgE : g < E := h.2.2 g (List.mem_append_left _ (by simp [Value.ownBlock, Rw.v]))
  obtain ⟨a1, a2⟩ := ownK_store (fun m => kPi.len m) (Kd.Own.row h) hn hj (i := 1) (by decide) (y := (((nth L j).1, q, (nth L j).2.2) : Pim)) (u := kLRq.val q) rfl
  have hel := Kd.Own.elem h hj
  have hlt : ∀ x ∈ L.flatMap kPi.blocks, x < E := fun x hx => h.2.2 x (List.mem_append_right _ hx)
  have keep : ∀ {y : Pim}, y ∈ L → kPi.own B (w.setCell ⟨g, j * 3 + 1, none⟩ (kLRq.val q)) y := fun {y} hy => kPi.own_keep (h.1.2 y hy) (fun x hx => a2.block x (kPi.own_lt (h.1.2 y hy) x hx).2 (fun e1 => hg0 (by cases e1; exact List.mem_flatMap.2 ⟨y, hy, hx⟩)))
  have hqk : kLRq.own B (w.setCell ⟨g, j * 3 + 1, none⟩ (kLRq.val q)) q := kLRq.own_mono (kLRq.own_keep hq.1 (fun x hx => a2.block x (kLRq.own_lt hq.1 x hx).2 (fun e1 => by cases e1; have := (hq.lt g hx).1; omega))) hBE
  have hbl : ∀ x, x ∈ kPi.blocks (((nth L j).1, q, (nth L j).2.2) : Pim) → x ∈ kN.blocks (nth L j).1 ∨ x ∈ kLRq.blocks q := fun x hx => by
    rcases List.mem_append.1 (show x ∈ kN.blocks (nth L j).1 ++ (kLRq.blocks q ++ kInt.blocks (nth L j).2.2) from hx) with h1 | h1
    · exact .inl h1
    · rcases List.mem_append.1 h1 with h2 | h2
      · exact .inr h2
      · cases h2
  have hnm : ∀ x ∈ kN.blocks (nth L j).1, x ∈ kPi.blocks (nth L j) := fun x hx => List.mem_append_left _ hx
  have hnd : (kPi.blocks (((nth L j).1, q, (nth L j).2.2) : Pim)).Nodup := by
    show (kN.blocks (nth L j).1 ++ (kLRq.blocks q ++ [])).Nodup
    rw [List.append_nil, List.nodup_append]
    refine ⟨(Kd.Own.parts (k := kN) (l := kLRq.pair kInt) (m := (nth L j).1) (n := (nth L j).2) hel).1.2.1, hq.2.1, fun x hx y hy e => ?_⟩
    subst e
    have h5 := hlt x (List.mem_flatMap.2 ⟨_, nth_mem hj, hnm x hx⟩)
    have h6 := (hq.lt x hy).1
    omega
  have hflat : ∀ x ∈ (L.set j (((nth L j).1, q, (nth L j).2.2) : Pim)).flatMap kPi.blocks, x ∈ L.flatMap kPi.blocks ∨ x ∈ kLRq.blocks q := fun x hx => by
    obtain ⟨y, hy, hxy⟩ := List.mem_flatMap.1 hx
    rcases List.mem_or_eq_of_mem_set hy with h1 | rfl
    · exact .inl (List.mem_flatMap.2 ⟨y, h1, hxy⟩)
    · rcases hbl x hxy with h2 | h2
      · exact .inl (List.mem_flatMap.2 ⟨_, nth_mem hj, hnm x h2⟩)
      · exact .inr h2
  refine ⟨⟨a1, fun y hy => ?_⟩, ?_, ?_⟩
  · rcases List.mem_or_eq_of_mem_set (show y ∈ L.set j _ from hy) with h1 | rfl
    · exact keep h1
    · exact ⟨(keep (nth_mem hj)).1, hqk, trivial⟩
  · show ((Value.slice (some ⟨g, 0, none⟩) n cap).ownBlock.toList ++ (L.set j (((nth L j).1, q, (nth L j).2.2) : Pim)).flatMap kPi.blocks).Nodup
    rw [List.nodup_append]
    refine ⟨by simp [Value.ownBlock], nodup_set (E := E) hap1 hj hnd (fun x hx => ?_) hlt, fun x hx y hy e => ?_⟩
    · rcases hbl x hx with h1 | h1
      · left; rw [← nth_eq hj]; exact hnm x h1
      · exact .inr (hq.lt x h1).1
    · subst e
      obtain rfl : x = g := by simpa [Value.ownBlock] using hx
      rcases hflat x hy with h1 | h1
      · exact hg0 h1
      · have := (hq.lt x h1).1; omega
  · intro x hx
    rcases List.mem_append.1 (show x ∈ (Value.slice (some ⟨g, 0, none⟩) n cap).ownBlock.toList ++ (L.set j (((nth L j).1, q, (nth L j).2.2) : Pim)).flatMap kPi.blocks from hx) with h1 | h1
    · obtain rfl : x = g := by simpa [Value.ownBlock] using h1
      omega
    · rcases hflat x h1 with h2 | h2
      · have := hlt x h2; omega
      · exact (hq.lt x h2).2.1
set_option maxHeartbeats 1000000 in
theorem wantOf (x : Option Addr) (len cap : Nat) (fv : Value) (fid : FuncId) (caps : Array Value) (hf : fv = .func (.func fid) #[] caps) (w : World) :
    Calls Try.prog 102 #[.slice x len cap, fv] w fun e w' => e = .returned (.func (.func 134) #[] #[.pointer (some ⟨w.heap.size, 0, none⟩), .pointer (some ⟨w.heap.size + 1, 0, none⟩)]) ∧ w' = (w.alloc (.cells #[.slice x len cap] 68)).alloc (.cells #[fv] 121) := by
  subst hf
  have hmf : ∀ (fn : Fn) (first cap : Array Value) (w : World), (Instr.makeFunc fn first cap).run Try.prog w = .ok (.func fn first cap) w := fun _ _ _ _ => rfl
  go_enter Try.func102, Try.ntmps102
  go_wp2
  go_ret
  exact ⟨rfl, rfl⟩
end Go.Proofs.Ytjphnlkdbhcblaa.Row
/- AddRequester, the model. No conditions but that lengths fit. -/
namespace Go.Proofs.Ytjphnlkdbhcblaa.Row
open Go.ChangeShapes Go.WideShapes Go.ChangeAt Go.RowKit Go.Instr
set_option linter.unusedVariables false
set_option maxRecDepth 100000
set_option maxRecDepth 100000 in
set_option maxHeartbeats 4000000 in
theorem rar {Q : Exit → Act → World → Prop} {v0 v1 v2 v3 v4 v5 v6 v7 v8 v9 v13 v14 v15 v16 v17 v18 v19 v20 v21 v22 v23 v24 v25 v26 v27 v28 v29 v30 v31 v32 v33 v34 v35 v36 v37 v38 v39 v40 v41 v42 v43 v44 v45 v46 v47 v48 v49 v50 v51 v52 v53 v54 v55 v56 v57 v58 v59 v60 v61 v62 v63 v64 v65 v66 v67 v68 v69 v70 v71 : Value} {w : World} {g n c k q n2 c2 : Nat} {x2 : Option Addr} {a0 a1 a2 : Int} {M2 : List Rqm} (hk : k < n) (HM : Hid (HoldsK kRq.cells 3 w (.slice x2 n2 c2) M2)) (HLN : Hid (M2.length ≤ 1200000)) (K1 : Hid (w.cell? ⟨g, k * 3 + 1, none⟩ = some (.slice x2 n2 c2))) (Q0 : Hid (w.cell? ⟨q, 0, none⟩ = some (.int .i64 a0))) (Q1 : Hid (w.cell? ⟨q, 1, none⟩ = some (.int .i64 a1))) (Q2 : Hid (w.cell? ⟨q, 2, none⟩ = some (.int .i64 a2)))
  (hQ : ∀ (u59 u60 u61 u62 u63 u64 u65 : Value) (x4 : Option Addr) (n4 c4 : Nat)  (wx : World), Hid (kLRq.Own w.heap.size wx.heap.size wx ⟨x4, n4, c4, putR M2 (a0, a1, a2)⟩) → Below w.heap.size w wx → Q .normal ⟨#[v0, v1, v2, v3, v4, v5, v6, v7, v8, v9, .slice (some ⟨g, 0, none⟩) n c, .int .i64 k, .pointer (some ⟨q, 0, none⟩), v13, .slice x4 n4 c4, v15, v16, v17, v18, v19, v20, v21, v22, v23, v24, v25, v26, v27, v28, v29, v30, v31, v32, v33, v34, v35, v36, v37, v38, v39, v40, v41, v42, v43, v44, v45, v46, v47, v48, v49, v50, v51, v52, v53, v54, v55, v56, v57, v58, u59, u60, u61, u62, u63, u64, u65, v66, v67, v68, v69, v70, v71], []⟩ wx) :
  (Code.region 9 #[⟨some 59, .move (.tmp 10), 35, "l13_pend.go:89", #[], none⟩,
   ⟨some 60, .move (.tmp 11), 3, "l13_pend.go:89", #[], none⟩,
   ⟨some 61, .indexAddr 35 (.tmp 59) (.tmp 60), 0, "l13_pend.go:89", #[⟨0, .data⟩, ⟨1, .data⟩], none⟩,
   ⟨some 62, .fieldAddr 101 (.tmp 61) 1, 0, "l13_pend.go:89", #[⟨2, .data⟩], none⟩,
   ⟨some 63, .load 68 (.tmp 62), 68, "l13_pend.go:89", #[⟨3, .data⟩], none⟩,
   ⟨some 64, .load 91 (.tmp 12), 91, "l13_pend.go:89", #[], none⟩,
   ⟨some 65, .call ⟨.value (.func 91), #[.tmp 63, .tmp 64], #[68, 91]⟩, 68, "l13_pend.go:89", #[⟨4, .data⟩, ⟨5, .data⟩], none⟩,
   ⟨some 14, .assign (.tmp 65), 68, "l13_pend.go:89", #[⟨6, .data⟩, ⟨6, .chain⟩, ⟨0, .phase⟩, ⟨1, .phase⟩, ⟨2, .phase⟩, ⟨3, .phase⟩, ⟨4, .phase⟩, ⟨5, .phase⟩, ⟨6, .phase⟩], none⟩] true).wp Try.prog Q ⟨#[v0, v1, v2, v3, v4, v5, v6, v7, v8, v9, .slice (some ⟨g, 0, none⟩) n c, .int .i64 k, .pointer (some ⟨q, 0, none⟩), v13, v14, v15, v16, v17, v18, v19, v20, v21, v22, v23, v24, v25, v26, v27, v28, v29, v30, v31, v32, v33, v34, v35, v36, v37, v38, v39, v40, v41, v42, v43, v44, v45, v46, v47, v48, v49, v50, v51, v52, v53, v54, v55, v56, v57, v58, v59, v60, v61, v62, v63, v64, v65, v66, v67, v68, v69, v70, v71], []⟩ w := by
 have HQ := Lib.hid hQ; clear hQ
 have hdr : Below w.heap.size w w.drew := (Below.refl _ _).drew
 have BB := Lib.hid hdr
 refine wp_region_noPanic ?_
 refine wp_region_held_drew (S := (fun w' => w'.cell? ⟨g, k * 3 + 1, none⟩ = some (.slice x2 n2 c2) ∧ w'.cell? ⟨q, 0, none⟩ = some (.int .i64 a0) ∧ w'.cell? ⟨q, 1, none⟩ = some (.int .i64 a1) ∧ w'.cell? ⟨q, 2, none⟩ = some (.int .i64 a2))) (by kernel_rfl) ?_ (fun hHeld => ?_)
 ·
  exact ⟨kc K1.out BB.out, kc Q0.out BB.out, kc Q1.out BB.out, kc Q2.out BB.out⟩
 clear hdr
 generalize w.drew = wd at *
 refine wpAnyH_take (i := 0) (oi := ⟨some 59, .move (.tmp 10), 35, "l13_pend.go:89", #[], none⟩) (v := ?_) rfl (by kernel_rfl) (by kernel_rfl) (by kernel_rfl) (fun _ _ _ h => h) (Or.inl ⟨by rfl, ?_⟩) (by assumption) ?_
 rotate_left
 ·
  intro w' hSw; (try dsimp only at hSw); first | (go_simp; done) | (go_simp; with_reducible rfl)
 (try simp only [Act.put, Row.pB0, Row.pB1, Row.pB2])
 refine wpAnyH_take (i := 1) (oi := ⟨some 60, .move (.tmp 11), 3, "l13_pend.go:89", #[], none⟩) (v := ?_) rfl (by kernel_rfl) (by kernel_rfl) (by kernel_rfl) (fun _ _ _ h => h) (Or.inl ⟨by rfl, ?_⟩) (by assumption) ?_
 rotate_left
 ·
  intro w' hSw; (try dsimp only at hSw); first | (go_simp; done) | (go_simp; with_reducible rfl)
 (try simp only [Act.put, Row.pB0, Row.pB1, Row.pB2])
 refine wpAnyH_take (i := 2) (oi := ⟨some 61, .indexAddr 35 (.tmp 59) (.tmp 60), 0, "l13_pend.go:89", #[⟨0, .data⟩, ⟨1, .data⟩], none⟩) (v := ?_) rfl (by kernel_rfl) (by kernel_rfl) (by kernel_rfl) (fun _ _ _ h => h) (Or.inl ⟨by rfl, ?_⟩) (by assumption) ?_
 rotate_left
 ·
  intro w' hSw; (try dsimp only at hSw); first | (go_simp; done) | (go_simp; with_reducible rfl)
 (try simp only [Act.put, Row.pB0, Row.pB1, Row.pB2])
 refine wpAnyH_take (i := 3) (oi := ⟨some 62, .fieldAddr 101 (.tmp 61) 1, 0, "l13_pend.go:89", #[⟨2, .data⟩], none⟩) (v := ?_) rfl (by kernel_rfl) (by kernel_rfl) (by kernel_rfl) (fun _ _ _ h => h) (Or.inl ⟨by rfl, ?_⟩) (by assumption) ?_
 rotate_left
 ·
  intro w' hSw; (try dsimp only at hSw); first | (go_simp; done) | (go_simp; with_reducible rfl)
 (try simp only [Act.put, Row.pB0, Row.pB1, Row.pB2])
 refine wpAnyH_take (i := 4) (oi := ⟨some 63, .load 68 (.tmp 62), 68, "l13_pend.go:89", #[⟨3, .data⟩], none⟩) (v := ?_) rfl (by kernel_rfl) (by kernel_rfl) (by kernel_rfl) (fun _ _ _ h => h) (Or.inl ⟨by rfl, ?_⟩) (by assumption) ?_
 rotate_left
 ·
  intro w' hSw; (try dsimp only at hSw); first | (go_simp; done) | (go_simp; with_reducible rfl)
 (try simp only [Act.put, Row.pB0, Row.pB1, Row.pB2])
 refine wpAnyH_take (i := 5) (oi := ⟨some 64, .load 91 (.tmp 12), 91, "l13_pend.go:89", #[], none⟩) (v := ?_) rfl (by kernel_rfl) (by kernel_rfl) (by kernel_rfl) (fun _ _ _ h => h) (Or.inl ⟨by rfl, ?_⟩) (by assumption) ?_
 rotate_left
 ·
  intro w' hSw; (try dsimp only at hSw); first | (go_simp; done) | (go_simp; with_reducible rfl)
 (try simp only [Act.put, Row.pB0, Row.pB1, Row.pB2])
 refine wpAnyH_ready (rs := [6]) (by kernel_rfl) (by simp) ?_
 refine AllReadyH.cons (o := ⟨some 65, .call ⟨.value (.func 91), #[.tmp 63, .tmp 64], #[68, 91]⟩, 68, "l13_pend.go:89", #[⟨4, .data⟩, ⟨5, .data⟩], none⟩) rfl (fun K hK => ?_) AllReadyH.nil
 go_simp
 refine (sPut _ M2 a0 a1 a2 _ (HM.out.on BB.out) HLN.out).mono ?_
 rintro e wn1 ⟨v9, rfl, ho9, hb⟩
 obtain ⟨x4, n4, c4, rfl, -, -, ho9⟩ := ho9.shapeN
 have OQ := Lib.hid ((kLRq_own (E := wn1.heap.size) ho9 (Nat.le_refl _)).mono (B' := w.heap.size) BB.out.size (Nat.le_refl _))
 clear ho9
 replace BB := Lib.hid (BB.out.trans (hb.mono BB.out.size))
 clear hb
 (try go_wp2_with fail)
 clear hHeld
 refine hK.out _ _ ?_ (fun hHeld => ?_)
 ·
  (try dsimp only); exact ⟨kc K1.out BB.out, kc Q0.out BB.out, kc Q1.out BB.out, kc Q2.out BB.out⟩
 clear hK K
 (try simp only [Act.put, Row.pB0, Row.pB1, Row.pB2])
 refine wpAnyH_take (i := 7) (oi := ⟨some 14, .assign (.tmp 65), 68, "l13_pend.go:89", #[⟨6, .data⟩, ⟨6, .chain⟩, ⟨0, .phase⟩, ⟨1, .phase⟩, ⟨2, .phase⟩, ⟨3, .phase⟩, ⟨4, .phase⟩, ⟨5, .phase⟩, ⟨6, .phase⟩], none⟩) (v := ?_) rfl (by kernel_rfl) (by kernel_rfl) (by kernel_rfl) (fun _ _ _ h => h) (Or.inl ⟨by rfl, ?_⟩) (by assumption) ?_
 rotate_left
 ·
  intro w' hSw; (try dsimp only at hSw); first | (go_simp; done) | (go_simp; with_reducible rfl)
 (try simp only [Act.put, Row.pB0, Row.pB1, Row.pB2])
 refine wpAnyH_done (by kernel_rfl) ?_ _
 exact NoPanic.normal (HQ.out _ _ _ _ _ _ _ x4 n4 c4 _ OQ BB.out)
theorem own_oneR (a b c : Int) (w : World) : OwnK 91 kRq.cells 3 w.heap.size (w.alloc (.cells #[.int .i64 a, .int .i64 b, .int .i64 c] 91)) (.slice (some ⟨w.heap.size, 0, none⟩) 1 1) [((a, b, c) : Rqm)] := World.ownsRow_lit w #[.int .i64 a, .int .i64 b, .int .i64 c] 1 (Nat.le_refl _) (by unfold maxLen; omega) (by simp)
theorem sValW (z : Bool) {V : Value} {x : Wt} {w : World} (hz : validW x = z) (h : kW.At w V x) (hl : bulk x.1 ≤ 9000000) :
    Calls Try.prog 90 #[V] w fun e w' => e = .returned (.bool z) ∧ Below w.heap.size w w' := by
  obtain ⟨v, rfl, h9⟩ := kW_at h
  exact hz ▸ specValidInterest v x w h9 hl
theorem iValW (z : Bool) {V : Value} {x : Wt} {w : World} (hz : validW x = z) (h : kW.At w V x) (hl : bulk x.1 ≤ 9000000) :
    Calls Try.prog 93 #[V] w fun e w' => e = .returned (.bool z) ∧ Below w.heap.size w w' := by
  obtain ⟨v, rfl, h9⟩ := kW_at h
  exact hz ▸ implValidInterest v x w h9 hl
set_option maxHeartbeats 32000000 in
theorem specAddRequester (V T : Value) (l : List Pit) (x : Wt) (f now : Int) (w : World) (h : kLPi.At w V l) (g : kW.At w T x) (hf : FitP l) (hm : bulk x.1 ≤ 1200000) :
    Calls Try.prog 38 #[V, T, .int .i64 f, .int .i64 now] w fun e w' => ∃ U, e = .returned (.tuple #[U, .bool (addOk l x f)]) ∧ kLPi.In w.heap.size w'.heap.size w' U (addP l x f now) ∧ Below w.heap.size w w' := by
  obtain ⟨xl, n, c, rfl, h⟩ := kLPi_shapeA h
  have hln : n = l.length := kLPi_len h
  obtain ⟨xn, nn, cn, rfl, g⟩ := kW_shapeA g
  obtain ⟨nm, kk, hp, lf⟩ := x
  simp only at g hm ⊢
  have hal := (Below.refl w.heap.size w).alloc (Nat.le_refl _) (.cells #[.slice xn nn cn, .int .i64 kk, .int .i64 hp, .int .i64 lf] 33)
  have HX := Lib.hid (Ret.Blk.new w #[.slice xn nn cn, .int .i64 kk, .int .i64 hp, .int .i64 lf] 33)
  have HH := Lib.hid (h.on hal); have HG := Lib.hid ((kW_kN g).on hal); have HW := Lib.hid (g.on hal); have HB := Lib.hid hal; have HF := Lib.hid hf
  have hs0 : (w.alloc (.cells #[.slice xn nn cn, .int .i64 kk, .int .i64 hp, .int .i64 lf] 33)).heap.size = w.heap.size + 1 := by simp
  have HZ9 := Lib.hid (Nat.le_of_eq hs0.symm)
  obtain ⟨z, hz⟩ : ∃ z, ixL (isP nm) l = z := ⟨_, rfl⟩
  obtain ⟨v1, hv1⟩ : ∃ v, validW (nm, kk, hp, lf) = v := ⟨_, rfl⟩
  obtain ⟨v2, hv2⟩ : ∃ v, Num.inB f 0 6 = v := ⟨_, rfl⟩
  have HZ := Lib.hid hz; have HV1 := Lib.hid hv1; have HV2 := Lib.hid hv2
  have HL := Lib.hid hln
  have HOKE := Lib.hid (show addOk l (nm, kk, hp, lf) f = (v1 && v2 && (decide (0 ≤ z) || decide ((n : Int) < 12))) from by unfold addOk; rw [hv1, hv2, hz, hln])
  clear h g hal hf hz hv1 hv2 hln
  go_enter Try.func38, Try.ntmps38
  go_wp2_with fail
  refine (sCopyP _ l _ HH.out HF.out).mono ?_
  rintro e w1 ⟨U, rfl, hi, hb1⟩
  obtain ⟨⟨xu, nu, cu, Lu⟩, rfl, hs, hi⟩ := hi.split
  replace hs : Lu.map kPi.strip = l := hs
  rw [show kLPi.val (⟨xu, nu, cu, Lu⟩ : Rw Pim) = .slice xu nu cu from rfl]
  rw [hs0] at hi
  have HO := Lib.hid hi; have HS := Lib.hid hs
  replace HX := Lib.hid (HX.out.on hb1); replace HH := Lib.hid (HH.out.on hb1); replace HG := Lib.hid (HG.out.on hb1); replace HW := Lib.hid (HW.out.on hb1); replace HB := Lib.hid (HB.out.trans (hb1.mono HB.out.size)); replace HZ9 := Lib.hid (Nat.le_trans HZ9.out hb1.size)
  clear hi hs hb1 hs0
  have q0 := HX.out.cell 0
  go_wp2_with fail
  refine (sFindP _ _ l nm _ z HZ.out HH.out HG.out HF.out.len9 HF.out.each hm).mono ?_
  rintro e w2 ⟨rfl, hb2⟩
  replace HO := Lib.hid (HO.out.upto hb2); replace HX := Lib.hid (HX.out.on hb2); replace HG := Lib.hid (HG.out.on hb2); replace HW := Lib.hid (HW.out.on hb2); replace HB := Lib.hid (HB.out.trans (hb2.mono HB.out.size)); replace HZ9 := Lib.hid (Nat.le_trans HZ9.out hb2.size)
  clear hb2 q0 HH
  cases v1 with
  | false =>
    have q0 := HX.out.cell 0; have q1 := HX.out.cell 1; have q2 := HX.out.cell 2; have q3 := HX.out.cell 3
    go_wp2_with fail
    refine (sValW _ HV1.out HW.out (show bulk nm ≤ 9000000 by omega)).mono ?_
    rintro e w3 ⟨rfl, hb3⟩
    clear q0 q1 q2 q3
    replace HO := Lib.hid (HO.out.upto hb3); replace HX := Lib.hid (HX.out.on hb3); replace HG := Lib.hid (HG.out.on hb3); replace HB := Lib.hid (HB.out.trans (hb3.mono HB.out.size)); replace HZ9 := Lib.hid (Nat.le_trans HZ9.out hb3.size)
    clear hb3 HW
    have HOK : Hid (addOk l (nm, kk, hp, lf) f = false) := Lib.hid (by rw [HOKE.out]; rfl)
    have HR : Hid (Lu.map kPi.strip = addP l (nm, kk, hp, lf) f now) := Lib.hid (by rw [HS.out]; unfold addP; rw [if_neg (by rw [HOK.out]; simp)])
    have HRB : Hid (addOk l (nm, kk, hp, lf) f = false) := HOK
    go_wp2
    go_ret2
    rw [HRB.out]
    exact ⟨_, rfl, HR.out ▸ (show kLPi.In w.heap.size _ _ (.slice xu nu cu) (Lu.map kPi.strip) from (HO.out.mono (Nat.le_succ _) (Nat.le_refl _)).in), HB.out⟩
  | true =>
    cases v2 with
    | false =>
      have q0 := HX.out.cell 0; have q1 := HX.out.cell 1; have q2 := HX.out.cell 2; have q3 := HX.out.cell 3
      go_wp2_with fail
      refine (sValW _ HV1.out HW.out (show bulk nm ≤ 9000000 by omega)).mono ?_
      rintro e w3 ⟨rfl, hb3⟩
      clear q0 q1 q2 q3
      replace HO := Lib.hid (HO.out.upto hb3); replace HX := Lib.hid (HX.out.on hb3); replace HG := Lib.hid (HG.out.on hb3); replace HB := Lib.hid (HB.out.trans (hb3.mono HB.out.size)); replace HZ9 := Lib.hid (Nat.le_trans HZ9.out hb3.size)
      clear hb3 HW
      go_wp2_with fail
      refine (sInP _ HV2.out).mono ?_
      rintro e w4 ⟨rfl, hb4⟩
      replace HO := Lib.hid (HO.out.upto hb4); replace HX := Lib.hid (HX.out.on hb4); replace HG := Lib.hid (HG.out.on hb4); replace HB := Lib.hid (HB.out.trans (hb4.mono HB.out.size)); replace HZ9 := Lib.hid (Nat.le_trans HZ9.out hb4.size)
      clear hb4
      have HOK : Hid (addOk l (nm, kk, hp, lf) f = false) := Lib.hid (by rw [HOKE.out]; rfl)
      have HR : Hid (Lu.map kPi.strip = addP l (nm, kk, hp, lf) f now) := Lib.hid (by rw [HS.out]; unfold addP; rw [if_neg (by rw [HOK.out]; simp)])
      have HRB : Hid (addOk l (nm, kk, hp, lf) f = false) := HOK
      go_wp2
      go_ret2
      rw [HRB.out]
      exact ⟨_, rfl, HR.out ▸ (show kLPi.In w.heap.size _ _ (.slice xu nu cu) (Lu.map kPi.strip) from (HO.out.mono (Nat.le_succ _) (Nat.le_refl _)).in), HB.out⟩
    | true =>
      have q0 := HX.out.cell 0; have q1 := HX.out.cell 1; have q2 := HX.out.cell 2; have q3 := HX.out.cell 3
      go_wp2_with fail
      refine (sValW _ HV1.out HW.out (show bulk nm ≤ 9000000 by omega)).mono ?_
      rintro e w3 ⟨rfl, hb3⟩
      clear q0 q1 q2 q3
      replace HO := Lib.hid (HO.out.upto hb3); replace HX := Lib.hid (HX.out.on hb3); replace HG := Lib.hid (HG.out.on hb3); replace HB := Lib.hid (HB.out.trans (hb3.mono HB.out.size)); replace HZ9 := Lib.hid (Nat.le_trans HZ9.out hb3.size)
      clear hb3 HW
      go_wp2_with fail
      refine (sInP _ HV2.out).mono ?_
      rintro e w4 ⟨rfl, hb4⟩
      replace HO := Lib.hid (HO.out.upto hb4); replace HX := Lib.hid (HX.out.on hb4); replace HG := Lib.hid (HG.out.on hb4); replace HB := Lib.hid (HB.out.trans (hb4.mono HB.out.size)); replace HZ9 := Lib.hid (Nat.le_trans HZ9.out hb4.size)
      clear hb4
      rcases ixL_cases (isP nm) l with ⟨e1, -⟩ | ⟨k, hk, e1, -, -⟩
      · obtain rfl : z = -1 := by rw [← HZ.out]; exact e1
        clear e1
        by_cases h12 : 12 ≤ n
        · have HOK : Hid (addOk l (nm, kk, hp, lf) f = false) := Lib.hid (by rw [HOKE.out]; simp; omega)
          have HR : Hid (Lu.map kPi.strip = addP l (nm, kk, hp, lf) f now) := Lib.hid (by rw [HS.out]; unfold addP; rw [if_neg (by rw [HOK.out]; simp)])
          have HRB : Hid (addOk l (nm, kk, hp, lf) f = false) := HOK
          go_wp2
          go_ret2
          rw [HRB.out]
          exact ⟨_, rfl, HR.out ▸ (show kLPi.In w.heap.size _ _ (.slice xu nu cu) (Lu.map kPi.strip) from (HO.out.mono (Nat.le_succ _) (Nat.le_refl _)).in), HB.out⟩
        · have HOK : Hid (addOk l (nm, kk, hp, lf) f = true) := Lib.hid (by rw [HOKE.out]; simp; omega)
          obtain ⟨ex, hex⟩ : ∃ ex, wrap64 (now + lf) = ex := ⟨_, rfl⟩
          have HAS := Lib.hid (show askR (nm, kk, hp, lf) f now = (f, kk, ex) from by rw [← hex]; unfold askR; exact Prod.ext rfl (Prod.ext rfl (show IntKind.i64.wrap (now + lf) = wrap64 (now + lf) from by unfold wrap64; exact IntKind.wrap_i64 (now + lf))))
          have q1 : w4.cell? ⟨w.heap.size, 1, none⟩ = some (.int .i64 kk) := HX.out.cell 1
          have q3 : w4.cell? ⟨w.heap.size, 3, none⟩ = some (.int .i64 lf) := HX.out.cell 3
          have halr := (Below.refl w4.heap.size w4).alloc (Nat.le_refl _) (.cells #[.int .i64 f, .int .i64 kk, .int .i64 ex] 91)
          have HRQ := Lib.hid (Ret.Blk.new w4 #[.int .i64 f, .int .i64 kk, .int .i64 ex] 91)
          have HZ4 := HZ9
          replace HO := Lib.hid (HO.out.upto halr); replace HX := Lib.hid (HX.out.on halr); replace HG := Lib.hid (HG.out.on halr); replace HB := Lib.hid (HB.out.trans (halr.mono HB.out.size)); replace HZ9 := Lib.hid (Nat.le_trans HZ9.out halr.size)
          clear halr
          have k0 : (w4.alloc (.cells #[.int .i64 f, .int .i64 kk, .int .i64 ex] 91)).cell? ⟨w.heap.size, 0, none⟩ = some (.slice xn nn cn) := HX.out.cell 0
          have t12 : ((12 : Int) ≤ (n : Int)) = False := eq_false (by omega)
          have HLU := Lib.hid (show Lu.length ≤ 1100000 by have h5 := HF.out.len; rw [← HS.out, List.length_map] at h5; exact h5)
          go_wp2_with fail
          refine (sCpyN HG.out (show bulk nm ≤ 9000000 by omega)).mono ?_
          rintro e w6 ⟨U5, rfl, hi5, hb5⟩
          obtain ⟨m5, za, nz, ea, rfl, hs5, hd5, ho5⟩ := kN_splitP hi5
          have b7 := (Below.refl w6.heap.size w6).alloc (Nat.le_refl _) (.cells #[.slice za nz ea] 27)
          have b8 := (Below.refl (w6.alloc (.cells #[.slice za nz ea] 27)).heap.size (w6.alloc (.cells #[.slice za nz ea] 27))).alloc (Nat.le_refl _) (.cells #[.int .i64 f, .int .i64 kk, .int .i64 ex] 91)
          have b9 := (Below.refl ((w6.alloc (.cells #[.slice za nz ea] 27)).alloc (.cells #[.int .i64 f, .int .i64 kk, .int .i64 ex] 91)).heap.size ((w6.alloc (.cells #[.slice za nz ea] 27)).alloc (.cells #[.int .i64 f, .int .i64 kk, .int .i64 ex] 91))).alloc (Nat.le_refl _) (.cells #[.slice za nz ea, .slice (some ⟨w6.heap.size + 1, 0, none⟩) 1 1, .int .i64 0] 101)
          have b69 := (b7.trans (b8.mono b7.size)).trans (b9.mono (Nat.le_trans b7.size b8.size))
          have hz7 : (w6.alloc (.cells #[.slice za nz ea] 27)).heap.size = w6.heap.size + 1 := by simp
          have hz8 : ((w6.alloc (.cells #[.slice za nz ea] 27)).alloc (.cells #[.int .i64 f, .int .i64 kk, .int .i64 ex] 91)).heap.size = w6.heap.size + 2 := by simp
          have H7 := Lib.hid (show (w6.alloc (.cells #[.slice za nz ea] 27)).cell? ⟨w6.heap.size, 0, none⟩ = some (.slice za nz ea) from (Ret.Blk.new w6 #[.slice za nz ea] 27).cell 0)
          have HR7 := Lib.hid ((HRQ.out.on hb5).on b7)
          have HQ1 := own_oneR f kk ex (w6.alloc (.cells #[.slice za nz ea] 27))
          rw [hz7] at HQ1
          have HQ2 := ((kLRq_own (E := ((w6.alloc (.cells #[.slice za nz ea] 27)).alloc (.cells #[.int .i64 f, .int .i64 kk, .int .i64 ex] 91)).heap.size) HQ1 (Nat.le_refl _)).on b9).mono (B' := (w4.alloc (.cells #[.int .i64 f, .int .i64 kk, .int .i64 ex] 91)).heap.size) (show (w4.alloc (.cells #[.int .i64 f, .int .i64 kk, .int .i64 ex] 91)).heap.size ≤ w6.heap.size + 1 from Nat.le_trans hb5.size (Nat.le_succ _)) (Nat.le_refl _)
          have HMM := Lib.hid (pi_join (u := 0) (ho5.on b69) HQ2 (fun g h1 h2 => by
            have h5 := (ho5.lt g h1).2.1
            have h6 := ((kLRq_own (E := ((w6.alloc (.cells #[.slice za nz ea] 27)).alloc (.cells #[.int .i64 f, .int .i64 kk, .int .i64 ex] 91)).heap.size) HQ1 (Nat.le_refl _)).lt g h2).1
            omega) (((w6.alloc (.cells #[.slice za nz ea] 27)).alloc (.cells #[.int .i64 f, .int .i64 kk, .int .i64 ex] 91)).alloc (.cells #[.slice za nz ea, .slice (some ⟨w6.heap.size + 1, 0, none⟩) 1 1, .int .i64 0] 101)).heap.size (ho5.on b69).top HQ2.top)
          have HSO := Lib.hid (one_kg (k := kPi) szPi_cells (e := 101) (W := ((w6.alloc (.cells #[.slice za nz ea] 27)).alloc (.cells #[.int .i64 f, .int .i64 kk, .int .i64 ex] 91))) (g := w6.heap.size + 2) (m := ((m5, ⟨some ⟨w6.heap.size + 1, 0, none⟩, 1, 1, [(f, kk, ex)]⟩, 0) : Pim)) (cs := [.slice za nz ea, .slice (some ⟨w6.heap.size + 1, 0, none⟩) 1 1, .int .i64 0]) (by show kN.cells m5 ++ ([.slice (some ⟨w6.heap.size + 1, 0, none⟩) 1 1] ++ kInt.cells 0) = _; rw [hd5]; rfl) hz8.symm)
          have b59 := hb5.trans (b69.mono hb5.size)
          have HO9 := Lib.hid (HO.out.on b59)
          have HB9 := Lib.hid (HB.out.trans (b59.mono HB.out.size))
          have HZB := Lib.hid (show w.heap.size + 1 ≤ (((w6.alloc (.cells #[.slice za nz ea] 27)).alloc (.cells #[.int .i64 f, .int .i64 kk, .int .i64 ex] 91)).alloc (.cells #[.slice za nz ea, .slice (some ⟨w6.heap.size + 1, 0, none⟩) 1 1, .int .i64 0] 101)).heap.size from Nat.le_trans HZ9.out b59.size)
          have HR := Lib.hid (show (Lu ++ [((m5, ⟨some ⟨w6.heap.size + 1, 0, none⟩, 1, 1, [(f, kk, ex)]⟩, 0) : Pim)]).map kPi.strip = addP l (nm, kk, hp, lf) f now from by
            rw [List.map_append, HS.out]
            unfold addP
            rw [if_pos HOK.out]
            show _ = (if 0 ≤ ixL (isP nm) l then _ else _)
            rw [HZ.out, if_neg (by omega), HAS.out, ← hs5]
            rfl)
          have HRB := HOK
          clear b7 b8 b9 b69 b59 hz7 hz8 hi5 hb5 hs5 hd5 ho5 HQ1 HQ2 HRQ HO HX HG HB k0
          have k1 := H7.out
          have r0 := HR7.out.cell 0; have r1 := HR7.out.cell 1; have r2 := HR7.out.cell 2
          go_wp2_with (at_builtin; refine wpList_appK kindPi (B := w.heap.size + 1) (l := Lu) (m := [((m5, ⟨some ⟨w6.heap.size + 1, 0, none⟩, 1, 1, [(f, kk, ex)]⟩, 0) : Pim)]) rfl _ _ rfl Try.underlying35 rfl rfl HO9.out.1.1 HSO.out (by have h5 := HLU.out; simp; omega) (by have h5 := HLU.out; unfold maxLen; simp; omega) HZB.out ?_)
          intro v10 w10 ho10 hg10
          obtain ⟨x10, n10, c10, rfl, -, -, ho10⟩ := ho10.shapeN
          have HO10 := Lib.hid (Kd.push_later noRow_kPi (r := ⟨xu, nu, cu, Lu⟩) HO9.out HMM.out HZ9.out ho10 hg10)
          have HB10 := Lib.hid (HB9.out.grown hg10 HB9.out.size (fun g hg => by have := (HO9.out.1.1.lt g hg).1; omega))
          clear ho10 hg10 r0 r1 r2 k1
          go_wp2
          go_ret2
          rw [HRB.out]
          exact ⟨_, rfl, HR.out ▸ (show kLPi.In w.heap.size _ _ (.slice x10 n10 c10) ((Lu ++ [((m5, ⟨some ⟨w6.heap.size + 1, 0, none⟩, 1, 1, [(f, kk, ex)]⟩, 0) : Pim)]).map kPi.strip) from ((HO10.out.mono (Nat.le_succ _) (Nat.le_refl _)).in)), HB10.out⟩
      · obtain rfl : z = (k : Int) := by rw [← HZ.out]; exact e1
        have HOK : Hid (addOk l (nm, kk, hp, lf) f = true) := Lib.hid (by rw [HOKE.out]; simp)
        obtain ⟨ex, hex⟩ : ∃ ex, wrap64 (now + lf) = ex := ⟨_, rfl⟩
        have HAS := Lib.hid (show askR (nm, kk, hp, lf) f now = (f, kk, ex) from by rw [← hex]; unfold askR; exact Prod.ext rfl (Prod.ext rfl (show IntKind.i64.wrap (now + lf) = wrap64 (now + lf) from by unfold wrap64; exact IntKind.wrap_i64 (now + lf))))
        have q1 : w4.cell? ⟨w.heap.size, 1, none⟩ = some (.int .i64 kk) := HX.out.cell 1
        have q3 : w4.cell? ⟨w.heap.size, 3, none⟩ = some (.int .i64 lf) := HX.out.cell 3
        have halr := (Below.refl w4.heap.size w4).alloc (Nat.le_refl _) (.cells #[.int .i64 f, .int .i64 kk, .int .i64 ex] 91)
        have HRQ := Lib.hid (Ret.Blk.new w4 #[.int .i64 f, .int .i64 kk, .int .i64 ex] 91)
        have HZ4 := HZ9
        replace HO := Lib.hid (HO.out.upto halr); replace HX := Lib.hid (HX.out.on halr); replace HG := Lib.hid (HG.out.on halr); replace HB := Lib.hid (HB.out.trans (halr.mono HB.out.size)); replace HZ9 := Lib.hid (Nat.le_trans HZ9.out halr.size)
        clear halr
        have hkL : k < Lu.length := by rw [← HS.out, List.length_map] at hk; exact hk
        obtain ⟨gR, rfl, hnl, hnc, hg1, hg2⟩ := row_form HO.out hkL
        have hel := Kd.Own.elem HO.out hkL
        obtain ⟨⟨m1, m2, ls⟩, hmm⟩ : ∃ mm, nth Lu k = mm := ⟨_, rfl⟩
        rw [hmm] at hel
        obtain ⟨hN, hQR, -⟩ := Kd.Own.parts (k := kN) (l := kLRq.pair kInt) hel
        obtain ⟨hQ, -, -⟩ := Kd.Own.parts (k := kLRq) (l := kInt) hQR
        obtain ⟨y0, m0, d0, y1, n1, d1, e9, -⟩ := kPi_shapeA (Kd.at_of (k := kPi) hel.holds)
        have hce : kPi.cells ((m1, m2, ls) : Pim) = [.slice y0 m0 d0, .slice y1 n1 d1, .int .i64 ls] := by injection e9 with e; exact congrArg Array.toList e
        have hq1 : kLRq.val m2 = .slice y1 n1 d1 := Option.some.inj (congrArg (fun L => L[1]?) hce)
        obtain ⟨x2, n2, c2, M2⟩ := m2
        have hq2 : Value.slice x2 n2 c2 = .slice y1 n1 d1 := hq1
        injection hq2 with e1' e2' e3'
        subst e1'; subst e2'; subst e3'
        have C1 : Hid ((w4.alloc (.cells #[.int .i64 f, .int .i64 kk, .int .i64 ex] 91)).cell? ⟨gR, k * 3 + 1, none⟩ = some (.slice x2 n2 c2)) := Lib.hid (by
          have h5 := (ownK_cell szPi_cells HO.out.1.1 hnl hkL (i := 1) (by decide)).1
          rw [hmm, hce] at h5
          exact h5)
        have hsk : (kN.strip m1, M2, ls) = nth l k := by
          rw [← HS.out, nth_map _ hkL, hmm]
          show _ = (kN.strip m1, M2.map kRq.strip, ls)
          rw [rq_map]
        have HM2 := Lib.hid (show M2.length ≤ 1200000 from by
          have h5 := (wtPi_lens (HF.out.each (nth l k) (nth_mem hk))).2
          rw [← hsk] at h5
          exact h5)
        have HHM := Lib.hid (show HoldsK kRq.cells 3 (w4.alloc (.cells #[.int .i64 f, .int .i64 kk, .int .i64 ex] 91)) (.slice x2 n2 c2) M2 from hQ.1.1.holds)
        have HAP := Lib.hid (show addP l (nm, kk, hp, lf) f now = l.set k ((nth l k).1, putR (nth l k).2.1 (f, kk, ex), (nth l k).2.2) from by
          unfold addP
          rw [if_pos HOK.out]
          show (if 0 ≤ ixL (isP nm) l then _ else _) = _
          rw [HZ.out, if_pos (by omega), HAS.out]
          rfl)
        have HST := Lib.hid (show ∀ x4 n4 c4, (Lu.set k ((nth Lu k).1, ⟨x4, n4, c4, putR M2 (f, kk, ex)⟩, (nth Lu k).2.2)).map kPi.strip = addP l (nm, kk, hp, lf) f now from fun x4 n4 c4 => by
          rw [HAP.out, ← hsk, List.map_set, HS.out, hmm]
          congr 1
          show (kN.strip m1, (putR M2 (f, kk, ex)).map kRq.strip, ls) = _
          rw [rq_map])
        have HNL := Lib.hid hnl; have HKL := Lib.hid hkL; have HG1 := Lib.hid hg1; have HG2 := Lib.hid hg2
        have hkn : k < nu := by omega
        have hkc : k ≤ cu := by omega
        have hn9 : nu ≤ 1100000 := by have h5 := HF.out.len; rw [← HS.out, List.length_map] at h5; omega
        clear hel hN hQR hQ e9 hce hq1 hmm hsk hnl hkL hk hg1 hg2
        go_wp2_with fail
        refine rar (a0 := f) (a1 := kk) (a2 := ex) hkn HHM HM2 C1 (Lib.hid (HRQ.out.cell 0)) (Lib.hid (HRQ.out.cell 1)) (Lib.hid (HRQ.out.cell 2)) ?_
        intro u59 u60 u61 u62 u63 u64 u65 x4 n4 c4 wx oq hbx
        have hoW := HO.out.on hbx
        have t1 : wx.frozen? ⟨gR, k * 3 + 1, none⟩ = false := (ownK_cell szPi_cells hoW.1.1 HNL.out HKL.out (i := 1) (by decide)).2
        have z1 : wx.cell? ⟨gR, k * 3 + 1, none⟩ = (kPi.cells (nth Lu k))[1]? := (ownK_cell szPi_cells hoW.1.1 HNL.out HKL.out (i := 1) (by decide)).1
        obtain ⟨z, hz⟩ : ∃ z, wx.cell? ⟨gR, k * 3 + 1, none⟩ = some z := ⟨_, z1.trans (List.getElem?_eq_getElem (by rw [kPi.len]; decide))⟩
        have HO4 := Lib.hid (show kLPi.Own (w.heap.size + 1) (wx.setCell ⟨gR, k * 3 + 1, none⟩ (.slice x4 n4 c4)).heap.size (wx.setCell ⟨gR, k * 3 + 1, none⟩ (.slice x4 n4 c4)) ⟨some ⟨gR, 0, none⟩, nu, cu, Lu.set k ((nth Lu k).1, ⟨x4, n4, c4, putR M2 (f, kk, ex)⟩, (nth Lu k).2.2)⟩ from by rw [World.size_setCell]; exact put_rq (v := .slice x4 n4 c4) hoW HNL.out HKL.out oq.out hbx.size HZ9.out rfl)
        have HB4 := Lib.hid ((HB.out.trans (hbx.mono HB.out.size)).setCell (p := ⟨gR, k * 3 + 1, none⟩) (by show w.heap.size ≤ gR; have := HG1.out; omega) (.slice x4 n4 c4))
        have HRB := HOK
        clear hoW z1 hbx oq HO HX HG HRQ
        go_wp2
        go_ret2
        rw [HRB.out]
        exact ⟨_, rfl, HST.out x4 n4 c4 ▸ (show kLPi.In w.heap.size _ _ (.slice (some ⟨gR, 0, none⟩) nu cu) ((Lu.set k ((nth Lu k).1, ⟨x4, n4, c4, putR M2 (f, kk, ex)⟩, (nth Lu k).2.2)).map kPi.strip) from ((HO4.out.mono (Nat.le_succ _) (Nat.le_refl _)).in)), HB4.out⟩
end Go.Proofs.Ytjphnlkdbhcblaa.Row
/- Inserting into a row: two copies over a row's cells. No conditions. -/
namespace Go.Proofs.Ytjphnlkdbhcblaa.Row
open Go.ChangeShapes Go.WideShapes Go.ChangeAt Go.RowKit Go.Instr
set_option linter.unusedVariables false
set_option maxRecDepth 100000
def rowPut (cur : Array Value) (a : Nat) (vs : List Value) : Array Value := (cur.toList.take a ++ vs ++ cur.toList.drop (a + vs.length)).toArray
theorem rowPut_size {cur : Array Value} {a : Nat} {vs : List Value} (h : a + vs.length ≤ cur.size) : (rowPut cur a vs).size = cur.size := by
  simp only [rowPut, List.size_toArray, List.length_append, List.length_take, List.length_drop, Array.length_toList]
  omega
theorem rowPut_take {cur : Array Value} {a m : Nat} {vs : List Value} (h : a + vs.length ≤ cur.size) (hm : m ≤ a) : (rowPut cur a vs).toList.take m = cur.toList.take m := by
  simp only [rowPut]
  rw [List.append_assoc, List.take_append_of_le_length (by rw [List.length_take, Array.length_toList]; omega), List.take_take]
  congr 1
  omega
theorem rowPut_mid {cur : Array Value} {a : Nat} {vs : List Value} (h : a + vs.length ≤ cur.size) : (rowPut cur a vs).toList.take (a + vs.length) = cur.toList.take a ++ vs := by
  simp only [rowPut]
  have e : (cur.toList.take a ++ vs).length = a + vs.length := by rw [List.length_append, List.length_take, Array.length_toList]; omega
  rw [← e, List.take_left]
section
variable {α : Type} {enc : α → List Value} {sz : Nat}
theorem row_insA (hs : Sz enc sz) {L : List α} {i cap : Nat} {r : α} {cur : Array Value} (hi : i ≤ L.length) (hk : cur.size = cap * sz) (hcap : L.length + 1 ≤ cap) (ht : cur.toList.take (i * sz) = flat enc (L.take i)) :
    (rowPut (rowPut cur ((i + 1) * sz) (flat enc (L.drop i))) (i * sz) (flat enc [r])).toList.take ((L.length + 1) * sz) = flat enc (L.take i ++ r :: L.drop i) ∧
    (rowPut (rowPut cur ((i + 1) * sz) (flat enc (L.drop i))) (i * sz) (flat enc [r])).size = cap * sz := by
  have l1 : (flat enc (L.drop i)).length = (L.length - i) * sz := by rw [flat_length hs, List.length_drop]
  have l2 : (flat enc [r]).length = sz := by rw [flat_length hs]; simp
  have hle : (L.length + 1) * sz ≤ cap * sz := Nat.mul_le_mul_right _ hcap
  have hsum : (i + 1) * sz + (L.length - i) * sz = (L.length + 1) * sz := by rw [← Nat.add_mul]; congr 1; omega
  have hone : (i + 1) * sz = i * sz + sz := by rw [Nat.add_mul, Nat.one_mul]
  have f1 : (i + 1) * sz + (flat enc (L.drop i)).length ≤ cur.size := by rw [l1, hk]; omega
  have s1 := rowPut_size f1
  have f2 : i * sz + (flat enc [r]).length ≤ (rowPut cur ((i + 1) * sz) (flat enc (L.drop i))).size := by rw [l2, s1, hk]; omega
  refine ⟨?_, by rw [rowPut_size f2, s1, hk]⟩
  obtain ⟨c1, hc1⟩ : ∃ c1, rowPut cur ((i + 1) * sz) (flat enc (L.drop i)) = c1 := ⟨_, rfl⟩
  have m1 := rowPut_mid f1
  have t1 := rowPut_take f1 (m := i * sz) (by omega)
  rw [hc1] at f2 s1 m1 t1 ⊢
  rw [l1, hsum] at m1
  have e1 : (rowPut c1 (i * sz) (flat enc [r])).toList = c1.toList.take (i * sz) ++ flat enc [r] ++ c1.toList.drop (i * sz + (flat enc [r]).length) := by simp only [rowPut]
  have e2 : c1.toList.drop (i * sz + (flat enc [r]).length) = c1.toList.drop ((i + 1) * sz) := by rw [l2, hone]
  have e5 : flat enc (L.take i ++ r :: L.drop i) = flat enc (L.take i) ++ (flat enc [r] ++ flat enc (L.drop i)) := by
    show flat enc (L.take i ++ ([r] ++ L.drop i)) = _
    rw [flat_append, flat_append]
  rw [e1, e2, t1, ht, List.append_assoc, e5]
  have lt : (flat enc (L.take i)).length = i * sz := by rw [flat_length hs, List.length_take]; congr 1; omega
  have hd : (c1.toList.drop ((i + 1) * sz)).take ((L.length - i) * sz) = flat enc (L.drop i) := by
    rw [List.take_drop, hsum, m1]
    have e3 : (cur.toList.take ((i + 1) * sz)).length = (i + 1) * sz := by rw [List.length_take, Array.length_toList, hk]; omega
    exact List.drop_left' e3
  have e4 : (L.length + 1) * sz = (flat enc (L.take i)).length + ((flat enc [r]).length + (L.length - i) * sz) := by rw [lt, l2]; omega
  rw [e4, List.take_length_add_append, List.take_length_add_append, hd]
theorem row_insB (hs : Sz enc sz) {L : List α} {i cap : Nat} {r : α} {cur : Array Value} (hi : i ≤ L.length) (hk : cur.size = cap * sz) (hcap : L.length + 1 ≤ cap) (ht : cur.toList.take (i * sz) = flat enc (L.take i)) :
    (rowPut (rowPut cur (i * sz) (flat enc [r])) ((i + 1) * sz) (flat enc (L.drop i))).toList.take ((L.length + 1) * sz) = flat enc (L.take i ++ r :: L.drop i) ∧
    (rowPut (rowPut cur (i * sz) (flat enc [r])) ((i + 1) * sz) (flat enc (L.drop i))).size = cap * sz := by
  have l1 : (flat enc (L.drop i)).length = (L.length - i) * sz := by rw [flat_length hs, List.length_drop]
  have l2 : (flat enc [r]).length = sz := by rw [flat_length hs]; simp
  have hle : (L.length + 1) * sz ≤ cap * sz := Nat.mul_le_mul_right _ hcap
  have hsum : (i + 1) * sz + (L.length - i) * sz = (L.length + 1) * sz := by rw [← Nat.add_mul]; congr 1; omega
  have hone : (i + 1) * sz = i * sz + sz := by rw [Nat.add_mul, Nat.one_mul]
  have f1 : i * sz + (flat enc [r]).length ≤ cur.size := by rw [l2, hk]; omega
  have s1 := rowPut_size f1
  have f2 : (i + 1) * sz + (flat enc (L.drop i)).length ≤ (rowPut cur (i * sz) (flat enc [r])).size := by rw [l1, s1, hk]; omega
  refine ⟨?_, by rw [rowPut_size f2, s1, hk]⟩
  have m1 := rowPut_mid f1
  have m2 := rowPut_mid f2
  rw [l1, hsum] at m2
  rw [l2, ← hone] at m1
  rw [m2, m1, ht, ← flat_append, ← flat_append]
  simp
end
theorem ownK_cells {α : Type} {enc : α → List Value} {sz : Nat} (hs : Sz enc sz) {e : TypeId} {B : Nat} {w : World} {g cap : Nat} {l : List α} {cur : Array Value} (hB : B ≤ g) (hc : w.heap[g]? = some (.cells cur e (0, 0))) (hn : l.length ≤ cap) (hmx : cap ≤ maxLen) (hk : cur.size = cap * sz) (ht : cur.toList.take (l.length * sz) = flat enc l) :
    OwnK e enc sz B w (.slice (some ⟨g, 0, none⟩) l.length cap) l :=
  ⟨by rw [flat_length hs], Or.inr ⟨g, cap, cur, rfl, hB, hc, hn, hmx, hk, ht⟩⟩
section
variable {P : Program} {α : Type} {enc : α → List Value} {sz : Nat} {e t : TypeId} {bytes : Nat} {z : Value}
theorem run_copyRow (K : Kind P e enc z sz bytes) {w : World} {g j kd c ks c' b off : Nat} {ty : TypeId} {ms : List α} {cur : Array Value} (ht : P.underlying t = some (.slice e))
    (hmin : Nat.min ks kd = ms.length) (hc : w.heap[g]? = some (.cells cur e (0, 0))) (hfit : j * sz + (flat enc ms).length ≤ cur.size) {cs : Nat} (hsrc : HoldsK enc sz w (.slice (some ⟨b, off, none⟩) ms.length cs) ms) :
    (Builtin.copy_ #[t, t] ty #[.slice (some ⟨g, j * sz, none⟩) kd c, .slice (some ⟨b, off, none⟩) ks c']).run P w = .ok (goInt ((ms.length : Nat) : Int)) (w.setRow g (rowPut cur (j * sz) (flat enc ms))) := by
  obtain ⟨inf, f1, f2, f3, f4⟩ := info_parts K.elem
  have hfl : (flat enc ms).length = ms.length * sz := flat_length K.size ms
  have hlo := run_loadCells_list (P := P) w ⟨b, off, none⟩ (flat enc ms) (hsrc.cells K.size)
  rw [hfl] at hlo
  have hst := run_storeCells_at P g (j * sz) e (flat enc ms) 0 cur w hc hfit (flat_one' K.one _)
  simp only [Nat.add_zero] at hst
  simp [Builtin.copy_, run_underlying ht, Builtin.lenOf, Builtin.firstCells, sizeOf, typeInfo, f1, f3, hmin, hlo, hst, rowPut]
end
end Go.Proofs.Ytjphnlkdbhcblaa.Row
/- slices.Insert on requesters: one element, not at the end. No conditions but that lengths fit. -/
namespace Go.Proofs.Ytjphnlkdbhcblaa.Row
open Go.ChangeShapes Go.WideShapes Go.ChangeAt Go.RowKit Go.Instr
open Go.Shelf Go.Lib
set_option linter.unusedVariables false
set_option maxRecDepth 100000
theorem shape_cells {w : World} {g : Nat} {cur : Array Value} {t : TypeId} (h : w.heap[g]? = some (.cells cur t (0, 0))) : w.shape? g = some (t, cur.size) := by
  simp [World.shape?, h]
theorem frozen_cells {w : World} {g k : Nat} {cur : Array Value} {t : TypeId} (h : w.heap[g]? = some (.cells cur t (0, 0))) : w.frozen? ⟨g, k, none⟩ = false := by
  simp [World.frozen?, h]
set_option maxHeartbeats 8000000 in
theorem insertRoom (B g n cap i g1 : Nat) (L : List Rqm) (a b c : Int) (w : World) (hB : B ≤ g) {cur : Array Value} (hc : w.heap[g]? = some (.cells cur 91 (0, 0))) (hn : n = L.length) (hi : i < n) (hroom : n + 1 ≤ cap) (hmx : cap ≤ maxLen) (hk : cur.size = cap * 3) (ht : cur.toList.take (n * 3) = flat kRq.cells L)
    (hg1 : w.heap[g1]? = some (.cells #[.int .i64 a, .int .i64 b, .int .i64 c] 91 (0, 0))) (hs : HoldsK kRq.cells 3 w (.slice (some ⟨g1, 0, none⟩) 1 1) [((a, b, c) : Rqm)]) (hne : g1 ≠ g) :
    Calls Try.prog 131 #[.slice (some ⟨g, 0, none⟩) n cap, .int .i64 i, .slice (some ⟨g1, 0, none⟩) 1 1] w fun e w' =>
      e = .returned (.slice (some ⟨g, 0, none⟩) (n + 1) cap) ∧ w' = (w.drew.setRow g (rowPut cur ((i + 1) * 3) (flat kRq.cells (L.drop i)))).setRow g (rowPut (rowPut cur ((i + 1) * 3) (flat kRq.cells (L.drop i))) (i * 3) (flat kRq.cells [((a, b, c) : Rqm)])) := by
  have hz2 : ¬ ((i : Int) = (n : Int)) := by omega
  have hcap63 : cap ≤ 9223372036854775807 := by unfold maxLen at hmx; omega
  have hov : ∀ lb cb, (callFunc 140 #[.slice (some ⟨g1, 0, none⟩) 1 1, .slice (some ⟨g, (i + 1) * 3, none⟩) lb cb]).run Try.prog w = .ok (.value (.bool false)) w := fun lb cb => by
    rw [run_callFunc_extern Try.func140 (by kernel_rfl) (by kernel_rfl) (by kernel_rfl) (e := Extern.SlicesOverlaps.overlaps #[68, 68] #[4]) (by kernel_rfl),
      Lib.run_overlaps_apart w 68 4 91 Try.underlying68 3 (fun w => by obtain ⟨inf, f1, f2, f3, f4⟩ := info_parts kindRq.elem; simp [sizeOf, typeInfo, f1, f3]) ⟨g1, 0, none⟩ ⟨g, (i + 1) * 3, none⟩ 1 1 lb cb hne _ _ _ _ (shape_cells hg1) (shape_cells hc) (by rw [hk]; omega) (frozen_cells hg1) (frozen_cells hg1)]
    rfl
  have hml : (flat kRq.cells (L.drop i)).length = (n - i) * 3 := by rw [flat_length szRq_cells, List.length_drop, hn]
  have hml2 : (flat kRq.cells [((a, b, c) : Rqm)]).length = 3 := by rw [flat_length szRq_cells]; rfl
  have hcd : w.drew.heap[g]? = some (.cells cur 91 (0, 0)) := hc
  have hsrc : HoldsK kRq.cells 3 w.drew (.slice (some ⟨g, i * 3, none⟩) (n - i) (cap - i)) (L.drop i) := by
    have h5 := (ownK_cells (B := B) szRq_cells (l := L) hB hcd (by omega) hmx hk (by rw [← hn]; exact ht)).holds.drop szRq_cells (i := i) (by omega)
    rw [Nat.zero_add, ← hn] at h5
    exact h5
  obtain ⟨c1, hc1⟩ : ∃ c1, rowPut cur ((i + 1) * 3) (flat kRq.cells (L.drop i)) = c1 := ⟨_, rfl⟩
  obtain ⟨c2, hc2⟩ : ∃ c2, rowPut c1 (i * 3) (flat kRq.cells [((a, b, c) : Rqm)]) = c2 := ⟨_, rfl⟩
  have hcp1 : ∀ ty dc sc, (Builtin.copy_ #[68, 68] ty #[.slice (some ⟨g, (i + 1) * 3, none⟩) (n - i) dc, .slice (some ⟨g, i * 3, none⟩) (n + 1 - i) sc]).run Try.prog w.drew = .ok (goInt ((L.drop i).length : Nat)) (w.drew.setRow g c1) := fun ty dc sc => by
    rw [← hc1]
    exact run_copyRow kindRq Try.underlying68 (by rw [List.length_drop, ← hn]; show min _ _ = _; omega) hcd (by rw [hml, hk]; omega) (cs := cap - i) (by rw [List.length_drop, ← hn]; exact hsrc)
  have hs1 : (w.drew.setRow g c1).heap[g]? = some (.cells c1 91 (0, 0)) := setRow_heap w.drew g cur c1 _ _ hcd
  have hk1 : c1.size = cap * 3 := by rw [← hc1, rowPut_size (by rw [hml, hk]; omega), hk]
  have hsr1 : HoldsK kRq.cells 3 (w.drew.setRow g c1) (.slice (some ⟨g1, 0, none⟩) 1 1) [((a, b, c) : Rqm)] := by
    exact (hs.on (Below.refl w.heap.size w).drew).grown (grownBy_setRow w.drew g c1) (fun q hq e => by cases hq; cases e; exact hne rfl)
  have hcp2 : ∀ ty dc, (Builtin.copy_ #[68, 68] ty #[.slice (some ⟨g, i * 3, none⟩) (n + 1 - i) dc, .slice (some ⟨g1, 0, none⟩) 1 1]).run Try.prog (w.drew.setRow g c1) = .ok (goInt ((1 : Nat) : Int)) ((w.drew.setRow g c1).setRow g c2) := fun ty dc => by
    rw [← hc2]
    exact run_copyRow kindRq Try.underlying68 (ms := [((a, b, c) : Rqm)]) (by show min _ _ = 1; omega) hs1 (by rw [hml2, hk1]; omega) hsr1
  obtain ⟨W1, hW1⟩ : ∃ W1, w.drew.setRow g c1 = W1 := ⟨_, rfl⟩
  rw [hc1, hc2]
  rw [hW1] at hcp1 hcp2 ⊢
  have htn : ((i : Int) + 1).toNat = i + 1 := by omega
  have hrm : ¬ ((cap : Int) < (n : Int) + 1) := by omega
  have hin : i ≤ n := by omega
  have hw1 : IntKind.i64.wrap ((i : Int) + 1) = (i : Int) + 1 := by rw [IntKind.wrap_i64]; omega
  have hb1 : (0 : Int) ≤ (i : Int) + 1 := by omega
  have hb2 : ¬ (cap = i + 1) := by omega
  have hb3 : (i : Int) ≤ (n : Int) := by omega
  have hb5 : (i : Int) ≤ (n : Int) + 1 := by omega
  have hb4 : ¬ (cap = i) := by omega
  have mixed : Try.prog.follows .mixedOrders = true := by kernel_rfl
  have HN := Lib.hid hn; have HC1 := Lib.hid hcp1; have HC2 := Lib.hid hcp2; have HOV := Lib.hid hov
  clear hn hs hc1 hc2 hc ht hg1 hml hml2 hcd hsrc hs1 hk1 hsr1 hW1 hcp1 hcp2
  go_enter Try.func131, Try.ntmps131
  go_wp2_with (simp only [hov])
  clear hov HOV
  go_region_law (refine step_copy_runI rfl _ _ 68 68 (by rfl) (.slice (some ⟨g, (i + 1) * 3, none⟩) (n - i) (cap - (i + 1))) (.slice (some ⟨g, i * 3, none⟩) (n + 1 - i) (cap - i)) (by simp [Act.eval, Act.put]) (by simp [Act.eval, Act.put]) (HC1.out _ _ _) ?_)
  have hcp2 := HC2.out
  go_wp2_with (simp only [hcp2])
  go_ret
  exact ⟨rfl, rfl⟩
set_option maxHeartbeats 8000000 in
theorem insertGrow (g n cap i g1 : Nat) (L : List Rqm) (a b c : Int) (w : World) (hg : g < w.heap.size) {cur : Array Value} (hc : w.heap[g]? = some (.cells cur 91 (0, 0))) (hn : n = L.length) (hi : i < n) (hroom : cap < n + 1) (hnc : n ≤ cap) (hmx : cap ≤ maxLen) (hn9 : n ≤ 1300000) (hk : cur.size = cap * 3) (ht : cur.toList.take (n * 3) = flat kRq.cells L)
    (hs : HoldsK kRq.cells 3 w (.slice (some ⟨g1, 0, none⟩) 1 1) [((a, b, c) : Rqm)]) (hg1 : g1 < w.heap.size) :
    Calls Try.prog 131 #[.slice (some ⟨g, 0, none⟩) n cap, .int .i64 i, .slice (some ⟨g1, 0, none⟩) 1 1] w fun e w' =>
      ∃ v, e = .returned v ∧ OwnK 91 kRq.cells 3 w.heap.size w' v (L.take i ++ (a, b, c) :: L.drop i) ∧ Below w.heap.size w w' := by
  have hz2 : ¬ ((i : Int) = (n : Int)) := by omega
  obtain ⟨i0, hi0, hz0, hz1, hzb⟩ := info_parts kindRq.elem
  have hH0 := ownK_cells (B := 0) szRq_cells (l := L) (Nat.zero_le _) hc (by omega) hmx hk (by rw [← hn]; exact ht)
  have hHL := hH0.holds
  rw [← hn] at hHL
  have hml : (flat kRq.cells (L.drop i)).length = (n - i) * 3 := by rw [flat_length szRq_cells, List.length_drop, hn]
  have hml2 : (flat kRq.cells [((a, b, c) : Rqm)]).length = 3 := by rw [flat_length szRq_cells]; rfl
  have hmt : (flat kRq.cells (L.take i)).length = i * 3 := by rw [flat_length szRq_cells, List.length_take]; congr 1; omega
  have hold : (Builtin.firstCells i0.size i (.slice (some ⟨g, 0, none⟩) i cap)).run Try.prog w.drew = .ok (flat kRq.cells (L.take i)).toArray w.drew := by
    rw [hz1]
    have h5 := ((hHL.on (Below.refl w.heap.size w).drew).take szRq_cells (i := i) (by omega)).cells szRq_cells
    exact run_firstCells_some w.drew 3 i ⟨g, 0, none⟩ i cap (flat kRq.cells (L.take i)) (by rw [hmt]) (fun j v hj => h5 j v hj)
  have hkk : (n : Int) + 1 - (i : Int) = ((n + 1 - i : Nat) : Int) := by omega
  have hik : i + (n + 1 - i) = n + 1 := by omega
  have hrz : ∀ ty, (Builtin.append_ #[68, 3] ty #[.slice (some ⟨g, 0, none⟩) i cap, .int .i64 ((n : Int) + 1 - (i : Int))]).run Try.prog w =
      .ok (.slice (some ⟨w.heap.size, 0, none⟩) (n + 1) (grownCap w (n + 1) cap 91)) (w.drew.alloc (.cells ((flat kRq.cells (L.take i)).toArray ++ Builtin.zeroCells (Value.agg #[.int .i64 0, .int .i64 0, .int .i64 0]).cells (n + 1 - i) ++ Builtin.zeroCells (Value.agg #[.int .i64 0, .int .i64 0, .int .i64 0]).cells (grownCap w (n + 1) cap 91 - (n + 1))) 91)) := fun ty => by
    have h := Lib.run_append_grow_zeros w 68 3 ty 91 i0 (.agg #[.int .i64 0, .int .i64 0, .int .i64 0]) .i64 .i64 Try.underlying68 Try.underlying3 hi0 hz0 (some ⟨g, 0, none⟩) i cap _ hold (n + 1 - i) (by omega) (by rw [hz1]; decide) (by omega) (by omega) (by rw [hzb]; omega) (by rw [hzb, hik]; exact growslice_fits hroom (by omega))
    rw [hik] at h
    rw [hkk]
    exact h
  have hGn : n + 1 ≤ grownCap w (n + 1) cap 91 := grownCap_ge w _ _ _
  have hG63 := grownCap_le_maxLen w (n + 1) cap 91 (by unfold maxLen; omega)
  obtain ⟨G, hG⟩ : ∃ G, G = grownCap w (n + 1) cap 91 := ⟨_, rfl⟩
  rw [← hG] at hrz hGn hG63
  obtain ⟨ROW, hROW⟩ : ∃ ROW : Array Value, ROW = (flat kRq.cells (L.take i)).toArray ++ Builtin.zeroCells (Value.agg #[.int .i64 0, .int .i64 0, .int .i64 0]).cells (n + 1 - i) ++ Builtin.zeroCells (Value.agg #[.int .i64 0, .int .i64 0, .int .i64 0]).cells (G - (n + 1)) := ⟨_, rfl⟩
  rw [← hROW] at hrz
  have hRs : ROW.size = G * 3 := by
    rw [hROW]
    simp only [Array.size_append, List.size_toArray, hmt, size_zeroCells]
    have h3 : (Value.agg #[.int .i64 0, .int .i64 0, .int .i64 0]).cells.size = 3 := rfl
    rw [h3]
    omega
  have hRt : ROW.toList.take (i * 3) = flat kRq.cells (L.take i) := by
    rw [hROW, Array.toList_append, Array.toList_append, List.append_assoc, ← hmt]
    exact List.take_left
  obtain ⟨W1, hW1⟩ : ∃ W1, w.drew.alloc (.cells ROW 91) = W1 := ⟨_, rfl⟩
  have hb1 : Below w.heap.size w W1 := by rw [← hW1]; exact (Below.refl w.heap.size w).drew.alloc (Nat.le_refl _) _
  have hh1 : W1.heap[w.heap.size]? = some (.cells ROW 91 (0, 0)) := by rw [← hW1]; exact heap_alloc_new w.drew _
  have hz1' : W1.heap.size = w.heap.size + 1 := by rw [← hW1]; simp
  rw [hW1] at hrz
  obtain ⟨c1, hc1⟩ : ∃ c1, rowPut ROW (i * 3) (flat kRq.cells [((a, b, c) : Rqm)]) = c1 := ⟨_, rfl⟩
  obtain ⟨c2, hc2⟩ : ∃ c2, rowPut c1 ((i + 1) * 3) (flat kRq.cells (L.drop i)) = c2 := ⟨_, rfl⟩
  have hk1 : c1.size = G * 3 := by rw [← hc1, rowPut_size (by rw [hml2, hRs]; omega), hRs]
  have hcpA : ∀ ty dc, (Builtin.copy_ #[68, 68] ty #[.slice (some ⟨w.heap.size, i * 3, none⟩) (n + 1 - i) dc, .slice (some ⟨g1, 0, none⟩) 1 1]).run Try.prog W1 = .ok (goInt ((1 : Nat) : Int)) (W1.setRow w.heap.size c1) := fun ty dc => by
    rw [← hc1]
    exact run_copyRow kindRq Try.underlying68 (ms := [((a, b, c) : Rqm)]) (by show min _ _ = 1; omega) hh1 (by rw [hml2, hRs]; omega) (hs.on hb1)
  obtain ⟨W2, hW2⟩ : ∃ W2, W1.setRow w.heap.size c1 = W2 := ⟨_, rfl⟩
  have hh2 : W2.drew.heap[w.heap.size]? = some (.cells c1 91 (0, 0)) := by rw [← hW2]; exact setRow_heap W1 w.heap.size ROW c1 _ _ hh1
  have hb2 : Below w.heap.size w W2.drew := by
    rw [← hW2]
    have h5 := hb1.grown (grownBy_setRow W1 w.heap.size c1) hb1.size (fun q hq => by cases hq; exact Nat.le_refl _)
    exact h5.trans ((Below.refl _ _).drew.mono h5.size)
  rw [hW2] at hcpA
  have hsrc : HoldsK kRq.cells 3 W2.drew (.slice (some ⟨g, i * 3, none⟩) (n - i) (cap - i)) (L.drop i) := by
    have h5 := (hHL.on hb2).drop szRq_cells (i := i) (by omega)
    rw [Nat.zero_add] at h5
    exact h5
  have hcpB : ∀ ty dc sc, (Builtin.copy_ #[68, 68] ty #[.slice (some ⟨w.heap.size, (i + 1) * 3, none⟩) (n - i) dc, .slice (some ⟨g, i * 3, none⟩) (n - i) sc]).run Try.prog W2.drew = .ok (goInt ((L.drop i).length : Nat)) (W2.drew.setRow w.heap.size c2) := fun ty dc sc => by
    rw [← hc2]
    exact run_copyRow kindRq Try.underlying68 (by rw [List.length_drop, ← hn]; show min _ _ = _; omega) hh2 (by rw [hml, hk1]; omega) (cs := cap - i) (by rw [List.length_drop, ← hn]; exact hsrc)
  obtain ⟨W3, hW3⟩ : ∃ W3, W2.drew.setRow w.heap.size c2 = W3 := ⟨_, rfl⟩
  have hins := row_insB szRq_cells (L := L) (i := i) (cap := G) (r := (a, b, c)) (cur := ROW) (by omega) hRs (by omega) hRt
  rw [hc1, hc2] at hins
  have hown : OwnK 91 kRq.cells 3 w.heap.size W3 (.slice (some ⟨w.heap.size, 0, none⟩) (n + 1) G) (L.take i ++ (a, b, c) :: L.drop i) := by
    have hln : (L.take i ++ (a, b, c) :: L.drop i).length = n + 1 := by simp; omega
    have h5 := ownK_cells (B := w.heap.size) szRq_cells (l := L.take i ++ ((a, b, c) : Rqm) :: L.drop i) (w := W3) (g := w.heap.size) (cap := G) (cur := c2) (Nat.le_refl _) (by rw [← hW3]; exact setRow_heap W2.drew w.heap.size c1 c2 _ _ hh2) (by rw [hln]; exact hGn) hG63 hins.2 (by rw [hln, hn]; exact hins.1)
    rw [hln] at h5
    exact h5
  have hb3 : Below w.heap.size w W3 := by rw [← hW3]; exact hb2.grown (grownBy_setRow W2.drew w.heap.size c2) hb2.size (fun q hq => by cases hq; exact Nat.le_refl _)
  rw [hW3] at hcpB
  have HOWN := Lib.hid hown; have HB3 := Lib.hid hb3; have HR := Lib.hid hrz; have HA := Lib.hid hcpA; have HCB := Lib.hid hcpB
  have hG6 : G ≤ 9223372036854775807 := by unfold maxLen at hG63; omega
  clear hH0 hHL hml hml2 hmt hold hkk hik hrz hROW hRs hRt hG hW1 hb1 hh1 hz1' hc1 hc2 hk1 hcpA hW2 hh2 hb2 hsrc hcpB hW3 hins hown hb3 hi0 hz0 hz1 hzb hs hc ht hk hn
  have hw1 : IntKind.i64.wrap ((i : Int) + 1) = (i : Int) + 1 := by rw [IntKind.wrap_i64]; omega
  have hb1 : (0 : Int) ≤ (i : Int) + 1 := by omega
  have htn : ((i : Int) + 1).toNat = i + 1 := by omega
  have hrm : (cap : Int) < (n : Int) + 1 := by omega
  have hin : i ≤ n := by omega
  have hGi : ¬ (G = i) := by omega
  have hGim : ¬ (G = i + 1) := by omega
  have hci : ¬ (cap = i) := by omega
  have hb3 : (i : Int) ≤ (n : Int) := by omega
  have hb5 : (i : Int) ≤ (n : Int) + 1 := by omega
  have hcap63 : cap ≤ 9223372036854775807 := by unfold maxLen at hmx; omega
  have mixed : Try.prog.follows .mixedOrders = true := by kernel_rfl
  have hcpA := HA.out
  go_enter Try.func131, Try.ntmps131
  go_wp2_with (first | (at_builtin; refine Lib.wpList_append_run _ rfl _ _ _ _ rfl _ _ rfl rfl _ _ (HR.out _) ?_) | (simp only [hcpA]))
  go_region_law (refine step_copy_runI rfl _ _ 68 68 (by rfl) (.slice (some ⟨w.heap.size, (i + 1) * 3, none⟩) (n - i) (G - (i + 1))) (.slice (some ⟨g, i * 3, none⟩) (n - i) (cap - i)) (by simp [Act.eval, Act.put]) (by simp [Act.eval, Act.put]) (HCB.out _ _ _) ?_)
  go_wp2
  go_ret
  exact ⟨_, rfl, HOWN.out, HB3.out⟩
end Go.Proofs.Ytjphnlkdbhcblaa.Row
/- The program puts a requester: withRequester. No conditions but that lengths fit. -/
namespace Go.Proofs.Ytjphnlkdbhcblaa.Row
open Go.ChangeShapes Go.WideShapes Go.ChangeAt Go.RowKit Go.Instr
set_option linter.unusedVariables false
set_option maxRecDepth 100000
theorem clos_wr1 (g : Nat) (f : Int) (w : World) (hg : w.cell? ⟨g, 0, none⟩ = some (.int .i64 f)) : ClosK Try.prog kRq 128 #[.pointer (some ⟨g, 0, none⟩)] (fcR f) (fun _ => True) w := by
  intro x V w1 hb hA _
  obtain rfl := kRq_at hA
  obtain ⟨a, b, c⟩ := x
  have hg1 := kc hg hb
  have hal := (Below.refl w1.heap.size w1).alloc (Nat.le_refl _) (.cells #[.int .i64 a, .int .i64 b, .int .i64 c] 91)
  have HG := Lib.hid (kc hg1 hal); have HB := Lib.hid hal
  have g0 := HG.out
  unfold fcR
  dsimp only
  clear hg hg1 hb hA hal
  go_enter Try.func128, Try.ntmps128
  go_wp2
  go_ret
  exact ⟨by first | rfl | simp [bne], HB.out⟩
theorem clos_wr2 (g : Nat) (f : Int) (w : World) (hg : w.cell? ⟨g, 0, none⟩ = some (.int .i64 f)) : ClosK Try.prog kRq 130 #[.pointer (some ⟨g, 0, none⟩)] (gtR f) (fun _ => True) w := by
  intro x V w1 hb hA _
  obtain rfl := kRq_at hA
  obtain ⟨a, b, c⟩ := x
  have hg1 := kc hg hb
  have hal := (Below.refl w1.heap.size w1).alloc (Nat.le_refl _) (.cells #[.int .i64 a, .int .i64 b, .int .i64 c] 91)
  have HG := Lib.hid (kc hg1 hal); have HB := Lib.hid hal
  have g0 := HG.out
  unfold gtR
  dsimp only
  clear hg hg1 hb hA hal
  go_enter Try.func130, Try.ntmps130
  go_wp2
  go_ret
  exact ⟨by first | rfl | simp [bne], HB.out⟩
set_option maxHeartbeats 2000000 in
theorem indexR1 (b0 : Addr) (p : Rqt → Bool) (ok : Rqt → Prop) (v : Value) (l : List Rqt) (w : World) (z : Int) (hz : ixL p l = z) (h : kLRq.At w v l) (hl : l.length ≤ 9000000) (hp : ∀ x ∈ l, ok x) (hc : ClosK Try.prog kRq 130 #[.pointer (some b0)] p ok w) :
    Calls Try.prog 129 #[v, .func (.func 130) #[] #[.pointer (some b0)]] w fun e w' => e = .returned (.int .i64 z) ∧ Below w.heap.size w w' := by
  obtain ⟨x, n, cx, L, rfl, hn, ht, hh, hel⟩ := kLRq_at h
  have hlen : l.length = n := by rw [← ht, List.length_map]; exact hn.symm
  rw [hlen] at hl
  have hcap : n ≤ cx := by obtain ⟨x', n', cap', hv, hn', hc', -⟩ := hh.shapeN; cases hv; exact hc'
  have HN := Lib.hid hn; have HT := Lib.hid ht; have HH := Lib.hid hh; have HEL := Lib.hid hel; have HLEN := Lib.hid hlen; have HP := Lib.hid hp; have HC := Lib.hid hc; have HZ := Lib.hid hz
  clear hn h hh hc hp ht hel hlen hz
  go_enter Try.func129, Try.ntmps129
  go_wp2
  go_loopw [8] (fun iv wr => ∃ i : Nat, i ≤ n ∧ iv = .int .i64 i ∧ Hid (noL p l i) ∧ Hid (Below w.heap.size w wr)) (fun iv _ => n - (intOf iv).toNat)
  case atStart => exact ⟨0, Nat.zero_le _, rfl, Lib.hid (noL_zero _ _), Lib.hid (Below.refl _ _)⟩
  case round =>
    obtain ⟨k, hk, rfl, ha, hb⟩ := hrel
    by_cases hlt : k < n
    · have hlen := HN.out
      obtain ⟨b, off, rfl, -, hc0, hc1, hc2, hA⟩ := kLRq_elem (HH.out.on hb.out) (fun y hy => kRq.holds_on (HEL.out y hy) hb.out) (j := k) (by omega)
      have hpt : nth l k = kRq.strip (nth L k) := by rw [← HT.out, nth_map _ (by omega)]
      have hps := HP.out (nth l k) (nth_mem (by have := HLEN.out; omega))
      rw [hpt] at hps
      obtain ⟨q, hq⟩ : ∃ q, p (kRq.strip (nth L k)) = q := ⟨_, rfl⟩
      have HCL := HC.out _ _ wr hb.out hA hps
      rw [hq] at HCL
      rw [← hpt] at hq
      replace HCL := Lib.hid HCL
      have HQ := Lib.hid hq
      clear hlen hpt hps hA hq
      go_wp2_with fail
      refine HCL.out.mono ?_
      rintro e w2 ⟨rfl, hb2⟩
      have HB2 := Lib.hid (hb.out.trans (hb2.mono hb.out.size))
      clear hb2 hc0 hc1 hc2 HCL
      cases q with
      | true =>
        have HV := Lib.hid (show z = (k : Int) from HZ.out.symm.trans (ixL_at (by have := HLEN.out; omega) ha.out HQ.out))
        go_wp2
        go_ret
        exact ⟨ret_int HV.out.symm, HB2.out⟩
      | false =>
        have HA := Lib.hid (noL_succ ha.out HQ.out)
        go_wp2
        go_roundw
        case rel => exact ⟨k + 1, by omega, by go_num, HA, HB2⟩
        case measure => simp [intOf]; omega
    · obtain rfl : k = n := by omega
      have HV := Lib.hid (show z = -1 from HZ.out.symm.trans (ixL_none (by rw [HLEN.out]; exact ha.out)))
      clear hlt
      go_wp2
      go_ret
      exact ⟨ret_int HV.out.symm, hb.out⟩
theorem insertR (B i g1 : Nat) (x : Option Addr) (n cap : Nat) (L : List Rqm) (a b c : Int) (w : World) (h : OwnK 91 kRq.cells 3 B w (.slice x n cap) L) (hi : i < L.length) (hl9 : L.length ≤ 1300000)
    (hg1 : w.heap[g1]? = some (.cells #[.int .i64 a, .int .i64 b, .int .i64 c] 91 (0, 0))) (hs : HoldsK kRq.cells 3 w (.slice (some ⟨g1, 0, none⟩) 1 1) [((a, b, c) : Rqm)]) (hne : ∀ g, (Value.slice x n cap).ownBlock = some g → g1 ≠ g) (hB : B ≤ w.heap.size) :
    Calls Try.prog 131 #[.slice x n cap, .int .i64 i, .slice (some ⟨g1, 0, none⟩) 1 1] w fun e w' => ∃ v, e = .returned v ∧ OwnK 91 kRq.cells 3 B w' v (L.take i ++ (a, b, c) :: L.drop i) ∧ Below B w w' := by
  obtain ⟨g, cur, rfl, hn, hBg, hc, hcap, hmx, hk, ht⟩ := h.cur (by omega)
  have hln : (L.take i ++ ((a, b, c) : Rqm) :: L.drop i).length = n + 1 := by simp; omega
  by_cases hr : n + 1 ≤ cap
  · refine (insertRoom B g n cap i g1 L a b c w hBg hc hn (by omega) hr hmx hk (by rw [hn]; exact ht) hg1 hs (hne g rfl)).mono ?_
    rintro e w' ⟨rfl, rfl⟩
    have hti : cur.toList.take (i * 3) = flat kRq.cells (L.take i) := by
      rw [flat_take szRq_cells L i (by omega), ← ht, List.take_take]
      congr 1
      omega
    have hins := row_insA szRq_cells (L := L) (i := i) (cap := cap) (r := (a, b, c)) (cur := cur) (by omega) hk (by omega) hti
    have hs1 := setRow_heap w.drew g cur (rowPut cur ((i + 1) * 3) (flat kRq.cells (L.drop i))) _ _ hc
    have hs2 := setRow_heap _ g _ (rowPut (rowPut cur ((i + 1) * 3) (flat kRq.cells (L.drop i))) (i * 3) (flat kRq.cells [((a, b, c) : Rqm)])) _ _ hs1
    have h5 := ownK_cells (B := B) szRq_cells (l := L.take i ++ ((a, b, c) : Rqm) :: L.drop i) hBg hs2 (by rw [hln]; exact hr) hmx hins.2 (by rw [hln, hn]; exact hins.1)
    rw [hln] at h5
    have b1 := (Below.refl B w).drew.grown (grownBy_setRow w.drew g (rowPut cur ((i + 1) * 3) (flat kRq.cells (L.drop i)))) hB (fun q hq => by cases hq; exact hBg)
    exact ⟨_, rfl, h5, b1.grown (grownBy_setRow _ g _) (Nat.le_trans hB b1.size) (fun q hq => by cases hq; exact hBg)⟩
  · refine (insertGrow g n cap i g1 L a b c w (Array.getElem?_eq_some_iff.1 hc).1 hc hn (by omega) (by omega) (by omega) hmx (by omega) hk (by rw [hn]; exact ht) hs (Array.getElem?_eq_some_iff.1 hg1).1).mono ?_
    rintro e w' ⟨v, rfl, ho, hb⟩
    exact ⟨v, rfl, ho.mono hB, hb.mono hB⟩
set_option maxHeartbeats 8000000 in
theorem withR (V : Value) (l : List Rqt) (r0 r1 r2 : Int) (w : World) (h : HoldsK kRq.cells 3 w V l) (hl : l.length ≤ 1200000) :
    Calls Try.prog 96 #[V, .agg #[.int .i64 r0, .int .i64 r1, .int .i64 r2]] w fun e w' => ∃ v, e = .returned v ∧ OwnK 91 kRq.cells 3 w.heap.size w' v (putR l (r0, r1, r2)) ∧ Below w.heap.size w w' := by
  obtain ⟨x, n, c, rfl, hn, hnc, h⟩ := h.shapeN
  have hal := (Below.refl w.heap.size w).alloc (Nat.le_refl _) (.cells #[.int .i64 r0, .int .i64 r1, .int .i64 r2] 91)
  have hx := Ret.Blk.new w #[.int .i64 r0, .int .i64 r1, .int .i64 r2] 91
  obtain ⟨wa, e1⟩ : ∃ wa, w.alloc (.cells #[.int .i64 r0, .int .i64 r1, .int .i64 r2] 91) = wa := ⟨_, rfl⟩
  rw [e1] at hal hx
  have HWA := Lib.hid e1; have HAL := Lib.hid hal; have HX := Lib.hid hx; have HH := Lib.hid h; have HN := Lib.hid hn
  have hn9 : n ≤ 1200000 := by omega
  clear h hal hx e1 hn
  have hmf : ∀ (fn : Fn) (first cap : Array Value) (w : World), (Instr.makeFunc fn first cap).run Try.prog w = .ok (.func fn first cap) w := fun _ _ _ _ => rfl
  go_enter Try.func96, Try.ntmps96
  go_wp2_with fail
  rw [HWA.out]
  refine (wantOf x n c _ _ _ rfl wa).mono ?_
  rintro e w3 ⟨rfl, rfl⟩
  have hb3 := ((Below.refl wa.heap.size wa).alloc (Nat.le_refl _) (.cells #[.slice x n c] 68)).alloc (by simp) (.cells #[.func (.func 128) #[] #[.pointer (some ⟨w.heap.size, 0, none⟩)]] 121)
  have hk1 := (Ret.Blk.new wa #[.slice x n c] 68).on ((Below.refl _ _).alloc (Nat.le_refl _) (.cells #[.func (.func 128) #[] #[.pointer (some ⟨w.heap.size, 0, none⟩)]] 121))
  have hk2 := Ret.Blk.new' (w := wa.alloc (.cells #[.slice x n c] 68)) (n := wa.heap.size + 1) #[.func (.func 128) #[] #[.pointer (some ⟨w.heap.size, 0, none⟩)]] 121 (by simp)
  obtain ⟨wb, hwb⟩ : ∃ wb, (wa.alloc (.cells #[.slice x n c] 68)).alloc (.cells #[.func (.func 128) #[] #[.pointer (some ⟨w.heap.size, 0, none⟩)]] 121) = wb := ⟨_, rfl⟩
  rw [hwb] at hb3 hk1 hk2 ⊢
  have hbb := HAL.out.trans (hb3.mono HAL.out.size)
  have HXB := Lib.hid (HX.out.on hb3)
  have HC := Lib.hid (collectR wa.heap.size (wa.heap.size + 1) w.heap.size x n c l (fcR r0) wb (by omega) HN.out hnc (clos_wr1 w.heap.size r0 wb (HXB.out.cell 0)) (hk1.cell 0) (hk2.cell 0) (HH.out.on hbb))
  have HBB := Lib.hid hbb
  clear hb3 hk1 hk2 hwb hbb
  go_wp2_with fail
  refine HC.out.mono ?_
  rintro e w4 ⟨v4, rfl, ho4, hb4⟩
  obtain ⟨x4, n4, c4, rfl, hn4, hc4, ho4⟩ := ho4.shapeN
  have HX4 := Lib.hid (HXB.out.on hb4)
  have HO4 := Lib.hid (ho4.mono HBB.out.size); have HB4 := Lib.hid (HBB.out.trans (hb4.mono HBB.out.size))
  have hlf : (l.filter (fcR r0)).length ≤ 1200000 := Nat.le_trans (List.length_filter_le _ _) hl
  have HO4n := Lib.hid (show ∀ q, (Value.slice x4 n4 c4).ownBlock = some q → wb.heap.size ≤ q ∧ q < w4.heap.size from fun q hq => ho4.lt q hq)
  obtain ⟨z, hz⟩ : ∃ z, ixL (gtR r0) (l.filter (fcR r0)) = z := ⟨_, rfl⟩
  have HZ := Lib.hid hz
  have HI := Lib.hid (indexR1 ⟨w.heap.size, 0, none⟩ (gtR r0) (fun _ => True) (.slice x4 n4 c4) (l.filter (fcR r0)) w4 z hz (by have h5 := kLRq_of ho4.holds; rw [rq_map] at h5; exact h5) (by omega) (fun _ _ => trivial) (clos_wr2 w.heap.size r0 w4 (HX4.out.cell 0)))
  clear ho4 hb4 hz HC hn4
  go_wp2_with fail
  refine HI.out.mono ?_
  rintro e w5 ⟨rfl, hb5⟩
  have HX5 := Lib.hid (HX4.out.on hb5); have HO5 := Lib.hid (HO4.out.on hb5); have HB5 := Lib.hid (HB4.out.trans (hb5.mono HB4.out.size))
  have ha6 := (Below.refl w5.heap.size w5).alloc (Nat.le_refl _) (.cells #[.int .i64 r0, .int .i64 r1, .int .i64 r2] 91)
  have S6 := Lib.hid (one_k (k := kRq) szRq_cells (e := 91) (W := w5) (m := ((r0, r1, r2) : Rqm)) (cs := [.int .i64 r0, .int .i64 r1, .int .i64 r2]) rfl)
  have N6 := Lib.hid (show (w5.alloc (.cells #[.int .i64 r0, .int .i64 r1, .int .i64 r2] 91)).heap[w5.heap.size]? = some (.cells #[.int .i64 r0, .int .i64 r1, .int .i64 r2] 91 (0, 0)) from heap_alloc_new w5 _)
  have O6 := Lib.hid (HO5.out.on ha6); have B6 := Lib.hid (HB5.out.trans (ha6.mono HB5.out.size)); have X6 := Lib.hid (HX5.out.on ha6)
  have HLT := Lib.hid (show ∀ q, (Value.slice x4 n4 c4).ownBlock = some q → w5.heap.size ≠ q from fun q hq => by have h5 := (HO4n.out q hq).2; have h6 := hb5.size; omega)
  clear ha6 hb5 HI
  have r0c := HX5.out.cell 0; have r1c := HX5.out.cell 1; have r2c := HX5.out.cell 2
  have hpu := putO_ix (l.filter (fcR r0)) (r0, r1, r2)
  rw [HZ.out] at hpu
  by_cases hz0 : z < 0
  · rw [if_pos hz0] at hpu
    have HPU := Lib.hid (show putR l (r0, r1, r2) = l.filter (fcR r0) ++ [(r0, r1, r2)] from hpu)
    clear hpu
    go_wp2_with (at_builtin; refine wpList_appK kindRq (B := w.heap.size) (l := l.filter (fcR r0)) (m := [((r0, r1, r2) : Rqm)]) rfl _ _ rfl Try.underlying68 rfl rfl O6.out S6.out (by simp; omega) (by unfold maxLen; simp; omega) B6.out.size ?_)
    intro v7 w7 ho7 hg7
    obtain ⟨x7, n7, c7, rfl, -, -, ho7⟩ := ho7.shapeN
    have O7 := Lib.hid ho7
    have B7 := Lib.hid (B6.out.grown hg7 B6.out.size (fun g hg => (O6.out.lt g hg).1))
    clear ho7 hg7 r0c r1c r2c
    go_wp2
    go_ret
    exact ⟨_, rfl, by rw [HPU.out]; exact O7.out, B7.out⟩
  · rw [if_neg hz0] at hpu
    have hlt := ixL_lt (gtR r0) (l.filter (fcR r0))
    rw [HZ.out] at hlt
    obtain ⟨i, rfl⟩ : ∃ i : Nat, z = (i : Int) := ⟨z.toNat, by omega⟩
    rw [Int.toNat_natCast] at hpu
    have hil : i < (l.filter (fcR r0)).length := by rcases hlt with h5 | h5 <;> omega
    have HPU := Lib.hid (show putR l (r0, r1, r2) = (l.filter (fcR r0)).take i ++ (r0, r1, r2) :: (l.filter (fcR r0)).drop i from hpu)
    have HIN := Lib.hid (insertR w.heap.size i w5.heap.size x4 n4 c4 (l.filter (fcR r0)) r0 r1 r2 _ O6.out hil (by omega) N6.out S6.out HLT.out B6.out.size)
    clear hpu hlt hil
    go_wp2_with fail
    refine HIN.out.mono ?_
    rintro e w7 ⟨v7, rfl, ho7, hb7⟩
    obtain ⟨x7, n7, c7, rfl, -, -, ho7⟩ := ho7.shapeN
    have O7 := Lib.hid ho7; have B7 := Lib.hid (B6.out.trans hb7)
    clear ho7 hb7 r0c r1c r2c
    go_wp2
    go_ret
    exact ⟨_, rfl, by rw [HPU.out]; exact O7.out, B7.out⟩
end Go.Proofs.Ytjphnlkdbhcblaa.Row
/- AddRequester, the program. No conditions but that lengths fit. -/
namespace Go.Proofs.Ytjphnlkdbhcblaa.Row
open Go.ChangeShapes Go.WideShapes Go.ChangeAt Go.RowKit Go.Instr
set_option linter.unusedVariables false
set_option maxRecDepth 100000
set_option maxRecDepth 100000 in
set_option maxHeartbeats 4000000 in
theorem rai {Q : Exit → Act → World → Prop} {v0 v1 v2 v3 v4 v5 v6 v7 v8 v9 v13 v14 v15 v16 v17 v18 v19 v20 v21 v22 v23 v24 v25 v26 v27 v28 v29 v30 v31 v32 v33 v34 v35 v36 v37 v38 v39 v40 v41 v42 v43 v44 v45 v46 v47 v48 v49 v50 v51 v52 v53 v54 v55 v56 v57 v58 v59 v60 v61 v62 : Value} {w : World} {g n c k q n2 c2 : Nat} {x2 : Option Addr} {a0 a1 a2 : Int} {M2 : List Rqm} (hk : k < n) (hkc : k ≤ c) (hgq : g ≠ q) (HM : Hid (HoldsK kRq.cells 3 w (.slice x2 n2 c2) M2)) (HLN : Hid (M2.length ≤ 1200000)) (K1 : Hid (w.cell? ⟨g, k * 3 + 1, none⟩ = some (.slice x2 n2 c2))) (T1 : Hid (w.frozen? ⟨g, k * 3 + 1, none⟩ = false)) (Q0 : Hid (w.cell? ⟨q, 0, none⟩ = some (.int .i64 a0))) (Q1 : Hid (w.cell? ⟨q, 1, none⟩ = some (.int .i64 a1))) (Q2 : Hid (w.cell? ⟨q, 2, none⟩ = some (.int .i64 a2)))
  (hQ : ∀ (u51 u52 u53 u54 u55 u56 u57 u58 u59 u60 u61 : Value) (x4 : Option Addr) (n4 c4 : Nat)  (wx : World), Hid (kLRq.Own w.heap.size wx.heap.size wx ⟨x4, n4, c4, putR M2 (a0, a1, a2)⟩) → Below w.heap.size w wx → Q .normal ⟨#[v0, v1, v2, v3, v4, v5, v6, v7, v8, v9, .slice (some ⟨g, 0, none⟩) n c, .int .i64 k, .pointer (some ⟨q, 0, none⟩), v13, v14, v15, v16, v17, v18, v19, v20, v21, v22, v23, v24, v25, v26, v27, v28, v29, v30, v31, v32, v33, v34, v35, v36, v37, v38, v39, v40, v41, v42, v43, v44, v45, v46, v47, v48, v49, v50, u51, u52, u53, u54, u55, u56, u57, u58, u59, u60, u61, v62], []⟩ ((wx).setCell ⟨g, k * 3 + 1, none⟩ (.slice x4 n4 c4))) :
  (Code.region 11 #[⟨some 51, .move (.tmp 10), 35, "l13_pend.go:124", #[], none⟩,
   ⟨some 52, .move (.tmp 11), 3, "l13_pend.go:124", #[], none⟩,
   ⟨some 53, .move (.tmp 10), 35, "l13_pend.go:124", #[], none⟩,
   ⟨some 54, .move (.tmp 11), 3, "l13_pend.go:124", #[], none⟩,
   ⟨some 55, .indexAddr 35 (.tmp 53) (.tmp 54), 0, "l13_pend.go:124", #[⟨2, .data⟩, ⟨3, .data⟩], none⟩,
   ⟨some 56, .fieldAddr 101 (.tmp 55) 1, 0, "l13_pend.go:124", #[⟨4, .data⟩], none⟩,
   ⟨some 57, .load 68 (.tmp 56), 68, "l13_pend.go:124", #[⟨5, .data⟩], none⟩,
   ⟨some 58, .load 91 (.tmp 12), 91, "l13_pend.go:124", #[], none⟩,
   ⟨some 59, .call ⟨.value (.func 96), #[.tmp 57, .tmp 58], #[68, 91]⟩, 68, "l13_pend.go:124", #[⟨6, .data⟩, ⟨7, .data⟩], none⟩,
   ⟨some 60, .indexAddr 35 (.tmp 51) (.tmp 52), 0, "l13_pend.go:124", #[⟨0, .data⟩, ⟨1, .data⟩, ⟨0, .phase⟩, ⟨1, .phase⟩, ⟨2, .phase⟩, ⟨3, .phase⟩, ⟨4, .phase⟩, ⟨5, .phase⟩, ⟨6, .phase⟩, ⟨7, .phase⟩, ⟨8, .phase⟩], none⟩,
   ⟨some 61, .fieldAddr 101 (.tmp 60) 1, 0, "l13_pend.go:124", #[⟨9, .data⟩, ⟨0, .phase⟩, ⟨1, .phase⟩, ⟨2, .phase⟩, ⟨3, .phase⟩, ⟨4, .phase⟩, ⟨5, .phase⟩, ⟨6, .phase⟩, ⟨7, .phase⟩, ⟨8, .phase⟩], none⟩,
   ⟨none, .store 68 (.tmp 61) (.tmp 59), 0, "l13_pend.go:124", #[⟨10, .data⟩, ⟨8, .data⟩, ⟨8, .chain⟩, ⟨0, .phase⟩, ⟨1, .phase⟩, ⟨2, .phase⟩, ⟨3, .phase⟩, ⟨4, .phase⟩, ⟨5, .phase⟩, ⟨6, .phase⟩, ⟨7, .phase⟩, ⟨8, .phase⟩], none⟩] true).wp Try.prog Q ⟨#[v0, v1, v2, v3, v4, v5, v6, v7, v8, v9, .slice (some ⟨g, 0, none⟩) n c, .int .i64 k, .pointer (some ⟨q, 0, none⟩), v13, v14, v15, v16, v17, v18, v19, v20, v21, v22, v23, v24, v25, v26, v27, v28, v29, v30, v31, v32, v33, v34, v35, v36, v37, v38, v39, v40, v41, v42, v43, v44, v45, v46, v47, v48, v49, v50, v51, v52, v53, v54, v55, v56, v57, v58, v59, v60, v61, v62], []⟩ w := by
 have HQ := Lib.hid hQ; clear hQ
 have hdr : Below w.heap.size w w.drew := (Below.refl _ _).drew
 have BB := Lib.hid hdr
 refine wp_region_noPanic ?_
 refine wp_region_held_drew (S := (fun w' => w'.cell? ⟨q, 0, none⟩ = some (.int .i64 a0) ∧ w'.cell? ⟨q, 1, none⟩ = some (.int .i64 a1) ∧ w'.cell? ⟨q, 2, none⟩ = some (.int .i64 a2))) (by kernel_rfl) ?_ (fun hHeld => ?_)
 ·
  exact ⟨kc Q0.out BB.out, kc Q1.out BB.out, kc Q2.out BB.out⟩
 clear hdr
 generalize w.drew = wd at *
 refine wpAnyH_take (i := 0) (oi := ⟨some 51, .move (.tmp 10), 35, "l13_pend.go:124", #[], none⟩) (v := ?_) rfl (by kernel_rfl) (by kernel_rfl) (by kernel_rfl) (fun _ _ _ h => h) (Or.inl ⟨by rfl, ?_⟩) (by assumption) ?_
 rotate_left
 ·
  intro w' hSw; (try dsimp only at hSw); first | (go_simp; done) | (go_simp; with_reducible rfl)
 (try simp only [Act.put, Row.pB0, Row.pB1, Row.pB2])
 refine wpAnyH_take (i := 1) (oi := ⟨some 52, .move (.tmp 11), 3, "l13_pend.go:124", #[], none⟩) (v := ?_) rfl (by kernel_rfl) (by kernel_rfl) (by kernel_rfl) (fun _ _ _ h => h) (Or.inl ⟨by rfl, ?_⟩) (by assumption) ?_
 rotate_left
 ·
  intro w' hSw; (try dsimp only at hSw); first | (go_simp; done) | (go_simp; with_reducible rfl)
 (try simp only [Act.put, Row.pB0, Row.pB1, Row.pB2])
 refine wpAnyH_take (i := 2) (oi := ⟨some 53, .move (.tmp 10), 35, "l13_pend.go:124", #[], none⟩) (v := ?_) rfl (by kernel_rfl) (by kernel_rfl) (by kernel_rfl) (fun _ _ _ h => h) (Or.inl ⟨by rfl, ?_⟩) (by assumption) ?_
 rotate_left
 ·
  intro w' hSw; (try dsimp only at hSw); first | (go_simp; done) | (go_simp; with_reducible rfl)
 (try simp only [Act.put, Row.pB0, Row.pB1, Row.pB2])
 refine wpAnyH_take (i := 3) (oi := ⟨some 54, .move (.tmp 11), 3, "l13_pend.go:124", #[], none⟩) (v := ?_) rfl (by kernel_rfl) (by kernel_rfl) (by kernel_rfl) (fun _ _ _ h => h) (Or.inl ⟨by rfl, ?_⟩) (by assumption) ?_
 rotate_left
 ·
  intro w' hSw; (try dsimp only at hSw); first | (go_simp; done) | (go_simp; with_reducible rfl)
 (try simp only [Act.put, Row.pB0, Row.pB1, Row.pB2])
 refine wpAnyH_take (i := 4) (oi := ⟨some 55, .indexAddr 35 (.tmp 53) (.tmp 54), 0, "l13_pend.go:124", #[⟨2, .data⟩, ⟨3, .data⟩], none⟩) (v := ?_) rfl (by kernel_rfl) (by kernel_rfl) (by kernel_rfl) (fun _ _ _ h => h) (Or.inl ⟨by rfl, ?_⟩) (by assumption) ?_
 rotate_left
 ·
  intro w' hSw; (try dsimp only at hSw); first | (go_simp; done) | (go_simp; with_reducible rfl)
 (try simp only [Act.put, Row.pB0, Row.pB1, Row.pB2])
 refine wpAnyH_take (i := 5) (oi := ⟨some 56, .fieldAddr 101 (.tmp 55) 1, 0, "l13_pend.go:124", #[⟨4, .data⟩], none⟩) (v := ?_) rfl (by kernel_rfl) (by kernel_rfl) (by kernel_rfl) (fun _ _ _ h => h) (Or.inl ⟨by rfl, ?_⟩) (by assumption) ?_
 rotate_left
 ·
  intro w' hSw; (try dsimp only at hSw); first | (go_simp; done) | (go_simp; with_reducible rfl)
 (try simp only [Act.put, Row.pB0, Row.pB1, Row.pB2])
 refine wpAnyH_take (i := 7) (oi := ⟨some 58, .load 91 (.tmp 12), 91, "l13_pend.go:124", #[], none⟩) (v := ?_) rfl (by kernel_rfl) (by kernel_rfl) (by kernel_rfl) (fun _ _ _ h => h) (Or.inl ⟨by rfl, ?_⟩) (by assumption) ?_
 rotate_left
 ·
  intro w' hSw; (try dsimp only at hSw); first | (go_simp; done) | (go_simp; with_reducible rfl)
 (try simp only [Act.put, Row.pB0, Row.pB1, Row.pB2])
 refine wpAnyH_ready (rs := [6]) (by kernel_rfl) (by simp) ?_
 refine AllReadyH.cons (o := ⟨some 57, .load 68 (.tmp 56), 68, "l13_pend.go:124", #[⟨5, .data⟩], none⟩) rfl (fun K hK => ?_) AllReadyH.nil
 have k1 := kc K1.out BB.out
 go_simp
 clear hHeld
 refine hK.out _ _ ?_ (fun hHeld => ?_)
 ·
  (try dsimp only); exact ⟨kc Q0.out BB.out, kc Q1.out BB.out, kc Q2.out BB.out⟩
 clear hK K
 (try simp only [Act.put, Row.pB0, Row.pB1, Row.pB2])
 refine wpAnyH_ready (rs := [8]) (by kernel_rfl) (by simp) ?_
 refine AllReadyH.cons (o := ⟨some 59, .call ⟨.value (.func 96), #[.tmp 57, .tmp 58], #[68, 91]⟩, 68, "l13_pend.go:124", #[⟨6, .data⟩, ⟨7, .data⟩], none⟩) rfl (fun K hK => ?_) AllReadyH.nil
 go_simp
 refine (withR _ M2 a0 a1 a2 _ (HM.out.on BB.out) HLN.out).mono ?_
 rintro e wn2 ⟨v9, rfl, ho9, hb⟩
 obtain ⟨x4, n4, c4, rfl, -, -, ho9⟩ := ho9.shapeN
 have OQ := Lib.hid ((kLRq_own (E := wn2.heap.size) ho9 (Nat.le_refl _)).mono (B' := w.heap.size) BB.out.size (Nat.le_refl _))
 clear ho9
 replace BB := Lib.hid (BB.out.trans (hb.mono BB.out.size))
 clear hb
 (try go_wp2_with fail)
 clear hHeld
 refine hK.out _ _ ?_ (fun hHeld => ?_)
 ·
  (try dsimp only); exact ⟨kc Q0.out BB.out, kc Q1.out BB.out, kc Q2.out BB.out⟩
 clear hK K
 (try simp only [Act.put, Row.pB0, Row.pB1, Row.pB2])
 refine wpAnyH_take (i := 9) (oi := ⟨some 60, .indexAddr 35 (.tmp 51) (.tmp 52), 0, "l13_pend.go:124", #[⟨0, .data⟩, ⟨1, .data⟩, ⟨0, .phase⟩, ⟨1, .phase⟩, ⟨2, .phase⟩, ⟨3, .phase⟩, ⟨4, .phase⟩, ⟨5, .phase⟩, ⟨6, .phase⟩, ⟨7, .phase⟩, ⟨8, .phase⟩], none⟩) (v := ?_) rfl (by kernel_rfl) (by kernel_rfl) (by kernel_rfl) (fun _ _ _ h => h) (Or.inl ⟨by rfl, ?_⟩) (by assumption) ?_
 rotate_left
 ·
  intro w' hSw; (try dsimp only at hSw); first | (go_simp; done) | (go_simp; with_reducible rfl)
 (try simp only [Act.put, Row.pB0, Row.pB1, Row.pB2])
 refine wpAnyH_take (i := 10) (oi := ⟨some 61, .fieldAddr 101 (.tmp 60) 1, 0, "l13_pend.go:124", #[⟨9, .data⟩, ⟨0, .phase⟩, ⟨1, .phase⟩, ⟨2, .phase⟩, ⟨3, .phase⟩, ⟨4, .phase⟩, ⟨5, .phase⟩, ⟨6, .phase⟩, ⟨7, .phase⟩, ⟨8, .phase⟩], none⟩) (v := ?_) rfl (by kernel_rfl) (by kernel_rfl) (by kernel_rfl) (fun _ _ _ h => h) (Or.inl ⟨by rfl, ?_⟩) (by assumption) ?_
 rotate_left
 ·
  intro w' hSw; (try dsimp only at hSw); first | (go_simp; done) | (go_simp; with_reducible rfl)
 (try simp only [Act.put, Row.pB0, Row.pB1, Row.pB2])
 refine wpAnyH_ready (rs := [11]) (by kernel_rfl) (by simp) ?_
 refine AllReadyH.cons (o := ⟨none, .store 68 (.tmp 61) (.tmp 59), 0, "l13_pend.go:124", #[⟨10, .data⟩, ⟨8, .data⟩, ⟨8, .chain⟩, ⟨0, .phase⟩, ⟨1, .phase⟩, ⟨2, .phase⟩, ⟨3, .phase⟩, ⟨4, .phase⟩, ⟨5, .phase⟩, ⟨6, .phase⟩, ⟨7, .phase⟩, ⟨8, .phase⟩], none⟩) rfl (fun K hK => ?_) AllReadyH.nil
 have k1 := kc K1.out BB.out
 have t1 := (BB.out.frozen (Ret.cell_lt K1.out)).trans T1.out
 go_simp
 clear hHeld
 refine hK.out _ _ ?_ (fun hHeld => ?_)
 ·
  (try dsimp only); exact ⟨(Ret.grownBy_set _ ⟨g, k * 3 + 1, none⟩ _).cell (kc Q0.out BB.out) (fun e => hgq (by cases e; rfl)), (Ret.grownBy_set _ ⟨g, k * 3 + 1, none⟩ _).cell (kc Q1.out BB.out) (fun e => hgq (by cases e; rfl)), (Ret.grownBy_set _ ⟨g, k * 3 + 1, none⟩ _).cell (kc Q2.out BB.out) (fun e => hgq (by cases e; rfl))⟩
 clear hK K
 (try simp only [Act.put, Row.pB0, Row.pB1, Row.pB2])
 refine wpAnyH_done (by kernel_rfl) ?_ _
 exact NoPanic.normal (HQ.out _ _ _ _ _ _ _ _ _ _ _ x4 n4 c4 _ OQ BB.out)
set_option maxHeartbeats 32000000 in
theorem implAddRequester (V T : Value) (l : List Pit) (x : Wt) (f now : Int) (w : World) (h : kLPi.At w V l) (g : kW.At w T x) (hf : FitP l) (hm : bulk x.1 ≤ 1200000) :
    Calls Try.prog 39 #[V, T, .int .i64 f, .int .i64 now] w fun e w' => ∃ U, e = .returned (.tuple #[U, .bool (addOk l x f)]) ∧ kLPi.In w.heap.size w'.heap.size w' U (addP l x f now) ∧ Below w.heap.size w w' := by
  obtain ⟨xl, n, c, rfl, h⟩ := kLPi_shapeA h
  have hln : n = l.length := kLPi_len h
  obtain ⟨xn, nn, cn, rfl, g⟩ := kW_shapeA g
  obtain ⟨nm, kk, hp, lf⟩ := x
  simp only at g hm ⊢
  have hal := (Below.refl w.heap.size w).alloc (Nat.le_refl _) (.cells #[.slice xn nn cn, .int .i64 kk, .int .i64 hp, .int .i64 lf] 33)
  have HX := Lib.hid (Ret.Blk.new w #[.slice xn nn cn, .int .i64 kk, .int .i64 hp, .int .i64 lf] 33)
  have HH := Lib.hid (h.on hal); have HG := Lib.hid ((kW_kN g).on hal); have HW := Lib.hid (g.on hal); have HB := Lib.hid hal; have HF := Lib.hid hf
  have hs0 : (w.alloc (.cells #[.slice xn nn cn, .int .i64 kk, .int .i64 hp, .int .i64 lf] 33)).heap.size = w.heap.size + 1 := by simp
  have HZ9 := Lib.hid (Nat.le_of_eq hs0.symm)
  obtain ⟨z, hz⟩ : ∃ z, ixL (isP nm) l = z := ⟨_, rfl⟩
  obtain ⟨v1, hv1⟩ : ∃ v, validW (nm, kk, hp, lf) = v := ⟨_, rfl⟩
  obtain ⟨v2, hv2⟩ : ∃ v, Num.inB f 0 6 = v := ⟨_, rfl⟩
  have HZ := Lib.hid hz; have HV1 := Lib.hid hv1; have HV2 := Lib.hid hv2
  have HL := Lib.hid hln
  have HOKE := Lib.hid (show addOk l (nm, kk, hp, lf) f = (v1 && v2 && (decide (0 ≤ z) || decide ((n : Int) < 12))) from by unfold addOk; rw [hv1, hv2, hz, hln])
  clear h g hal hf hz hv1 hv2 hln
  go_enter Try.func39, Try.ntmps39
  go_wp2_with fail
  refine (iCopyP _ l _ HH.out HF.out).mono ?_
  rintro e w1 ⟨U, rfl, hi, hb1⟩
  obtain ⟨⟨xu, nu, cu, Lu⟩, rfl, hs, hi⟩ := hi.split
  replace hs : Lu.map kPi.strip = l := hs
  rw [show kLPi.val (⟨xu, nu, cu, Lu⟩ : Rw Pim) = .slice xu nu cu from rfl]
  rw [hs0] at hi
  have HO := Lib.hid hi; have HS := Lib.hid hs
  have HLA : Hid (kLPi.At w1 (.slice xu nu cu) l) := Lib.hid ⟨⟨xu, nu, cu, Lu⟩, rfl, hs, hi.holds⟩
  have HNU := Lib.hid (show nu = Lu.length from hi.1.1.holds.lenEq)
  replace HX := Lib.hid (HX.out.on hb1); replace HH := Lib.hid (HH.out.on hb1); replace HG := Lib.hid (HG.out.on hb1); replace HW := Lib.hid (HW.out.on hb1); replace HB := Lib.hid (HB.out.trans (hb1.mono HB.out.size)); replace HZ9 := Lib.hid (Nat.le_trans HZ9.out hb1.size)
  clear hi hs hb1 hs0
  clear HH
  cases v1 with
  | false =>
    have q0 := HX.out.cell 0; have q1 := HX.out.cell 1; have q2 := HX.out.cell 2; have q3 := HX.out.cell 3
    go_wp2_with fail
    refine (iValW _ HV1.out HW.out (show bulk nm ≤ 9000000 by omega)).mono ?_
    rintro e w3 ⟨rfl, hb3⟩
    clear q0 q1 q2 q3
    replace HO := Lib.hid (HO.out.upto hb3); replace HX := Lib.hid (HX.out.on hb3); replace HG := Lib.hid (HG.out.on hb3); replace HLA := Lib.hid (HLA.out.on hb3); replace HB := Lib.hid (HB.out.trans (hb3.mono HB.out.size)); replace HZ9 := Lib.hid (Nat.le_trans HZ9.out hb3.size)
    clear hb3 HW
    have HOK : Hid (addOk l (nm, kk, hp, lf) f = false) := Lib.hid (by rw [HOKE.out]; rfl)
    have HR : Hid (Lu.map kPi.strip = addP l (nm, kk, hp, lf) f now) := Lib.hid (by rw [HS.out]; unfold addP; rw [if_neg (by rw [HOK.out]; simp)])
    have HRB : Hid (addOk l (nm, kk, hp, lf) f = false) := HOK
    go_wp2
    go_ret2
    rw [HRB.out]
    exact ⟨_, rfl, HR.out ▸ (show kLPi.In w.heap.size _ _ (.slice xu nu cu) (Lu.map kPi.strip) from (HO.out.mono (Nat.le_succ _) (Nat.le_refl _)).in), HB.out⟩
  | true =>
    cases v2 with
    | false =>
      have q0 := HX.out.cell 0; have q1 := HX.out.cell 1; have q2 := HX.out.cell 2; have q3 := HX.out.cell 3
      go_wp2_with fail
      refine (iValW _ HV1.out HW.out (show bulk nm ≤ 9000000 by omega)).mono ?_
      rintro e w3 ⟨rfl, hb3⟩
      clear q0 q1 q2 q3
      replace HO := Lib.hid (HO.out.upto hb3); replace HX := Lib.hid (HX.out.on hb3); replace HG := Lib.hid (HG.out.on hb3); replace HLA := Lib.hid (HLA.out.on hb3); replace HB := Lib.hid (HB.out.trans (hb3.mono HB.out.size)); replace HZ9 := Lib.hid (Nat.le_trans HZ9.out hb3.size)
      clear hb3 HW
      go_wp2_with fail
      refine (iInP _ HV2.out).mono ?_
      rintro e w8 ⟨rfl, hb4⟩
      replace HO := Lib.hid (HO.out.upto hb4); replace HX := Lib.hid (HX.out.on hb4); replace HG := Lib.hid (HG.out.on hb4); replace HLA := Lib.hid (HLA.out.on hb4); replace HB := Lib.hid (HB.out.trans (hb4.mono HB.out.size)); replace HZ9 := Lib.hid (Nat.le_trans HZ9.out hb4.size)
      clear hb4
      have HOK : Hid (addOk l (nm, kk, hp, lf) f = false) := Lib.hid (by rw [HOKE.out]; rfl)
      have HR : Hid (Lu.map kPi.strip = addP l (nm, kk, hp, lf) f now) := Lib.hid (by rw [HS.out]; unfold addP; rw [if_neg (by rw [HOK.out]; simp)])
      have HRB : Hid (addOk l (nm, kk, hp, lf) f = false) := HOK
      go_wp2
      go_ret2
      rw [HRB.out]
      exact ⟨_, rfl, HR.out ▸ (show kLPi.In w.heap.size _ _ (.slice xu nu cu) (Lu.map kPi.strip) from (HO.out.mono (Nat.le_succ _) (Nat.le_refl _)).in), HB.out⟩
    | true =>
      have q0 := HX.out.cell 0; have q1 := HX.out.cell 1; have q2 := HX.out.cell 2; have q3 := HX.out.cell 3
      go_wp2_with fail
      refine (iValW _ HV1.out HW.out (show bulk nm ≤ 9000000 by omega)).mono ?_
      rintro e w3 ⟨rfl, hb3⟩
      clear q0 q1 q2 q3
      replace HO := Lib.hid (HO.out.upto hb3); replace HX := Lib.hid (HX.out.on hb3); replace HG := Lib.hid (HG.out.on hb3); replace HLA := Lib.hid (HLA.out.on hb3); replace HB := Lib.hid (HB.out.trans (hb3.mono HB.out.size)); replace HZ9 := Lib.hid (Nat.le_trans HZ9.out hb3.size)
      clear hb3 HW
      go_wp2_with fail
      refine (iInP _ HV2.out).mono ?_
      rintro e w8 ⟨rfl, hb4⟩
      replace HO := Lib.hid (HO.out.upto hb4); replace HX := Lib.hid (HX.out.on hb4); replace HG := Lib.hid (HG.out.on hb4); replace HLA := Lib.hid (HLA.out.on hb4); replace HB := Lib.hid (HB.out.trans (hb4.mono HB.out.size)); replace HZ9 := Lib.hid (Nat.le_trans HZ9.out hb4.size)
      clear hb4
      have q0 := HX.out.cell 0
      go_wp2_with fail
      refine (pIndex _ _ l nm _ z HZ.out HLA.out HG.out HF.out.len9 HF.out.each hm).mono ?_
      rintro e w4 ⟨rfl, hb9⟩
      replace HO := Lib.hid (HO.out.upto hb9); replace HX := Lib.hid (HX.out.on hb9); replace HG := Lib.hid (HG.out.on hb9); replace HB := Lib.hid (HB.out.trans (hb9.mono HB.out.size)); replace HZ9 := Lib.hid (Nat.le_trans HZ9.out hb9.size)
      clear hb9 q0 HLA
      rcases ixL_cases (isP nm) l with ⟨e1, -⟩ | ⟨k, hk, e1, -, -⟩
      · obtain rfl : z = -1 := by rw [← HZ.out]; exact e1
        clear e1
        have hnn : nu = n := by rw [HNU.out, HL.out, ← HS.out, List.length_map]
        have HNN := Lib.hid hnn
        clear hnn
        by_cases h12 : 12 ≤ nu
        · have HOK : Hid (addOk l (nm, kk, hp, lf) f = false) := Lib.hid (by rw [HOKE.out]; have := HNN.out; simp; omega)
          have HR : Hid (Lu.map kPi.strip = addP l (nm, kk, hp, lf) f now) := Lib.hid (by rw [HS.out]; unfold addP; rw [if_neg (by rw [HOK.out]; simp)])
          have HRB : Hid (addOk l (nm, kk, hp, lf) f = false) := HOK
          go_wp2
          go_ret2
          rw [HRB.out]
          exact ⟨_, rfl, HR.out ▸ (show kLPi.In w.heap.size _ _ (.slice xu nu cu) (Lu.map kPi.strip) from (HO.out.mono (Nat.le_succ _) (Nat.le_refl _)).in), HB.out⟩
        · have HOK : Hid (addOk l (nm, kk, hp, lf) f = true) := Lib.hid (by rw [HOKE.out]; have := HNN.out; simp; omega)
          have t12 : ((12 : Int) ≤ (nu : Int)) = False := eq_false (by omega)
          have HLU := Lib.hid (show Lu.length ≤ 1100000 by have h5 := HF.out.len; rw [← HS.out, List.length_map] at h5; exact h5)
          have q0 := HX.out.cell 0
          go_wp2_with fail
          refine (iCpyN HG.out (show bulk nm ≤ 9000000 by omega)).mono ?_
          rintro e w6 ⟨U5, rfl, hi5, hb5⟩
          obtain ⟨m5, za, nz, ea, rfl, hs5, hd5, ho5⟩ := kN_splitP hi5
          have b7 := (Below.refl w6.heap.size w6).alloc (Nat.le_refl _) (.cells #[.slice za nz ea, .slice none 0 0, .int .i64 0] 101)
          have HQ1 : kLRq.Own w4.heap.size w6.heap.size w6 ⟨none, 0, 0, []⟩ := kLRq_own (OwnK.nil 91 kRq.cells 3 w4.heap.size w6) (Nat.le_refl _)
          have HMM := Lib.hid ((pi_join (u := 0) ho5 HQ1 (fun g h1 h2 => absurd (show g ∈ ([] : List Nat) from h2) (by simp)) w6.heap.size ho5.top HQ1.top).on b7)
          have HSO := Lib.hid (one_k (k := kPi) szPi_cells (e := 101) (W := w6) (m := ((m5, ⟨none, 0, 0, []⟩, 0) : Pim)) (cs := [.slice za nz ea, .slice none 0 0, .int .i64 0]) (by show kN.cells m5 ++ ([.slice none 0 0] ++ kInt.cells 0) = _; rw [hd5]; rfl))
          have b47 := hb5.trans (b7.mono hb5.size)
          have HO9 := Lib.hid (HO.out.on b47); have HB9 := Lib.hid (HB.out.trans (b47.mono HB.out.size)); have HX9 := Lib.hid (HX.out.on b47)
          have HZB := Lib.hid (show w.heap.size + 1 ≤ (w6.alloc (.cells #[.slice za nz ea, .slice none 0 0, .int .i64 0] 101)).heap.size from Nat.le_trans HZ9.out b47.size)
          have HS5 := Lib.hid hs5
          clear b7 b47 hi5 hb5 hs5 hd5 ho5 HQ1 HO HX HG HB q0
          go_wp2_with (at_builtin; refine wpList_appK kindPi (B := w.heap.size + 1) (l := Lu) (m := [((m5, ⟨none, 0, 0, []⟩, 0) : Pim)]) rfl _ _ rfl Try.underlying35 rfl rfl HO9.out.1.1 HSO.out (by have h5 := HLU.out; simp; omega) (by have h5 := HLU.out; unfold maxLen; simp; omega) HZB.out ?_)
          intro v10 w10 ho10 hg10
          obtain ⟨x10, n10, c10, rfl, hn10, hc10, ho10⟩ := ho10.shapeN
          have HO10 := Lib.hid (Kd.push_later noRow_kPi (r := ⟨xu, nu, cu, Lu⟩) HO9.out HMM.out HZ9.out ho10 hg10)
          have HB10 := Lib.hid (HB9.out.grown hg10 HB9.out.size (fun g hg => by have := (HO9.out.1.1.lt g hg).1; omega))
          have HX10 := Lib.hid (HX9.out.grown hg10 (fun e5 => by have := (HO9.out.1.1.lt _ (Eq.symm e5)).1; omega))
          have HZ10 := Lib.hid (show w.heap.size + 1 ≤ w10.heap.size from Nat.le_trans HZB.out hg10.size)
          have hln : (Lu ++ [((m5, ⟨none, 0, 0, []⟩, 0) : Pim)]).length = nu + 1 := by rw [List.length_append, ← HNU.out]; rfl
          have hn1 : n10 = nu + 1 := by rw [hn10, hln]
          subst hn1
          have hkL : nu < (Lu ++ [((m5, ⟨none, 0, 0, []⟩, 0) : Pim)]).length := by omega
          have hnth : nth (Lu ++ [((m5, ⟨none, 0, 0, []⟩, 0) : Pim)]) nu = ((m5, ⟨none, 0, 0, []⟩, 0) : Pim) := by rw [HNU.out]; simp [nth]
          obtain ⟨gR, rfl, hnl, hnc, hg1, hg2⟩ := row_form HO10.out hkL
          have hgq : gR ≠ w10.heap.size := by omega
          clear ho10 hg10 HO9 HMM HSO HB9 HX9
          obtain ⟨ex, hex⟩ : ∃ ex, wrap64 (now + lf) = ex := ⟨_, rfl⟩
          have HAS := Lib.hid (show askR (nm, kk, hp, lf) f now = (f, kk, ex) from by rw [← hex]; unfold askR; exact Prod.ext rfl (Prod.ext rfl (show IntKind.i64.wrap (now + lf) = wrap64 (now + lf) from by unfold wrap64; exact IntKind.wrap_i64 (now + lf))))
          have q1 : w10.cell? ⟨w.heap.size, 1, none⟩ = some (.int .i64 kk) := HX10.out.cell 1
          have q3 : w10.cell? ⟨w.heap.size, 3, none⟩ = some (.int .i64 lf) := HX10.out.cell 3
          have halr := (Below.refl w10.heap.size w10).alloc (Nat.le_refl _) (.cells #[.int .i64 f, .int .i64 kk, .int .i64 ex] 91)
          have HRQ := Lib.hid (Ret.Blk.new w10 #[.int .i64 f, .int .i64 kk, .int .i64 ex] 91)
          have HO11 := Lib.hid (HO10.out.upto halr); have HB11 := Lib.hid (HB10.out.trans (halr.mono HB10.out.size)); have HZ11 := Lib.hid (Nat.le_trans HZ10.out halr.size)
          clear halr
          have C1 : Hid ((w10.alloc (.cells #[.int .i64 f, .int .i64 kk, .int .i64 ex] 91)).cell? ⟨gR, nu * 3 + 1, none⟩ = some (.slice none 0 0)) := Lib.hid (by
            have h5 := (ownK_cell szPi_cells HO11.out.1.1 hnl hkL (i := 1) (by decide)).1
            rw [hnth] at h5
            have h6 : (kPi.cells ((m5, ⟨none, 0, 0, []⟩, 0) : Pim))[1]? = some (.slice none 0 0) := by show ((kN.cells m5) ++ ([.slice none 0 0] ++ kInt.cells 0))[1]? = _; rfl
            exact h5.trans h6)
          have T1 := Lib.hid (show (w10.alloc (.cells #[.int .i64 f, .int .i64 kk, .int .i64 ex] 91)).frozen? ⟨gR, nu * 3 + 1, none⟩ = false from (ownK_cell szPi_cells HO11.out.1.1 hnl hkL (i := 1) (by decide)).2)
          have HHM := Lib.hid (show HoldsK kRq.cells 3 (w10.alloc (.cells #[.int .i64 f, .int .i64 kk, .int .i64 ex] 91)) (.slice none 0 0) ([] : List Rqm) from HoldsK.nil _ _ _)
          have HM2 := Lib.hid (show ([] : List Rqm).length ≤ 1200000 by simp)
          have HST := Lib.hid (show ∀ x4 n4 c4, ((Lu ++ [((m5, ⟨none, 0, 0, []⟩, 0) : Pim)]).set nu ((nth (Lu ++ [((m5, ⟨none, 0, 0, []⟩, 0) : Pim)]) nu).1, ⟨x4, n4, c4, putR [] (f, kk, ex)⟩, (nth (Lu ++ [((m5, ⟨none, 0, 0, []⟩, 0) : Pim)]) nu).2.2)).map kPi.strip = addP l (nm, kk, hp, lf) f now from fun x4 n4 c4 => by
            rw [hnth]
            have h5 : (Lu ++ [((m5, ⟨none, 0, 0, []⟩, 0) : Pim)]).set nu (m5, ⟨x4, n4, c4, putR [] (f, kk, ex)⟩, 0) = Lu ++ [((m5, ⟨x4, n4, c4, putR [] (f, kk, ex)⟩, 0) : Pim)] := by rw [List.set_append_right _ _ (by rw [HNU.out]; exact Nat.le_refl _), HNU.out, Nat.sub_self]; rfl
            rw [h5, List.map_append, HS.out]
            unfold addP
            rw [if_pos HOK.out]
            show _ = (if 0 ≤ ixL (isP nm) l then _ else _)
            rw [HZ.out, if_neg (by omega), HAS.out, ← HS5.out]
            rfl)
          have HNL := Lib.hid hnl; have HKL := Lib.hid hkL; have HG1 := Lib.hid hg1
          have hkn : nu < nu + 1 := by omega
          have hkc : nu ≤ c10 := by omega
          have hn9 : nu ≤ 1100000 := by have h5 := HLU.out; rw [← HNU.out] at h5; exact h5
          clear hnl hkL hg1 hg2 hnth hln hn10
          go_wp2_with fail
          refine rai (a0 := f) (a1 := kk) (a2 := ex) hkn hkc hgq HHM HM2 C1 T1 (Lib.hid (HRQ.out.cell 0)) (Lib.hid (HRQ.out.cell 1)) (Lib.hid (HRQ.out.cell 2)) ?_
          intro u51 u52 u53 u54 u55 u56 u57 u58 u59 u60 u61 x4 n4 c4 wx oq hbx
          have hoW := HO11.out.on hbx
          have HO4 := Lib.hid (show kLPi.Own (w.heap.size + 1) (wx.setCell ⟨gR, nu * 3 + 1, none⟩ (.slice x4 n4 c4)).heap.size (wx.setCell ⟨gR, nu * 3 + 1, none⟩ (.slice x4 n4 c4)) ⟨some ⟨gR, 0, none⟩, nu + 1, c10, (Lu ++ [((m5, ⟨none, 0, 0, []⟩, 0) : Pim)]).set nu ((nth (Lu ++ [((m5, ⟨none, 0, 0, []⟩, 0) : Pim)]) nu).1, ⟨x4, n4, c4, putR [] (f, kk, ex)⟩, (nth (Lu ++ [((m5, ⟨none, 0, 0, []⟩, 0) : Pim)]) nu).2.2)⟩ from by rw [World.size_setCell]; exact put_rq (v := .slice x4 n4 c4) hoW HNL.out HKL.out oq.out hbx.size HZ11.out rfl)
          have HB4 := Lib.hid ((HB11.out.trans (hbx.mono HB11.out.size)).setCell (p := ⟨gR, nu * 3 + 1, none⟩) (by show w.heap.size ≤ gR; have := HG1.out; omega) (.slice x4 n4 c4))
          have HRB := HOK
          clear hoW hbx oq HO10 HO11 HX10 HRQ
          go_wp2
          go_ret2
          rw [HRB.out]
          exact ⟨_, rfl, HST.out x4 n4 c4 ▸ (show kLPi.In w.heap.size _ _ (.slice (some ⟨gR, 0, none⟩) (nu + 1) c10) (((Lu ++ [((m5, ⟨none, 0, 0, []⟩, 0) : Pim)]).set nu ((nth (Lu ++ [((m5, ⟨none, 0, 0, []⟩, 0) : Pim)]) nu).1, ⟨x4, n4, c4, putR [] (f, kk, ex)⟩, (nth (Lu ++ [((m5, ⟨none, 0, 0, []⟩, 0) : Pim)]) nu).2.2)).map kPi.strip) from ((HO4.out.mono (Nat.le_succ _) (Nat.le_refl _)).in)), HB4.out⟩
      · obtain rfl : z = (k : Int) := by rw [← HZ.out]; exact e1
        have HOK : Hid (addOk l (nm, kk, hp, lf) f = true) := Lib.hid (by rw [HOKE.out]; simp)
        obtain ⟨ex, hex⟩ : ∃ ex, wrap64 (now + lf) = ex := ⟨_, rfl⟩
        have HAS := Lib.hid (show askR (nm, kk, hp, lf) f now = (f, kk, ex) from by rw [← hex]; unfold askR; exact Prod.ext rfl (Prod.ext rfl (show IntKind.i64.wrap (now + lf) = wrap64 (now + lf) from by unfold wrap64; exact IntKind.wrap_i64 (now + lf))))
        have q1 : w4.cell? ⟨w.heap.size, 1, none⟩ = some (.int .i64 kk) := HX.out.cell 1
        have q3 : w4.cell? ⟨w.heap.size, 3, none⟩ = some (.int .i64 lf) := HX.out.cell 3
        have halr := (Below.refl w4.heap.size w4).alloc (Nat.le_refl _) (.cells #[.int .i64 f, .int .i64 kk, .int .i64 ex] 91)
        have HRQ := Lib.hid (Ret.Blk.new w4 #[.int .i64 f, .int .i64 kk, .int .i64 ex] 91)
        have HZ4 := HZ9; have HOB := Lib.hid HO.out
        replace HO := Lib.hid (HO.out.upto halr); replace HX := Lib.hid (HX.out.on halr); replace HG := Lib.hid (HG.out.on halr); replace HB := Lib.hid (HB.out.trans (halr.mono HB.out.size)); replace HZ9 := Lib.hid (Nat.le_trans HZ9.out halr.size)
        clear halr
        have hkL : k < Lu.length := by rw [← HS.out, List.length_map] at hk; exact hk
        obtain ⟨gR, rfl, hnl, hnc, hg1, hg2⟩ := row_form HO.out hkL
        have hel := Kd.Own.elem HO.out hkL
        obtain ⟨⟨m1, m2, ls⟩, hmm⟩ : ∃ mm, nth Lu k = mm := ⟨_, rfl⟩
        rw [hmm] at hel
        obtain ⟨hN, hQR, -⟩ := Kd.Own.parts (k := kN) (l := kLRq.pair kInt) hel
        obtain ⟨hQ, -, -⟩ := Kd.Own.parts (k := kLRq) (l := kInt) hQR
        obtain ⟨y0, m0, d0, y1, n1, d1, e9, -⟩ := kPi_shapeA (Kd.at_of (k := kPi) hel.holds)
        have hce : kPi.cells ((m1, m2, ls) : Pim) = [.slice y0 m0 d0, .slice y1 n1 d1, .int .i64 ls] := by injection e9 with e; exact congrArg Array.toList e
        have hq1 : kLRq.val m2 = .slice y1 n1 d1 := Option.some.inj (congrArg (fun L => L[1]?) hce)
        obtain ⟨x2, n2, c2, M2⟩ := m2
        have hq2 : Value.slice x2 n2 c2 = .slice y1 n1 d1 := hq1
        injection hq2 with e1' e2' e3'
        subst e1'; subst e2'; subst e3'
        have C1 : Hid ((w4.alloc (.cells #[.int .i64 f, .int .i64 kk, .int .i64 ex] 91)).cell? ⟨gR, k * 3 + 1, none⟩ = some (.slice x2 n2 c2)) := Lib.hid (by
          have h5 := (ownK_cell szPi_cells HO.out.1.1 hnl hkL (i := 1) (by decide)).1
          rw [hmm, hce] at h5
          exact h5)
        have hsk : (kN.strip m1, M2, ls) = nth l k := by
          rw [← HS.out, nth_map _ hkL, hmm]
          show _ = (kN.strip m1, M2.map kRq.strip, ls)
          rw [rq_map]
        have HM2 := Lib.hid (show M2.length ≤ 1200000 from by
          have h5 := (wtPi_lens (HF.out.each (nth l k) (nth_mem hk))).2
          rw [← hsk] at h5
          exact h5)
        have HHM := Lib.hid (show HoldsK kRq.cells 3 (w4.alloc (.cells #[.int .i64 f, .int .i64 kk, .int .i64 ex] 91)) (.slice x2 n2 c2) M2 from hQ.1.1.holds)
        have HAP := Lib.hid (show addP l (nm, kk, hp, lf) f now = l.set k ((nth l k).1, putR (nth l k).2.1 (f, kk, ex), (nth l k).2.2) from by
          unfold addP
          rw [if_pos HOK.out]
          show (if 0 ≤ ixL (isP nm) l then _ else _) = _
          rw [HZ.out, if_pos (by omega), HAS.out]
          rfl)
        have HST := Lib.hid (show ∀ x4 n4 c4, (Lu.set k ((nth Lu k).1, ⟨x4, n4, c4, putR M2 (f, kk, ex)⟩, (nth Lu k).2.2)).map kPi.strip = addP l (nm, kk, hp, lf) f now from fun x4 n4 c4 => by
          rw [HAP.out, ← hsk, List.map_set, HS.out, hmm]
          congr 1
          show (kN.strip m1, (putR M2 (f, kk, ex)).map kRq.strip, ls) = _
          rw [rq_map])
        have HNL := Lib.hid hnl; have HKL := Lib.hid hkL; have HG1 := Lib.hid hg1; have HG2 := Lib.hid hg2
        have hkn : k < nu := by omega
        have hkc : k ≤ cu := by omega
        have hn9 : nu ≤ 1100000 := by have h5 := HF.out.len; rw [← HS.out, List.length_map] at h5; omega
        clear hel hN hQR hQ e9 hce hq1 hmm hsk hnl hkL hk hg1 hg2
        have T1 := Lib.hid (show (w4.alloc (.cells #[.int .i64 f, .int .i64 kk, .int .i64 ex] 91)).frozen? ⟨gR, k * 3 + 1, none⟩ = false from (ownK_cell szPi_cells HO.out.1.1 HNL.out HKL.out (i := 1) (by decide)).2)
        have hgq : gR ≠ w4.heap.size := fun e => by have h5 := (HOB.out.lt gR (List.mem_append_left _ (by simp [Value.ownBlock, Rw.v]))).2.1; omega
        go_wp2_with fail
        refine rai (a0 := f) (a1 := kk) (a2 := ex) hkn hkc hgq HHM HM2 C1 T1 (Lib.hid (HRQ.out.cell 0)) (Lib.hid (HRQ.out.cell 1)) (Lib.hid (HRQ.out.cell 2)) ?_
        intro u51 u52 u53 u54 u55 u56 u57 u58 u59 u60 u61 x4 n4 c4 wx oq hbx
        have hoW := HO.out.on hbx
        have HO4 := Lib.hid (show kLPi.Own (w.heap.size + 1) (wx.setCell ⟨gR, k * 3 + 1, none⟩ (.slice x4 n4 c4)).heap.size (wx.setCell ⟨gR, k * 3 + 1, none⟩ (.slice x4 n4 c4)) ⟨some ⟨gR, 0, none⟩, nu, cu, Lu.set k ((nth Lu k).1, ⟨x4, n4, c4, putR M2 (f, kk, ex)⟩, (nth Lu k).2.2)⟩ from by rw [World.size_setCell]; exact put_rq (v := .slice x4 n4 c4) hoW HNL.out HKL.out oq.out hbx.size HZ9.out rfl)
        have HB4 := Lib.hid ((HB.out.trans (hbx.mono HB.out.size)).setCell (p := ⟨gR, k * 3 + 1, none⟩) (by show w.heap.size ≤ gR; have := HG1.out; omega) (.slice x4 n4 c4))
        have HRB := HOK
        clear hoW hbx oq HO HX HG HRQ
        go_wp2
        go_ret2
        rw [HRB.out]
        exact ⟨_, rfl, HST.out x4 n4 c4 ▸ (show kLPi.In w.heap.size _ _ (.slice (some ⟨gR, 0, none⟩) nu cu) ((Lu.set k ((nth Lu k).1, ⟨x4, n4, c4, putR M2 (f, kk, ex)⟩, (nth Lu k).2.2)).map kPi.strip) from ((HO4.out.mono (Nat.le_succ _) (Nat.le_refl _)).in)), HB4.out⟩
end Go.Proofs.Ytjphnlkdbhcblaa.Row
/- A slice of numbers that came in as an argument: it holds a list, its numbers fit their kind, its length is within the reach. No conditions. -/
namespace Go.Proofs.Ytjphnlkdbhcblaa.Sl
open Go.ChangeShapes Go.WideShapes Go.ChangeAt Go.RowKit
end Go.Proofs.Ytjphnlkdbhcblaa.Sl
