/- Contracts and mathematics, joined: PendingInterestSM, SeenNonceSM, NameK, NameSK, NameSM, NameSW, PendZ, Open, RowK, PendC0, PendC1, PendC2, PendM, PendQ0, PendQ. No conditions but those that each states. -/
import Derived.Test.YtjphnlkdbhcblaaB3
import Derived.Test.YtjphnlkdbhcblaaB1
import Derived.Test.YtjphnlkdbhcblaaB2
import Derived.WalkKit
import Derived.Deep.RegionHeld3
import Derived.Deep.RegionLaw
import Derived.SizedLaws
import Derived.ChangeSlices
import Derived.Lib.SmallJoins
import Derived.Laws.StructEq
/- Lists of PendingInterest: marked and looked at. No conditions but that lengths fit. -/
namespace Go.Proofs.Ytjphnlkdbhcblaa.Row
open Go.ChangeShapes Go.WideShapes Go.ChangeAt Go.RowKit Go.Instr
set_option linter.unusedVariables false
set_option maxRecDepth 100000
def mvPi (z : Pit) : Nat := z.1.length + advK mvRq z.2.1 + 1
def mePi (q : Int) (z : Pit) : Pit := (marks markT (q) z.1.length, mkLK mvRq meRq (q + (z.1.length : Int)) z.2.1, q + (z.1.length : Int) + (advK mvRq z.2.1 : Int))
theorem mfPi0 (B E : Nat) (x : Pim) (w : World) (q : Int) (a : Nat) (ha : (kPi.strip x).1.length = a) (ho : kPi.Own B E w x) (hl : a ≤ 100000000) (h0 : 0 ≤ q) (h1 : q + (a : Int) ≤ 100000000000) :
    Calls Try.prog 97 #[x.1.v, .int .i64 q] w fun e w' => e = .returned (.int .i64 (q + (a : Int))) ∧ ∃ x', kPi.cells x' = kPi.cells x ∧ kPi.blocks x' = kPi.blocks x ∧ kPi.strip x' = (marks markT (q) (kPi.strip x).1.length, (kPi.strip x).2.1, (kPi.strip x).2.2) ∧ kPi.Own B E w' x' ∧ WroteBy (kPi.blocks x) w w' := by
  subst ha
  exact (markF_N.fst _) B E x w q ho hl h0 h1
theorem mfPi1 (B E : Nat) (x : Pim) (w : World) (q : Int) (a : Nat) (ha : advK mvRq (kPi.strip x).2.1 = a) (ho : kPi.Own B E w x) (hl : a ≤ 100000000) (h0 : 0 ≤ q) (h1 : q + (a : Int) ≤ 100000000000) :
    Calls Try.prog 51 #[x.2.1.v, .int .i64 q] w fun e w' => e = .returned (.int .i64 (q + (a : Int))) ∧ ∃ x', kPi.cells x' = kPi.cells x ∧ kPi.blocks x' = kPi.blocks x ∧ kPi.strip x' = ((kPi.strip x).1, mkLK mvRq meRq (q) (kPi.strip x).2.1, (kPi.strip x).2.2) ∧ kPi.Own B E w' x' ∧ WroteBy (kPi.blocks x) w w' := by
  subst ha
  exact ((markF_LRq.fst _).snd _) B E x w q ho hl h0 h1
set_option maxHeartbeats 4000000 in
theorem markPendingInterestSK (B E : Nat) (m : Rw Pim) (w : World) (k : Int) (h : kLPi.Own B E w m) (hl : advK mvPi (kLPi.strip m) ≤ 100000000) (h0 : 0 ≤ k) (h1 : k + (advK mvPi (kLPi.strip m) : Int) ≤ 100000000000) :
    Calls Try.prog 40 #[kLPi.val m, .int .i64 k] w fun e w' => e = .returned (.int .i64 (k + (advK mvPi (kLPi.strip m) : Int))) ∧ ∃ m', kLPi.val m' = kLPi.val m ∧ kLPi.blocks m' = kLPi.blocks m ∧ kLPi.strip m' = mkLK mvPi mePi k (kLPi.strip m) ∧ kLPi.Own B E w' m' ∧ WroteBy (kLPi.blocks m) w w' := by
  obtain ⟨ad, n, cap, L⟩ := m
  replace h : (kPi.slice 101).Own B E w ⟨ad, n, cap, L⟩ := h
  replace hl : advK mvPi (L.map kPi.strip) ≤ 100000000 := hl
  replace h1 : k + (advK mvPi (L.map kPi.strip) : Int) ≤ 100000000000 := h1
  show Calls Try.prog 40 #[.slice ad n cap, .int .i64 k] w fun e w' => e = .returned (.int .i64 (k + (advK mvPi (L.map kPi.strip) : Int))) ∧ ∃ m' : Rw Pim, Rw.v m' = .slice ad n cap ∧ (kPi.slice 101).blocks m' = (kPi.slice 101).blocks ⟨ad, n, cap, L⟩ ∧ m'.els.map kPi.strip = mkLK mvPi mePi k (L.map kPi.strip) ∧ (kPi.slice 101).Own B E w' m' ∧ WroteBy ((kPi.slice 101).blocks ⟨ad, n, cap, L⟩) w w'
  rcases h.row.form with ⟨hv, hL⟩ | ⟨g, cap', hv, g1, g2, g3, g4⟩
  · cases hv
    subst hL
    have H := Lib.hid h; clear h
    go_enter Try.func40, Try.ntmps40
    go_wp2
    refine wp_loop_rounds 1 ?_
    rw [rounds_succ]
    go_wp2
    go_ret
    exact ⟨ret_int (by simp [advK]), ⟨⟨none, 0, 0, []⟩, rfl, rfl, rfl, H.out, WroteBy.refl _ _⟩⟩
  · cases hv
    have HROWLT := g2
    obtain ⟨n, hn⟩ : ∃ n, n = L.length := ⟨_, rfl⟩
    rw [← hn] at h g3 ⊢
    obtain ⟨l, hl9⟩ : ∃ l, L.map kPi.strip = l := ⟨_, rfl⟩
    rw [hl9] at hl h1 ⊢
    have hll : l.length = n := by rw [← hl9, List.length_map, hn]
    obtain ⟨bs, hbs⟩ : ∃ bs, (kPi.slice 101).blocks ⟨some ⟨g, 0, none⟩, n, cap, L⟩ = bs := ⟨_, rfl⟩
    have hgb : g ∈ bs := by rw [← hbs]; exact List.mem_append_left _ (by simp [Value.ownBlock, Rw.v])
    have heb : ∀ x ∈ L, ∀ q ∈ kPi.blocks x, q ∈ bs := fun x hx q hq => by rw [← hbs]; exact List.mem_append_right _ (List.mem_flatMap.2 ⟨x, hx, hq⟩)
    have hmaxl : n ≤ 140737488351232 ∨ True := Or.inr trivial
    have hn2 : n ≤ maxLen := by rw [hn]; exact h.row.len
    unfold maxLen at hn2
    rw [hbs]
    have HN := Lib.hid hn; have HT := Lib.hid hl9; have HLL := Lib.hid hll; have HBS := Lib.hid hbs; have HGB := Lib.hid hgb; have HEB := Lib.hid heb
    have HST := Lib.hid (fun j (hj : j < n) => advK_take mvPi (l := l) (j := j) (by rw [hll]; exact hj))
    have HLE := Lib.hid (fun j => advK_take_le mvPi l j)
    have HB : Hid ((kPi.slice 101).Own B E w ⟨some ⟨g, 0, none⟩, n, cap, [] ++ L.drop 0⟩) := Lib.hid (by simpa using h)
    clear hn h hl9 hll hbs hgb heb hmaxl
    go_enter Try.func40, Try.ntmps40
    go_wp2
    go_loopw [1, 5] (fun kv i wr => ∃ j : Nat, j ≤ n ∧ i = .int .i64 j ∧ ∃ p : Int, kv = .int .i64 p ∧ 0 ≤ p ∧ p ≤ 100000000000 ∧ Hid (p = k + (advK mvPi (l.take j) : Int)) ∧ ∃ M : List Pim, Hid (M.length = j) ∧ Hid (M.map kPi.strip = mkLK mvPi mePi k (l.take j)) ∧ Hid (M.map kPi.blocks = (L.take j).map kPi.blocks) ∧ Hid ((kPi.slice 101).Own B E wr ⟨some ⟨g, 0, none⟩, n, cap, M ++ L.drop j⟩) ∧ Hid (WroteBy bs w wr)) (fun _ i _ => n - (intOf i).toNat)
    case atStart => exact ⟨0, Nat.zero_le _, rfl, k, rfl, h0, by omega, Lib.hid (by simp [advK]), [], Lib.hid rfl, Lib.hid (by simp [mkLK]), Lib.hid rfl, HB, Lib.hid (WroteBy.refl _ _)⟩
    case round =>
      obtain ⟨j, hj, rfl, p, rfl, hp0, hp1, HP, M, HM1, HM2, HM3, HO, HW⟩ := hrel
      by_cases hlt : j < n
      · have hjL : j < L.length := by have := HN.out; omega
        obtain ⟨x0, hx0⟩ : ∃ x, nth L j = x := ⟨_, rfl⟩
        obtain ⟨Z, hZ⟩ : ∃ Z, M ++ L.drop j = Z := ⟨_, rfl⟩
        have hZl : n = Z.length := by rw [← hZ, List.length_append, HM1.out, List.length_drop]; have := HN.out; omega
        have hjZ : j < Z.length := by omega
        have hx9 : nth Z j = x0 := by rw [← hZ, nth_over HM1.out hjL, hx0]
        have ho := HO.out
        rw [hZ, ← set_nth9 hjZ, hx9] at ho
        have hst := HST.out j hlt
        rw [show nth l j = kPi.strip x0 by rw [← HT.out, nth_map _ hjL, hx0]] at hst
        have hle := HLE.out (j + 1)
        have hxb := HEB.out x0 (by rw [← hx0]; exact nth_mem hjL)
        obtain ⟨a0, ha0⟩ : ∃ a, (kPi.strip x0).1.length = a := ⟨_, rfl⟩
        obtain ⟨a1, ha1⟩ : ∃ a, advK mvRq (kPi.strip x0).2.1 = a := ⟨_, rfl⟩
        have hmv : mvPi (kPi.strip x0) = a0 + a1 + 1 := by unfold mvPi; rw [ha0, ha1]
        rw [hmv] at hst
        have hp := HP.out
        have ba0 : a0 ≤ 100000000 := by omega
        have ba1 : a1 ≤ 100000000 := by omega
        have btot : p + ((a0 + a1 + 1 : Nat) : Int) ≤ 100000000000 := by omega
        have HX0 := Lib.hid hx0; have HZ := Lib.hid hZ; have HZL := Lib.hid hZl; have HJZ := Lib.hid hjZ; have HO0 := Lib.hid ho; have HSTP := Lib.hid hst; have HXB := Lib.hid hxb; have HJL := Lib.hid hjL; have HMV := Lib.hid hmv
        have HA0_0 := Lib.hid ha0
        have HA1_0 := Lib.hid ha1
        have HW0 := HW
        clear hx0 hZ hZl hjZ hx9 ho hst hle hxb hp hjL hmv ha0 ha1
        have c : wr.cell? ⟨g, j * 3, none⟩ = some x0.1.v := (HO0.out.cell9 HZL.out HJZ.out (i := 0) (by decide)).1
        go_wp2_with fail
        clear c
        refine (mfPi0 B E x0 wr (p) a0 HA0_0.out (HO0.out.elem9 HJZ.out) ba0 (by omega) (by omega)).mono ?_
        rintro e w1 ⟨rfl, x1, hc, hb, hs, ho, hw⟩
        have HO1 := Lib.hid (HO0.out.part9 HJZ.out hc hb ho hw); have HB1 := Lib.hid hb; have HS1 := Lib.hid hs
        have HW1 := Lib.hid (HW0.out.trans (hw.more (fun q hq => HXB.out q hq)))
        have HA1_1 : Hid (advK mvRq (kPi.strip x1).2.1 = a1) := Lib.hid (by rw [hs]; exact HA1_0.out)
        clear hc hb hs ho hw
        have c : w1.cell? ⟨g, j * 3 + 1, none⟩ = some x1.2.1.v := (HO1.out.cell9 HZL.out HJZ.out (i := 1) (by decide)).1
        go_wp2_with fail
        clear c
        refine (mfPi1 B E x1 w1 (p + (a0 : Int)) a1 HA1_1.out (HO1.out.elem9 HJZ.out) ba1 (by omega) (by omega)).mono ?_
        rintro e w2 ⟨rfl, x2, hc, hb, hs, ho, hw⟩
        have HO2 := Lib.hid (HO1.out.part9 HJZ.out hc hb ho hw); have HB2 := Lib.hid (hb.trans HB1.out); have HS2 := Lib.hid hs
        have HW2 := Lib.hid (HW1.out.trans (hw.more (fun q hq => HXB.out q (by rw [HB1.out] at hq; exact hq))))
        clear hc hb hs ho hw
        have c2 : w2.cell? ⟨g, j * 3 + 2, none⟩ = some (.int .i64 x2.2.2) := (HO2.out.cell9 HZL.out HJZ.out (i := 2) (by decide)).1; have t2 : w2.frozen? ⟨g, j * 3 + 2, none⟩ = false := (HO2.out.cell9 HZL.out HJZ.out (i := 2) (by decide)).2
        have HOF : Hid ((kPi.slice 101).Own B E (w2.setCell ⟨g, j * 3 + 2, none⟩ (.int .i64 (p + (a0 : Int) + (a1 : Int)))) ⟨some ⟨g, 0, none⟩, n, cap, Z.set j (x2.1, x2.2.1, p + (a0 : Int) + (a1 : Int))⟩) := Lib.hid (Kd.Own.put9 (x' := ((x2.1, x2.2.1, p + (a0 : Int) + (a1 : Int)) : Pim)) HO2.out HZL.out HJZ.out (i := 2) (by decide) (u := .int .i64 (p + (a0 : Int) + (a1 : Int))) rfl rfl (fun h => h))
        have HWF : Hid (WroteBy bs w (w2.setCell ⟨g, j * 3 + 2, none⟩ (.int .i64 (p + (a0 : Int) + (a1 : Int))))) := Lib.hid (HW2.out.trans (WroteBy.of (Ret.grownBy_set w2 ⟨g, j * 3 + 2, none⟩ (.int .i64 (p + (a0 : Int) + (a1 : Int)))) (fun q hq => by cases hq; exact HGB.out)))
        have HSF : Hid (kPi.strip (x2.1, x2.2.1, p + (a0 : Int) + (a1 : Int)) = mePi p (kPi.strip x0)) := Lib.hid (by
          show ((kPi.strip x2).1, (kPi.strip x2).2.1, p + (a0 : Int) + (a1 : Int)) = _
          unfold mePi
          simp only [HS2.out, HS1.out, HA0_0.out, HA1_0.out])
        have HBF : Hid (kPi.blocks (x2.1, x2.2.1, p + (a0 : Int) + (a1 : Int)) = kPi.blocks x0) := Lib.hid (show _ = _ from HB2.out)
        clear HO0 HW0 HO1 HW1 HO2 HW2 HB1 HB2 HS1 HS2
        go_wp2_with fail
        go_roundw
        case rel =>
          refine ⟨j + 1, by omega, by go_num, p + (a0 : Int) + (a1 : Int) + 1, by go_num, by omega, by omega, Lib.hid ?_, M ++ [(x2.1, x2.2.1, p + (a0 : Int) + (a1 : Int))], Lib.hid ?_, Lib.hid ?_, Lib.hid ?_, Lib.hid ?_, HWF⟩
          · rw [HSTP.out, HP.out]; omega
          · simp [HM1.out]
          · rw [List.map_append, HM2.out, mkLK_take _ _ _ (by rw [HLL.out]; exact hlt), show nth l j = kPi.strip x0 by rw [← HT.out, nth_map _ HJL.out, HX0.out], ← HP.out, ← HSF.out]
            rfl
          · rw [List.map_append, HM3.out, List.take_succ_eq_append_getElem HJL.out, List.map_append, ← nth_eq HJL.out, HX0.out]
            simp only [List.map_cons, List.map_nil]
            rw [HBF.out]
          · have h9 := HOF.out
            rw [← HZ.out, set_over HM1.out HJL.out] at h9
            exact h9
        case measure => simp [intOf]; omega
      · obtain rfl : j = n := by omega
        clear hlt
        go_wp2
        go_ret
        have hn := HN.out
        have hp := HP.out
        have e1 : l.take j = l := List.take_of_length_le (by rw [HLL.out]; exact Nat.le_refl _)
        have e2 : L.take j = L := List.take_of_length_le (by omega)
        have e3 : L.drop j = [] := List.drop_eq_nil_of_le (by omega)
        have hh := HO.out
        have hm2 := HM2.out
        have hm3 := HM3.out
        rw [e1] at hp hm2
        rw [e2] at hm3
        rw [e3, List.append_nil] at hh
        refine ⟨ret_int hp, ⟨some ⟨g, 0, none⟩, j, cap, M⟩, rfl, ?_, hm2, hh, HW.out⟩
        rw [← HBS.out]
        show _ ++ M.flatMap kPi.blocks = _ ++ L.flatMap kPi.blocks
        rw [List.flatMap_def, List.flatMap_def, hm3]
        rfl
set_option maxHeartbeats 4000000 in
theorem heldPendingInterestSK (V : Value) (l : List Pit) (w : World) (k : Int) (h : kLPi.At w V (mkLK mvPi mePi k l)) (hl : advK mvPi l ≤ 100000000) (hlen : l.length ≤ 100000000) (h0 : 0 ≤ k) (h1 : k + (advK mvPi l : Int) ≤ 100000000000) :
    Calls Try.prog 42 #[V, .int .i64 k] w fun e w' => e = .returned (.int .i64 (k + (advK mvPi l : Int))) ∧ Below w.heap.size w w' := by
  obtain ⟨ad, n, cap, L, rfl, hn, hL, hh, hel⟩ := kLPi_at h
  have hll : l.length = n := by have := congrArg List.length hL; rw [List.length_map, mkLK_length] at this; omega
  rw [hll] at hlen
  have HN := Lib.hid hn; have HT := Lib.hid hL; have HH := Lib.hid hh; have HEL := Lib.hid hel; have HLL := Lib.hid hll
  have HST := Lib.hid (fun j (hj : j < n) => advK_take mvPi (l := l) (j := j) (by rw [hll]; exact hj))
  have HLE := Lib.hid (fun j => advK_take_le mvPi l j)
  clear h hn hL hh hel hll
  go_enter Try.func42, Try.ntmps42
  go_wp2
  go_loopw [1, 5] (fun kv i wr => ∃ j : Nat, j ≤ n ∧ i = .int .i64 j ∧ ∃ p : Int, kv = .int .i64 p ∧ 0 ≤ p ∧ p ≤ 100000000000 ∧ Hid (p = k + (advK mvPi (l.take j) : Int)) ∧ Hid (Below w.heap.size w wr)) (fun _ i _ => n - (intOf i).toNat)
  case atStart => exact ⟨0, Nat.zero_le _, rfl, k, rfl, h0, by omega, Lib.hid (by simp [advK]), Lib.hid (Below.refl _ _)⟩
  case round =>
    obtain ⟨j, hj, rfl, p, rfl, hp0, hp1, HP, hb⟩ := hrel
    by_cases hlt : j < n
    · have hn := HN.out
      obtain ⟨b, off, x0, n0, c0, x1, n1, c1, rfl, -, hc0, hc1, hc2, ha⟩ := kLPi_elem (HH.out.on hb.out) (fun y hy => kPi.holds_on (HEL.out y hy) hb.out) (j := j) (by omega)
      have hme : kPi.strip (nth L j) = mePi p (nth l j) := by rw [← nth_map kPi.strip (by omega), HT.out, mkLK_at _ _ _ (by rw [HLL.out]; exact hlt), ← HP.out]
      rw [hme] at ha hc2
      have hst := HST.out j hlt
      have hle := HLE.out (j + 1)
      obtain ⟨z, hz⟩ : ∃ z, nth l j = z := ⟨_, rfl⟩
      rw [hz] at ha hst hc2
      obtain ⟨y0, m0, d0, y1, m1, d1, e9, g0, g1⟩ := kPi_at ha
      cases e9
      obtain ⟨a0, ha0⟩ : ∃ a, z.1.length = a := ⟨_, rfl⟩
      obtain ⟨a1, ha1⟩ : ∃ a, advK mvRq z.2.1 = a := ⟨_, rfl⟩
      obtain ⟨v9, e9, h9_0⟩ := kN_at g0
      cases e9
      have h9_1 := g1; have HA1 := Lib.hid ha1
      have hmv : mvPi z = a0 + a1 + 1 := by unfold mvPi; rw [ha0, ha1]
      rw [hmv] at hst
      have hp := HP.out
      have G0 := Lib.hid (show Holds Value.string wr (.slice x0 n0 c0) (marks markT (p) a0) from by have h8 := h9_0; simp only [mePi, ha0, ha1] at h8; exact h8)
      have G1 := Lib.hid (show kLRq.At wr (.slice x1 n1 c1) (mkLK mvRq meRq (p + (a0 : Int)) z.2.1) from by have h8 := h9_1; simp only [mePi, ha0, ha1] at h8; exact h8)
      have HC2 := Lib.hid (show wr.cell? ⟨b, off + j * 3 + 2, none⟩ = some (.int .i64 (p + (a0 : Int) + (a1 : Int))) from by have h8 := hc2; simp only [mePi, ha0, ha1] at h8; exact h8)
      have HC0 := Lib.hid (show wr.cell? ⟨b, off + j * 3, none⟩ = some (.slice x0 n0 c0) from hc0)
      have HC1 := Lib.hid (show wr.cell? ⟨b, off + j * 3 + 1, none⟩ = some (.slice x1 n1 c1) from hc1)
      have ba0 : a0 ≤ 100000000 := by omega
      have ba1 : a1 ≤ 100000000 := by omega
      have btot : p + ((a0 + a1 + 1 : Nat) : Int) ≤ 100000000000 := by omega
      have HSTP := Lib.hid hst
      clear hn ha hme hst hle hmv hp hz hc0 hc1 hc2 ha0 ha1 h9_0 h9_1 g0 g1
      have c : wr.cell? ⟨b, off + j * 3, none⟩ = some (.slice x0 n0 c0) := HC0.out
      go_wp2_with fail
      clear c
      refine (heldStringS _ _ (p) a0 G0.out ba0 (by omega) (by omega)).mono ?_
      rintro e w1 ⟨rfl, hb1⟩
      replace HC1 := Lib.hid ((hb1.cell (Ret.cell_lt HC1.out)).trans HC1.out)
      replace HC2 := Lib.hid ((hb1.cell (Ret.cell_lt HC2.out)).trans HC2.out)
      replace G1 := Lib.hid (G1.out.on hb1)
      replace hb := Lib.hid (hb.out.trans (hb1.mono hb.out.size)); clear hb1
      have bq : ¬ p + (a0 : Int) < 0 := by omega
      have c : w1.cell? ⟨b, off + j * 3 + 1, none⟩ = some (.slice x1 n1 c1) := HC1.out
      go_wp2_with fail
      clear c bq
      refine (heldRequesterSA _ _ _ (p + (a0 : Int)) a1 HA1.out G1.out ba1 (by omega) (by omega)).mono ?_
      rintro e w2 ⟨rfl, hb1⟩
      replace HC2 := Lib.hid ((hb1.cell (Ret.cell_lt HC2.out)).trans HC2.out)
      replace hb := Lib.hid (hb.out.trans (hb1.mono hb.out.size)); clear hb1
      have bq : ¬ p + (a0 : Int) + (a1 : Int) < 0 := by omega
      have c29 : w2.cell? ⟨b, off + j * 3 + 2, none⟩ = some (.int .i64 (p + (a0 : Int) + (a1 : Int))) := HC2.out
      go_wp2_with fail
      go_roundw
      case rel => exact ⟨j + 1, by omega, by go_num, p + (a0 : Int) + (a1 : Int) + 1, by go_num, by omega, by omega, Lib.hid (by rw [HSTP.out, HP.out]; omega), hb⟩
      case measure => simp [intOf]; omega
    · obtain rfl : j = n := by omega
      clear hlt
      go_wp2
      go_ret
      have hp := HP.out
      rw [show l.take j = l from List.take_of_length_le (by rw [HLL.out]; exact Nat.le_refl _)] at hp
      exact ⟨ret_int hp, hb.out⟩
theorem markF_LPi : MarkF Try.prog kLPi 40 (fun m => m.v) (fun l => advK mvPi l) (fun q l => mkLK mvPi mePi q l) := by
  intro B E m w k h hl h0 h1
  refine (markPendingInterestSK B E m w k h hl h0 h1).mono ?_
  rintro e w' ⟨a, m', hv, hb, hs, ho, hw⟩
  exact ⟨a, m', (show [kLPi.val m'] = [kLPi.val m] by rw [hv]), hb, hs, ho, hw⟩
theorem lenAdvPi : ∀ l : List Pit, l.length ≤ advK mvPi l
  | [] => Nat.le_refl _
  | x :: r => by
    have h := lenAdvPi r
    have h2 : 1 ≤ mvPi x := by unfold mvPi; omega
    simp only [advK, List.length_cons]
    omega
theorem heldPendingInterestSA (V : Value) (l : List Pit) (w : World) (k : Int) (a : Nat) (ha : advK mvPi l = a) (h : kLPi.At w V (mkLK mvPi mePi k l)) (hl : a ≤ 100000000) (h0 : 0 ≤ k) (h1 : k + (a : Int) ≤ 100000000000) :
    Calls Try.prog 42 #[V, .int .i64 k] w fun e w' => e = .returned (.int .i64 (k + (a : Int))) ∧ Below w.heap.size w w' := by
  subst ha
  exact heldPendingInterestSK V l w k h hl (Nat.le_trans (lenAdvPi l) hl) h0 h1
end Go.Proofs.Ytjphnlkdbhcblaa.Row
/- Lists of SeenNonce: marked and looked at. No conditions but that lengths fit. -/
namespace Go.Proofs.Ytjphnlkdbhcblaa.Row
open Go.ChangeShapes Go.WideShapes Go.ChangeAt Go.RowKit Go.Instr
set_option linter.unusedVariables false
set_option maxRecDepth 100000
def mvSn (z : Snt) : Nat := z.1.length + 1
def meSn (q : Int) (z : Snt) : Snt := (marks markT (q) z.1.length, q + (z.1.length : Int))
theorem mfSn0 (B E : Nat) (x : Snm) (w : World) (q : Int) (a : Nat) (ha : (kSn.strip x).1.length = a) (ho : kSn.Own B E w x) (hl : a ≤ 100000000) (h0 : 0 ≤ q) (h1 : q + (a : Int) ≤ 100000000000) :
    Calls Try.prog 97 #[x.1.v, .int .i64 q] w fun e w' => e = .returned (.int .i64 (q + (a : Int))) ∧ ∃ x', kSn.cells x' = kSn.cells x ∧ kSn.blocks x' = kSn.blocks x ∧ kSn.strip x' = (marks markT (q) (kSn.strip x).1.length, (kSn.strip x).2) ∧ kSn.Own B E w' x' ∧ WroteBy (kSn.blocks x) w w' := by
  subst ha
  exact (markF_N.fst _) B E x w q ho hl h0 h1
set_option maxHeartbeats 4000000 in
theorem markSeenNonceSK (B E : Nat) (m : Rw Snm) (w : World) (k : Int) (h : kLSn.Own B E w m) (hl : advK mvSn (kLSn.strip m) ≤ 100000000) (h0 : 0 ≤ k) (h1 : k + (advK mvSn (kLSn.strip m) : Int) ≤ 100000000000) :
    Calls Try.prog 55 #[kLSn.val m, .int .i64 k] w fun e w' => e = .returned (.int .i64 (k + (advK mvSn (kLSn.strip m) : Int))) ∧ ∃ m', kLSn.val m' = kLSn.val m ∧ kLSn.blocks m' = kLSn.blocks m ∧ kLSn.strip m' = mkLK mvSn meSn k (kLSn.strip m) ∧ kLSn.Own B E w' m' ∧ WroteBy (kLSn.blocks m) w w' := by
  obtain ⟨ad, n, cap, L⟩ := m
  replace h : (kSn.slice 38).Own B E w ⟨ad, n, cap, L⟩ := h
  replace hl : advK mvSn (L.map kSn.strip) ≤ 100000000 := hl
  replace h1 : k + (advK mvSn (L.map kSn.strip) : Int) ≤ 100000000000 := h1
  show Calls Try.prog 55 #[.slice ad n cap, .int .i64 k] w fun e w' => e = .returned (.int .i64 (k + (advK mvSn (L.map kSn.strip) : Int))) ∧ ∃ m' : Rw Snm, Rw.v m' = .slice ad n cap ∧ (kSn.slice 38).blocks m' = (kSn.slice 38).blocks ⟨ad, n, cap, L⟩ ∧ m'.els.map kSn.strip = mkLK mvSn meSn k (L.map kSn.strip) ∧ (kSn.slice 38).Own B E w' m' ∧ WroteBy ((kSn.slice 38).blocks ⟨ad, n, cap, L⟩) w w'
  rcases h.row.form with ⟨hv, hL⟩ | ⟨g, cap', hv, g1, g2, g3, g4⟩
  · cases hv
    subst hL
    have H := Lib.hid h; clear h
    go_enter Try.func55, Try.ntmps55
    go_wp2
    refine wp_loop_rounds 1 ?_
    rw [rounds_succ]
    go_wp2
    go_ret
    exact ⟨ret_int (by simp [advK]), ⟨⟨none, 0, 0, []⟩, rfl, rfl, rfl, H.out, WroteBy.refl _ _⟩⟩
  · cases hv
    have HROWLT := g2
    obtain ⟨n, hn⟩ : ∃ n, n = L.length := ⟨_, rfl⟩
    rw [← hn] at h g3 ⊢
    obtain ⟨l, hl9⟩ : ∃ l, L.map kSn.strip = l := ⟨_, rfl⟩
    rw [hl9] at hl h1 ⊢
    have hll : l.length = n := by rw [← hl9, List.length_map, hn]
    obtain ⟨bs, hbs⟩ : ∃ bs, (kSn.slice 38).blocks ⟨some ⟨g, 0, none⟩, n, cap, L⟩ = bs := ⟨_, rfl⟩
    have hgb : g ∈ bs := by rw [← hbs]; exact List.mem_append_left _ (by simp [Value.ownBlock, Rw.v])
    have heb : ∀ x ∈ L, ∀ q ∈ kSn.blocks x, q ∈ bs := fun x hx q hq => by rw [← hbs]; exact List.mem_append_right _ (List.mem_flatMap.2 ⟨x, hx, hq⟩)
    have hmaxl : n ≤ 140737488351232 ∨ True := Or.inr trivial
    have hn2 : n ≤ maxLen := by rw [hn]; exact h.row.len
    unfold maxLen at hn2
    rw [hbs]
    have HN := Lib.hid hn; have HT := Lib.hid hl9; have HLL := Lib.hid hll; have HBS := Lib.hid hbs; have HGB := Lib.hid hgb; have HEB := Lib.hid heb
    have HST := Lib.hid (fun j (hj : j < n) => advK_take mvSn (l := l) (j := j) (by rw [hll]; exact hj))
    have HLE := Lib.hid (fun j => advK_take_le mvSn l j)
    have HB : Hid ((kSn.slice 38).Own B E w ⟨some ⟨g, 0, none⟩, n, cap, [] ++ L.drop 0⟩) := Lib.hid (by simpa using h)
    clear hn h hl9 hll hbs hgb heb hmaxl
    go_enter Try.func55, Try.ntmps55
    go_wp2
    go_loopw [1, 5] (fun kv i wr => ∃ j : Nat, j ≤ n ∧ i = .int .i64 j ∧ ∃ p : Int, kv = .int .i64 p ∧ 0 ≤ p ∧ p ≤ 100000000000 ∧ Hid (p = k + (advK mvSn (l.take j) : Int)) ∧ ∃ M : List Snm, Hid (M.length = j) ∧ Hid (M.map kSn.strip = mkLK mvSn meSn k (l.take j)) ∧ Hid (M.map kSn.blocks = (L.take j).map kSn.blocks) ∧ Hid ((kSn.slice 38).Own B E wr ⟨some ⟨g, 0, none⟩, n, cap, M ++ L.drop j⟩) ∧ Hid (WroteBy bs w wr)) (fun _ i _ => n - (intOf i).toNat)
    case atStart => exact ⟨0, Nat.zero_le _, rfl, k, rfl, h0, by omega, Lib.hid (by simp [advK]), [], Lib.hid rfl, Lib.hid (by simp [mkLK]), Lib.hid rfl, HB, Lib.hid (WroteBy.refl _ _)⟩
    case round =>
      obtain ⟨j, hj, rfl, p, rfl, hp0, hp1, HP, M, HM1, HM2, HM3, HO, HW⟩ := hrel
      by_cases hlt : j < n
      · have hjL : j < L.length := by have := HN.out; omega
        obtain ⟨x0, hx0⟩ : ∃ x, nth L j = x := ⟨_, rfl⟩
        obtain ⟨Z, hZ⟩ : ∃ Z, M ++ L.drop j = Z := ⟨_, rfl⟩
        have hZl : n = Z.length := by rw [← hZ, List.length_append, HM1.out, List.length_drop]; have := HN.out; omega
        have hjZ : j < Z.length := by omega
        have hx9 : nth Z j = x0 := by rw [← hZ, nth_over HM1.out hjL, hx0]
        have ho := HO.out
        rw [hZ, ← set_nth9 hjZ, hx9] at ho
        have hst := HST.out j hlt
        rw [show nth l j = kSn.strip x0 by rw [← HT.out, nth_map _ hjL, hx0]] at hst
        have hle := HLE.out (j + 1)
        have hxb := HEB.out x0 (by rw [← hx0]; exact nth_mem hjL)
        obtain ⟨a0, ha0⟩ : ∃ a, (kSn.strip x0).1.length = a := ⟨_, rfl⟩
        have hmv : mvSn (kSn.strip x0) = a0 + 1 := by unfold mvSn; rw [ha0]
        rw [hmv] at hst
        have hp := HP.out
        have ba0 : a0 ≤ 100000000 := by omega
        have btot : p + ((a0 + 1 : Nat) : Int) ≤ 100000000000 := by omega
        have HX0 := Lib.hid hx0; have HZ := Lib.hid hZ; have HZL := Lib.hid hZl; have HJZ := Lib.hid hjZ; have HO0 := Lib.hid ho; have HSTP := Lib.hid hst; have HXB := Lib.hid hxb; have HJL := Lib.hid hjL; have HMV := Lib.hid hmv
        have HA0_0 := Lib.hid ha0
        have HW0 := HW
        clear hx0 hZ hZl hjZ hx9 ho hst hle hxb hp hjL hmv ha0
        have c : wr.cell? ⟨g, j * 2, none⟩ = some x0.1.v := (HO0.out.cell9 HZL.out HJZ.out (i := 0) (by decide)).1
        go_wp2_with fail
        clear c
        refine (mfSn0 B E x0 wr (p) a0 HA0_0.out (HO0.out.elem9 HJZ.out) ba0 (by omega) (by omega)).mono ?_
        rintro e w1 ⟨rfl, x1, hc, hb, hs, ho, hw⟩
        have HO1 := Lib.hid (HO0.out.part9 HJZ.out hc hb ho hw); have HB1 := Lib.hid hb; have HS1 := Lib.hid hs
        have HW1 := Lib.hid (HW0.out.trans (hw.more (fun q hq => HXB.out q hq)))
        clear hc hb hs ho hw
        have c1 : w1.cell? ⟨g, j * 2 + 1, none⟩ = some (.int .i64 x1.2) := (HO1.out.cell9 HZL.out HJZ.out (i := 1) (by decide)).1; have t1 : w1.frozen? ⟨g, j * 2 + 1, none⟩ = false := (HO1.out.cell9 HZL.out HJZ.out (i := 1) (by decide)).2
        have HOF : Hid ((kSn.slice 38).Own B E (w1.setCell ⟨g, j * 2 + 1, none⟩ (.int .i64 (p + (a0 : Int)))) ⟨some ⟨g, 0, none⟩, n, cap, Z.set j (x1.1, p + (a0 : Int))⟩) := Lib.hid (Kd.Own.put9 (x' := ((x1.1, p + (a0 : Int)) : Snm)) HO1.out HZL.out HJZ.out (i := 1) (by decide) (u := .int .i64 (p + (a0 : Int))) rfl rfl (fun h => h))
        have HWF : Hid (WroteBy bs w (w1.setCell ⟨g, j * 2 + 1, none⟩ (.int .i64 (p + (a0 : Int))))) := Lib.hid (HW1.out.trans (WroteBy.of (Ret.grownBy_set w1 ⟨g, j * 2 + 1, none⟩ (.int .i64 (p + (a0 : Int)))) (fun q hq => by cases hq; exact HGB.out)))
        have HSF : Hid (kSn.strip (x1.1, p + (a0 : Int)) = meSn p (kSn.strip x0)) := Lib.hid (by
          show ((kSn.strip x1).1, p + (a0 : Int)) = _
          unfold meSn
          simp only [HS1.out, HA0_0.out])
        have HBF : Hid (kSn.blocks (x1.1, p + (a0 : Int)) = kSn.blocks x0) := Lib.hid (show _ = _ from HB1.out)
        clear HO0 HW0 HO1 HW1 HB1 HS1
        go_wp2_with fail
        go_roundw
        case rel =>
          refine ⟨j + 1, by omega, by go_num, p + (a0 : Int) + 1, by go_num, by omega, by omega, Lib.hid ?_, M ++ [(x1.1, p + (a0 : Int))], Lib.hid ?_, Lib.hid ?_, Lib.hid ?_, Lib.hid ?_, HWF⟩
          · rw [HSTP.out, HP.out]; omega
          · simp [HM1.out]
          · rw [List.map_append, HM2.out, mkLK_take _ _ _ (by rw [HLL.out]; exact hlt), show nth l j = kSn.strip x0 by rw [← HT.out, nth_map _ HJL.out, HX0.out], ← HP.out, ← HSF.out]
            rfl
          · rw [List.map_append, HM3.out, List.take_succ_eq_append_getElem HJL.out, List.map_append, ← nth_eq HJL.out, HX0.out]
            simp only [List.map_cons, List.map_nil]
            rw [HBF.out]
          · have h9 := HOF.out
            rw [← HZ.out, set_over HM1.out HJL.out] at h9
            exact h9
        case measure => simp [intOf]; omega
      · obtain rfl : j = n := by omega
        clear hlt
        go_wp2
        go_ret
        have hn := HN.out
        have hp := HP.out
        have e1 : l.take j = l := List.take_of_length_le (by rw [HLL.out]; exact Nat.le_refl _)
        have e2 : L.take j = L := List.take_of_length_le (by omega)
        have e3 : L.drop j = [] := List.drop_eq_nil_of_le (by omega)
        have hh := HO.out
        have hm2 := HM2.out
        have hm3 := HM3.out
        rw [e1] at hp hm2
        rw [e2] at hm3
        rw [e3, List.append_nil] at hh
        refine ⟨ret_int hp, ⟨some ⟨g, 0, none⟩, j, cap, M⟩, rfl, ?_, hm2, hh, HW.out⟩
        rw [← HBS.out]
        show _ ++ M.flatMap kSn.blocks = _ ++ L.flatMap kSn.blocks
        rw [List.flatMap_def, List.flatMap_def, hm3]
        rfl
set_option maxHeartbeats 4000000 in
theorem heldSeenNonceSK (V : Value) (l : List Snt) (w : World) (k : Int) (h : kLSn.At w V (mkLK mvSn meSn k l)) (hl : advK mvSn l ≤ 100000000) (hlen : l.length ≤ 100000000) (h0 : 0 ≤ k) (h1 : k + (advK mvSn l : Int) ≤ 100000000000) :
    Calls Try.prog 56 #[V, .int .i64 k] w fun e w' => e = .returned (.int .i64 (k + (advK mvSn l : Int))) ∧ Below w.heap.size w w' := by
  obtain ⟨ad, n, cap, L, rfl, hn, hL, hh, hel⟩ := kLSn_at h
  have hll : l.length = n := by have := congrArg List.length hL; rw [List.length_map, mkLK_length] at this; omega
  rw [hll] at hlen
  have HN := Lib.hid hn; have HT := Lib.hid hL; have HH := Lib.hid hh; have HEL := Lib.hid hel; have HLL := Lib.hid hll
  have HST := Lib.hid (fun j (hj : j < n) => advK_take mvSn (l := l) (j := j) (by rw [hll]; exact hj))
  have HLE := Lib.hid (fun j => advK_take_le mvSn l j)
  clear h hn hL hh hel hll
  go_enter Try.func56, Try.ntmps56
  go_wp2
  go_loopw [1, 5] (fun kv i wr => ∃ j : Nat, j ≤ n ∧ i = .int .i64 j ∧ ∃ p : Int, kv = .int .i64 p ∧ 0 ≤ p ∧ p ≤ 100000000000 ∧ Hid (p = k + (advK mvSn (l.take j) : Int)) ∧ Hid (Below w.heap.size w wr)) (fun _ i _ => n - (intOf i).toNat)
  case atStart => exact ⟨0, Nat.zero_le _, rfl, k, rfl, h0, by omega, Lib.hid (by simp [advK]), Lib.hid (Below.refl _ _)⟩
  case round =>
    obtain ⟨j, hj, rfl, p, rfl, hp0, hp1, HP, hb⟩ := hrel
    by_cases hlt : j < n
    · have hn := HN.out
      obtain ⟨b, off, x0, n0, c0, rfl, -, hc0, hc1, ha⟩ := kLSn_elem (HH.out.on hb.out) (fun y hy => kSn.holds_on (HEL.out y hy) hb.out) (j := j) (by omega)
      have hme : kSn.strip (nth L j) = meSn p (nth l j) := by rw [← nth_map kSn.strip (by omega), HT.out, mkLK_at _ _ _ (by rw [HLL.out]; exact hlt), ← HP.out]
      rw [hme] at ha hc1
      have hst := HST.out j hlt
      have hle := HLE.out (j + 1)
      obtain ⟨z, hz⟩ : ∃ z, nth l j = z := ⟨_, rfl⟩
      rw [hz] at ha hst hc1
      obtain ⟨y0, m0, d0, e9, g0⟩ := kSn_at ha
      cases e9
      obtain ⟨a0, ha0⟩ : ∃ a, z.1.length = a := ⟨_, rfl⟩
      obtain ⟨v9, e9, h9_0⟩ := kN_at g0
      cases e9
      have hmv : mvSn z = a0 + 1 := by unfold mvSn; rw [ha0]
      rw [hmv] at hst
      have hp := HP.out
      have G0 := Lib.hid (show Holds Value.string wr (.slice x0 n0 c0) (marks markT (p) a0) from by have h8 := h9_0; simp only [meSn, ha0] at h8; exact h8)
      have HC1 := Lib.hid (show wr.cell? ⟨b, off + j * 2 + 1, none⟩ = some (.int .i64 (p + (a0 : Int))) from by have h8 := hc1; simp only [meSn, ha0] at h8; exact h8)
      have HC0 := Lib.hid (show wr.cell? ⟨b, off + j * 2, none⟩ = some (.slice x0 n0 c0) from hc0)
      have ba0 : a0 ≤ 100000000 := by omega
      have btot : p + ((a0 + 1 : Nat) : Int) ≤ 100000000000 := by omega
      have HSTP := Lib.hid hst
      clear hn ha hme hst hle hmv hp hz hc0 hc1 ha0 h9_0 g0
      have c : wr.cell? ⟨b, off + j * 2, none⟩ = some (.slice x0 n0 c0) := HC0.out
      go_wp2_with fail
      clear c
      refine (heldStringS _ _ (p) a0 G0.out ba0 (by omega) (by omega)).mono ?_
      rintro e w1 ⟨rfl, hb1⟩
      replace HC1 := Lib.hid ((hb1.cell (Ret.cell_lt HC1.out)).trans HC1.out)
      replace hb := Lib.hid (hb.out.trans (hb1.mono hb.out.size)); clear hb1
      have bq : ¬ p + (a0 : Int) < 0 := by omega
      have c19 : w1.cell? ⟨b, off + j * 2 + 1, none⟩ = some (.int .i64 (p + (a0 : Int))) := HC1.out
      go_wp2_with fail
      go_roundw
      case rel => exact ⟨j + 1, by omega, by go_num, p + (a0 : Int) + 1, by go_num, by omega, by omega, Lib.hid (by rw [HSTP.out, HP.out]; omega), hb⟩
      case measure => simp [intOf]; omega
    · obtain rfl : j = n := by omega
      clear hlt
      go_wp2
      go_ret
      have hp := HP.out
      rw [show l.take j = l from List.take_of_length_le (by rw [HLL.out]; exact Nat.le_refl _)] at hp
      exact ⟨ret_int hp, hb.out⟩
theorem lenAdvSn : ∀ l : List Snt, l.length ≤ advK mvSn l
  | [] => Nat.le_refl _
  | x :: r => by
    have h := lenAdvSn r
    have h2 : 1 ≤ mvSn x := by unfold mvSn; omega
    simp only [advK, List.length_cons]
    omega
theorem heldSeenNonceSA (V : Value) (l : List Snt) (w : World) (k : Int) (a : Nat) (ha : advK mvSn l = a) (h : kLSn.At w V (mkLK mvSn meSn k l)) (hl : a ≤ 100000000) (h0 : 0 ≤ k) (h1 : k + (a : Int) ≤ 100000000000) :
    Calls Try.prog 56 #[V, .int .i64 k] w fun e w' => e = .returned (.int .i64 (k + (a : Int))) ∧ Below w.heap.size w w' := by
  subst ha
  exact heldSeenNonceSK V l w k h hl (Nat.le_trans (lenAdvSn l) hl) h0 h1
end Go.Proofs.Ytjphnlkdbhcblaa.Row
/- Names in the words that kslice.py wants. No conditions but that lengths fit. -/
namespace Go.Proofs.Ytjphnlkdbhcblaa.Row
open Go.ChangeShapes Go.WideShapes Go.ChangeAt Go.RowKit Go.Instr
set_option linter.unusedVariables false
set_option maxRecDepth 100000
abbrev Nnt := List ByteArray
abbrev Nnm := Rw ByteArray
abbrev kNn : Kd Nnt Nnm := kN
abbrev wtNn (x : Nnt) : Nat := bulk x
abbrev adNn (x : Nnt) : Nat := x.length
abbrev okNn (x : Nnt) : Prop := okN x
abbrev inNn (x : Nnt) : Prop := okN x
theorem okN.ok {x : List ByteArray} (h : okN x) : okNn x := h
end Go.Proofs.Ytjphnlkdbhcblaa.Row
/- Lists of names in the words of kinds: sz, to, eq. No conditions but that lengths fit. -/
namespace Go.Proofs.Ytjphnlkdbhcblaa.Row
open Go.ChangeShapes Go.WideShapes Go.ChangeAt Go.RowKit Go.Instr
set_option linter.unusedVariables false
set_option maxRecDepth 100000
def kLNn : Kd (List Nnt) (Rw Nnm) := kNn.slice 27
def okLNn (l : List Nnt) : Prop := l.length ≤ 9223372036854775807 ∧ ∀ x ∈ l, okNn x
section
variable {w : World} {V : Value} {l : List Nnt} {B E : Nat}
end
def inLNn (l : List Nnt) : Prop := l.length ≤ 9223372036854775807 ∧ ∀ x ∈ l, inNn x
theorem inLNn.ok {l : List Nnt} (h : inLNn l) : okLNn l := ⟨h.1, fun x hx => (h.2 x hx).ok⟩
def adLNn (l : List Nnt) : Nat := bulkK adNn l
end Go.Proofs.Ytjphnlkdbhcblaa.Row
/- Lists of Name: marked and looked at. No conditions but that lengths fit. -/
namespace Go.Proofs.Ytjphnlkdbhcblaa.Row
open Go.ChangeShapes Go.WideShapes Go.ChangeAt Go.RowKit Go.Instr
set_option linter.unusedVariables false
set_option maxRecDepth 100000
def mvNn (z : Nnt) : Nat := z.length
def meNn (q : Int) (z : Nnt) : Nnt := marks markT (q) z.length
end Go.Proofs.Ytjphnlkdbhcblaa.Row
/- Lists of names, marked and held, in the words of the exact laws. No conditions but that lengths fit. -/
namespace Go.Proofs.Ytjphnlkdbhcblaa.Row
open Go.ChangeShapes Go.WideShapes Go.ChangeAt Go.RowKit Go.Instr
set_option linter.unusedVariables false
set_option maxRecDepth 100000
theorem advK_sum {α : Type} (f : α → Nat) (l : List α) : advK f l = (l.map f).sum := by
  induction l with
  | nil => rfl
  | cons a r ih => simp [advK, ih]
end Go.Proofs.Ytjphnlkdbhcblaa.Row
/- Lists of pending interests and of seen nonces in the words of the exact laws: marks; how much the answers of chapter 13's functions hold. No conditions but that lengths fit. -/
namespace Go.Proofs.Ytjphnlkdbhcblaa.Row
open Go.ChangeShapes Go.WideShapes Go.ChangeAt Go.RowKit Go.Instr
set_option linter.unusedVariables false
set_option maxRecDepth 100000
theorem bulkK_sumP {α : Type} (f : α → Nat) (l : List α) : bulkK f l = l.length + (l.map f).sum := by unfold bulkK bulkKTo; rw [List.take_length]
theorem sum_subP {α : Type} (f : α → Nat) {l m : List α} (h : l.Sublist m) : (l.map f).sum ≤ (m.map f).sum := by
  induction h with
  | slnil => exact Nat.le_refl _
  | cons a _ ih => simp only [List.map_cons, List.sum_cons]; omega
  | cons_cons a _ ih => simp only [List.map_cons, List.sum_cons]; omega
theorem sum_setP {α : Type} [Inhabited α] (f : α → Nat) {y : α} {d : Nat} : ∀ {l : List α} {i : Nat}, i < l.length → f y ≤ f (nth l i) + d → ((l.set i y).map f).sum ≤ (l.map f).sum + d
  | [], i, h, _ => absurd h (by simp)
  | a :: r, 0, _, hy => by
    have e : f (nth (a :: r) 0) = f a := rfl
    rw [e] at hy
    simp only [List.set_cons_zero, List.map_cons, List.sum_cons]; omega
  | a :: r, i + 1, h, hy => by
    have e : nth (a :: r) (i + 1) = nth r i := rfl
    rw [e] at hy
    have h9 := sum_setP f (l := r) (i := i) (by simpa using h) hy
    simp only [List.set_cons_succ, List.map_cons, List.sum_cons]; omega
theorem mul_sum9 {α : Type} (f g : α → Nat) (h : ∀ x, f x ≤ 3 * g x + 1) (l : List α) : (l.map f).sum ≤ 3 * (l.map g).sum + l.length := by
  induction l with
  | nil => simp
  | cons a r ih => have := h a; simp only [List.map_cons, List.sum_cons, List.length_cons]; omega
theorem advRq (l : List Rqt) : advK mvRq l = 3 * l.length := by
  induction l with
  | nil => rfl
  | cons a r ih => show mvRq a + advK mvRq r = _; rw [ih, List.length_cons]; show 3 + _ = _; omega
theorem adRq_len (l : List Rqt) : bulkK adRq l = l.length := by
  rw [bulkK_sumP]
  have : (l.map adRq).sum = 0 := by
    induction l with
    | nil => rfl
    | cons a r ih => rw [List.map_cons, List.sum_cons, ih]; rfl
  omega
theorem adPi_eq (x : Pit) : adPi x = x.1.length + x.2.1.length := by unfold adPi; rw [adRq_len]
theorem mvPi_eq (x : Pit) : mvPi x = x.1.length + 3 * x.2.1.length + 1 := by unfold mvPi; rw [advRq]
theorem avPi_le (l : List Pit) : advK mvPi l ≤ 3 * adLPi l := by
  have h := mul_sum9 mvPi adPi (fun x => by rw [mvPi_eq, adPi_eq]; omega) l
  unfold adLPi
  rw [advK_sum, bulkK_sumP]
  omega
theorem avPi_big {l : List Pit} {n : Nat} (h : bulkK wtPi l ≤ n) : advK mvPi l ≤ 3 * n := by
  have h1 := avPi_le l
  have h2 := adLPi_big h
  omega
theorem avSn_le (l : List Snt) : advK mvSn l ≤ adLSn l := by
  unfold adLSn
  rw [advK_sum, bulkK_sumP]
  have h : ∀ l : List Snt, (l.map mvSn).sum = (l.map adSn).sum + l.length := fun l => by
    induction l with
    | nil => rfl
    | cons a r ih => simp only [List.map_cons, List.sum_cons, List.length_cons, ih]; show a.1.length + 1 + _ = a.1.length + _ + _; omega
  have := h l; omega
theorem avSn_big {l : List Snt} {n : Nat} (h : bulkK wtSn l ≤ n) : advK mvSn l ≤ n := Nat.le_trans (avSn_le l) (adLSn_big h)
theorem markLPiK (B E : Nat) (V : Value) (l : List Pit) (w : World) (k : Int) (h : kLPi.In B E w V l) (hl : advK mvPi l ≤ 100000000) (h0 : 0 ≤ k) (h1 : k ≤ 1000000000) :
    Calls Try.prog 40 #[V, .int .i64 k] w fun e w' => e = .returned (.int .i64 (k + (advK mvPi l : Int))) ∧ kLPi.In B E w' V (mkLK mvPi mePi k l) ∧ Wrote B E w w' := by
  obtain ⟨m, rfl, rfl, hw9⟩ := h.split
  refine (markPendingInterestSK B E m w k hw9 hl h0 (by omega)).mono ?_
  rintro e w' ⟨a, n, v, b, s, ho, hw⟩
  exact ⟨a, v ▸ s ▸ ho.in, hw.wrote (fun g hg => ⟨(hw9.lt g hg).1, (hw9.lt g hg).2.1⟩)⟩
theorem heldLPiK (V : Value) (w : World) (k : Int) (l : List Pit) (h : kLPi.At w V (mkLK mvPi mePi k l)) (hl : advK mvPi l ≤ 100000000) (h0 : 0 ≤ k) (h1 : k ≤ 1000000000) :
    Calls Try.prog 42 #[V, .int .i64 k] w fun e w' => e = .returned (.int .i64 (k + (advK mvPi l : Int))) ∧ Below w.heap.size w w' :=
  heldPendingInterestSA V l w k _ rfl h hl h0 (by omega)
theorem markLSnK (B E : Nat) (V : Value) (l : List Snt) (w : World) (k : Int) (h : kLSn.In B E w V l) (hl : advK mvSn l ≤ 100000000) (h0 : 0 ≤ k) (h1 : k ≤ 1000000000) :
    Calls Try.prog 55 #[V, .int .i64 k] w fun e w' => e = .returned (.int .i64 (k + (advK mvSn l : Int))) ∧ kLSn.In B E w' V (mkLK mvSn meSn k l) ∧ Wrote B E w w' := by
  obtain ⟨m, rfl, rfl, hw9⟩ := h.split
  refine (markSeenNonceSK B E m w k hw9 hl h0 (by omega)).mono ?_
  rintro e w' ⟨a, n, v, b, s, ho, hw⟩
  exact ⟨a, v ▸ s ▸ ho.in, hw.wrote (fun g hg => ⟨(hw9.lt g hg).1, (hw9.lt g hg).2.1⟩)⟩
theorem heldLSnK (V : Value) (w : World) (k : Int) (l : List Snt) (h : kLSn.At w V (mkLK mvSn meSn k l)) (hl : advK mvSn l ≤ 100000000) (h0 : 0 ≤ k) (h1 : k ≤ 1000000000) :
    Calls Try.prog 56 #[V, .int .i64 k] w fun e w' => e = .returned (.int .i64 (k + (advK mvSn l : Int))) ∧ Below w.heap.size w w' :=
  heldSeenNonceSA V l w k _ rfl h hl h0 (by omega)
theorem heldLRqK (V : Value) (w : World) (k : Int) (l : List Rqt) (h : kLRq.At w V (mkLK mvRq meRq k l)) (hl : advK mvRq l ≤ 100000000) (h0 : 0 ≤ k) (h1 : k ≤ 1000000000) :
    Calls Try.prog 52 #[V, .int .i64 k] w fun e w' => e = .returned (.int .i64 (k + (advK mvRq l : Int))) ∧ Below w.heap.size w w' :=
  heldRequesterSA V l w k _ rfl h hl h0 (by omega)
theorem subPi {l m : List Pit} (h : l.Sublist m) : adLPi l ≤ adLPi m ∧ advK mvPi l ≤ advK mvPi m := by
  have h1 := sum_subP adPi h; have h2 := sum_subP mvPi h; have h3 := h.length_le
  unfold adLPi
  rw [bulkK_sumP, bulkK_sumP, advK_sum, advK_sum]
  omega
theorem setPi {l : List Pit} {i : Nat} {y : Pit} {d : Nat} (hi : i < l.length) (h1 : adPi y ≤ adPi (nth l i) + d) (h2 : mvPi y ≤ mvPi (nth l i) + 3 * d) : adLPi (l.set i y) ≤ adLPi l + d ∧ advK mvPi (l.set i y) ≤ advK mvPi l + 3 * d := by
  have h3 := sum_setP adPi hi h1
  have h4 := sum_setP mvPi hi h2
  unfold adLPi
  rw [bulkK_sumP, bulkK_sumP, advK_sum, advK_sum, List.length_set]
  omega
theorem ixP_lt {n : List ByteArray} {l : List Pit} (h : 0 ≤ ixL (isP n) l) : (ixL (isP n) l).toNat < l.length := by
  rcases ixL_cases (isP n) l with ⟨e, -⟩ | ⟨j, hj, e, -⟩ <;> omega
theorem sentP_sz (l : List Pit) (n : List ByteArray) (now : Int) : adLPi (sentP l n now) ≤ adLPi l ∧ advK mvPi (sentP l n now) ≤ advK mvPi l := by
  unfold sentP
  split
  · rename_i h
    have := setPi (d := 0) (y := ((nth l (ixL (isP n) l).toNat).1, (nth l (ixL (isP n) l).toNat).2.1, now)) (ixP_lt h) (Nat.le_refl _) (Nat.le_refl _)
    omega
  · omega
theorem satP_sz (l : List Pit) (n : List ByteArray) : adLPi (satP l n) ≤ adLPi l ∧ advK mvPi (satP l n) ≤ advK mvPi l := by
  unfold satP
  split
  · exact subPi (List.eraseIdx_sublist _ _)
  · omega
theorem satR_sz (l : List Pit) (n : List ByteArray) : adLRq (satR l n) ≤ adLPi l ∧ advK mvRq (satR l n) ≤ advK mvPi l := by
  unfold satR
  split
  · rename_i h
    have h1 : adPi (nth l (ixL (isP n) l).toNat) ≤ adLPi l := bulkK_mem (nth_mem (ixP_lt h))
    have h2 : mvPi (nth l (ixL (isP n) l).toNat) ≤ advK mvPi l := by
      rw [advK_sum]
      have h3 : ∀ (l : List Pit) (x : Pit), x ∈ l → mvPi x ≤ (l.map mvPi).sum := fun l x hx => by
        induction l with
        | nil => cases hx
        | cons a r ih =>
          simp only [List.map_cons, List.sum_cons]
          rcases List.mem_cons.1 hx with e | e
          · rw [e]; omega
          · have := ih e; omega
      exact h3 _ _ (nth_mem (ixP_lt h))
    rw [adPi_eq] at h1
    rw [mvPi_eq] at h2
    unfold adLRq
    rw [adRq_len, advRq]
    omega
  · exact ⟨Nat.zero_le _, Nat.zero_le _⟩
theorem seenS_sz (s : List Snt) (n : List ByteArray) (k : Int) : adLSn (seenS s n k) ≤ adLSn s + n.length + 1 ∧ advK mvSn (seenS s n k) ≤ advK mvSn s + n.length + 1 := by
  have h1 : (seenS s n k).Sublist (s ++ [(n, k)]) := by
    unfold seenS
    split
    · exact List.drop_sublist _ _
    · exact List.Sublist.refl _
  have h2 := sum_subP adSn h1; have h3 := sum_subP mvSn h1; have h4 := h1.length_le
  unfold adLSn
  rw [bulkK_sumP, bulkK_sumP, advK_sum, advK_sum]
  rw [List.map_append, List.sum_append] at h2 h3
  rw [List.length_append] at h4
  have e1 : (List.map adSn [((n, k) : Snt)]).sum = n.length := by simp [adSn]
  have e2 : (List.map mvSn [((n, k) : Snt)]).sum = n.length + 1 := by simp [mvSn]
  rw [e1] at h2
  rw [e2] at h3
  simp only [List.length_singleton] at h4
  omega
end Go.Proofs.Ytjphnlkdbhcblaa.Row
/- A slice of numbers that came in as an argument: it holds a list, its numbers fit their kind, its length is within the reach. No conditions. -/
namespace Go.Proofs.Ytjphnlkdbhcblaa.Sl
open Go.ChangeShapes Go.WideShapes Go.ChangeAt Go.RowKit
end Go.Proofs.Ytjphnlkdbhcblaa.Sl
/- Lists that lie as rows of the call's own: a part of a row, an element more, an append within the room, a clearing behind the end; closures while a row is written. For any kind and any program. No conditions but that lengths fit. -/
namespace Go.Proofs.Ytjphnlkdbhcblaa.Row
open Go.ChangeShapes Go.WideShapes Go.ChangeAt Go.RowKit Go.Instr
set_option linter.unusedVariables false
set_option linter.unusedSectionVars false
set_option maxRecDepth 100000
theorem erase_parts {α : Type} (l : List α) (k : Nat) : l.eraseIdx k = l.take k ++ l.drop (k + 1) := List.eraseIdx_eq_take_drop_succ l k
theorem take_nx {α : Type} [Inhabited α] {l : List α} {k : Nat} (h : k < l.length) : l.take (k + 1) = l.take k ++ [nth l k] := by rw [List.take_succ_eq_append_getElem h, nth_eq h]
theorem filter_nx {α : Type} [Inhabited α] {p : α → Bool} {l : List α} {k : Nat} (h : k < l.length) (hp : p (nth l k) = true) : (l.take (k + 1)).filter p = (l.take k).filter p ++ [nth l k] := by
  rw [take_nx h, List.filter_append]; simp [hp]
theorem filter_sk {α : Type} [Inhabited α] {p : α → Bool} {l : List α} {k : Nat} (h : k < l.length) (hp : p (nth l k) = false) : (l.take (k + 1)).filter p = (l.take k).filter p := by
  rw [take_nx h, List.filter_append]; simp [hp]
section
variable {α M : Type} {k : Kd α M} {B C E E' : Nat} {e : TypeId} {w w' : World} {m : M}
theorem Kd.Own.upto (h : k.Own B w.heap.size w m) (hb : Below w.heap.size w w') : k.Own B w'.heap.size w' m := (h.on hb).mono (Nat.le_refl _) hb.size
theorem sub_flat {γ δ : Type} (f : γ → List δ) {l l' : List γ} (h : l'.Sublist l) : (l'.flatMap f).Sublist (l.flatMap f) := by
  induction h with
  | slnil => exact List.Sublist.refl _
  | cons a _ ih => rw [List.flatMap_cons]; exact ih.trans (List.sublist_append_right _ _)
  | cons_cons a _ ih => rw [List.flatMap_cons, List.flatMap_cons]; exact (List.Sublist.refl _).append ih
theorem Kd.sub (hN : k.NoRow e) {r : Rw M} (h : (k.slice e).Own B C w r) {L' : List M} (hs : L'.Sublist r.els) {row : Option Nat} (hg : w.grownBy w' row) (hr : ∀ g, row = some g → r.v.ownBlock = some g)
    {ad : Option Addr} {n cap : Nat} (ho : OwnK e k.cells k.size B w' (.slice ad n cap) L') : (k.slice e).Own B w'.heap.size w' ⟨ad, n, cap, L'⟩ := by
  have hnd : (r.v.ownBlock.toList ++ r.els.flatMap k.blocks).Nodup := h.2.1
  have hnd2 := List.nodup_append.1 hnd
  have hel : ∀ y ∈ L', k.own B w' y := fun y hy => k.own_keep (h.1.2 y (hs.subset hy)) (fun g hgy => hg.block g (k.own_lt (h.1.2 y (hs.subset hy)) g hgy).2 (fun er => hnd2.2.2 g (by rw [hr g er.symm]; simp) g (List.mem_flatMap.2 ⟨y, hs.subset hy, hgy⟩) rfl))
  refine ⟨⟨ho, hel⟩, ?_, fun g hgm => ?_⟩
  · show ((Rw.v ⟨ad, n, cap, L'⟩).ownBlock.toList ++ L'.flatMap k.blocks).Nodup
    rw [List.nodup_append]
    refine ⟨by cases (Rw.v ⟨ad, n, cap, L'⟩).ownBlock <;> simp, hnd2.2.1.sublist (sub_flat k.blocks hs), fun a ha b hb eab => ?_⟩
    obtain ⟨y, hy, hyb⟩ := List.mem_flatMap.1 hb
    obtain ⟨cs, hc⟩ := ho.row (g := a) (show (Value.slice ad n cap).ownBlock = some a from Option.mem_toList.1 ha)
    rw [eab] at hc
    exact hN B w' y (hel y hy) b hyb cs hc
  · rcases List.mem_append.1 (show g ∈ (Rw.v ⟨ad, n, cap, L'⟩).ownBlock.toList ++ L'.flatMap k.blocks from hgm) with hgm | hgm
    · exact (ho.lt g (show (Value.slice ad n cap).ownBlock = some g from Option.mem_toList.1 hgm)).2
    · obtain ⟨y, hy, hyb⟩ := List.mem_flatMap.1 hgm
      exact (k.own_lt (hel y hy) g hyb).2
theorem Kd.Own.elOf {r : Rw M} (h : (k.slice e).Own B C w r) {y : M} (hy : y ∈ r.els) : k.holds w y := k.own_holds (h.1.2 y hy)
end
section
variable {P : Program} {α : Type} {enc : α → List Value} {sz : Nat} {e t : TypeId} {bytes : Nat} {z : Value}
theorem step_appFits (K : Kind P e enc z sz bytes) {ops : Array Oper} {o : Oper} {a : Act} {w : World} {K' : Act → World → Prop} {Q : Exit → Act → World → Prop} {E : Prop} (hg : o.guard = none) (s x : Operand)
    (hop : o.op = .call { callee := .builtin .append, args := #[s, x], argTypes := #[t, t] }) (ht : P.underlying t = some (.slice e)) {B g n cap : Nat} {vx : Value} {l m : List α} (hs : a.eval s = .slice (some ⟨g, 0, none⟩) n cap) (hx : a.eval x = vx) (hown : OwnK e enc sz B w (.slice (some ⟨g, 0, none⟩) n cap) l) (hsrc : HoldsK enc sz w vx m) (hroom : l.length + m.length ≤ cap)
    (hK : ∀ w' N, N = l.length + m.length → OwnK e enc sz B w' (.slice (some ⟨g, 0, none⟩) N cap) (l ++ m) → w.grownBy w' (some g) → K' (a.put o.dst (.slice (some ⟨g, 0, none⟩) N cap)) w') :
    if Region.wanted o (yielded ops a.tmps) = true then Oper.wp P o a w K' Q else E := by
  have hw : Region.wanted o (yielded ops a.tmps) = true := by simp [Region.wanted, hg]
  rw [if_pos hw]
  obtain ⟨i, h1, h2, h3, h4⟩ := info_parts K.elem
  obtain rfl : n = l.length := hown.holds.lenEq
  obtain ⟨ao, c, rfl, hcap, hc⟩ := hsrc
  have hsrc : HoldsK enc sz w (.slice ao m.length c) m := ⟨ao, c, rfl, hcap, hc⟩
  cases ao with
  | some ad =>
    obtain ⟨w', hrun, r1, r2⟩ := run_append_fits (P := P) w B t o.type e i sz ht h1 h3 g l.length cap (flat enc l) hown ad m.length c (flat enc m) (flat_length K.size m) (hsrc.cells K.size) (flat_one' K.one m) hroom
    unfold Oper.wp
    simp [execOp, hop, resolve, invoke, builtin, hs, hx, hrun, Result.andThen]
    refine hK _ _ rfl ?_ r2
    unfold OwnK
    rw [List.length_append, flat_append]; exact r1
  | none =>
    rcases hc with rfl | ⟨b, off, hc, _⟩
    · have hrun : (Builtin.append_ #[t, t] o.type #[.slice (some ⟨g, 0, none⟩) l.length cap, .slice none 0 c]).run P w = .ok (.slice (some ⟨g, 0, none⟩) l.length cap) w := by
        rcases hown.2 with ⟨hv, hn⟩ | ⟨g', cap', cur, hv, _, _, hnc, _⟩
        · cases hv
        · cases hv
          simp [Builtin.append_, run_underlying ht, sizeOf, typeInfo, h1, Builtin.lenOf, Builtin.firstCells, hnc, storeCells]
      have hx' : a.eval x = .slice none 0 c := by simpa using hx
      unfold Oper.wp
      simp [execOp, hop, resolve, invoke, builtin, hs, hx', hrun, Result.andThen]
      exact hK w l.length (by simp) (by simpa using hown) (World.grownBy.refl _ _)
    · cases hc
theorem wpList_clearPast [Inhabited α] (K : Kind P e enc z sz bytes) (hz : z.cells.toList = enc default) (hzv : ∀ w, (zeroValue e).run P w = .ok z w) {w : World} {ops : Array Oper} {rest : List Oper} {o : Oper} {a : Act} {Q : Exit → Act → World → Prop} (hgd : o.guard = none) (s : Operand)
    (ho : o.op = .call { callee := .builtin .clear, args := #[s], argTypes := #[t] }) (ht : P.underlying t = some (.slice e)) {B g n cap i k c : Nat} {l : List α} (hs : a.eval s = .slice (some ⟨g, i * sz, none⟩) k c) (hown : OwnK e enc sz B w (.slice (some ⟨g, 0, none⟩) n cap) l) (hi : i = l.length) (hk : i + k ≤ cap) (hk0 : 0 < k)
    (h : ∀ w', OwnK e enc sz B w' (.slice (some ⟨g, 0, none⟩) n cap) l → w.grownBy w' (some g) → wpList P ops Q rest (a.put o.dst (.tuple #[])) w') : wpList P ops Q (o :: rest) a w := by
  subst hi
  obtain rfl := hown.holds.lenEq
  have hown0 := hown
  rcases hown.2 with ⟨hv, _⟩ | ⟨g', cap', cur, hv, hB, hc, hnc, hmx, hks, h4⟩
  · cases hv
  cases hv
  have hzc : (Builtin.zeroCells z.cells k).toList = flat enc (List.replicate k default) := by
    rw [← madeK K.size K.pos hz k]
    unfold Builtin.zeroCells madeCells
    rw [K.zs]
  have hfl : (flat enc (List.replicate k (default : α))).length = k * sz := by rw [flat_length K.size, List.length_replicate]
  have hle : (l.length + k) * sz ≤ cap * sz := Nat.mul_le_mul_right _ hk
  rw [Nat.add_mul] at hle
  have hst := run_storeCells_at P g (l.length * sz) e (flat enc (List.replicate k default)) 0 cur w hc (by rw [hfl, hks]; omega) (flat_one' K.one _)
  rw [← hzc] at hst
  refine wpList_plain hgd fun K' hK' => ?_
  have hrun : (Builtin.clear_ #[t] o.type #[.slice (some ⟨g, l.length * sz, none⟩) k c]).run P w = .ok (.tuple #[]) (w.setRow g (cur.toList.take (l.length * sz) ++ flat enc (List.replicate k default) ++ cur.toList.drop (l.length * sz + (flat enc (List.replicate k (default : α))).length)).toArray) := by
    obtain ⟨k', rfl⟩ : ∃ k', k = k' + 1 := ⟨k - 1, by omega⟩
    rw [hzc] at hst
    simp only [Nat.add_zero] at hst
    simp [Builtin.clear_, run_underlying ht, hzv, hzc, hst]
  unfold Oper.wp
  simp [execOp, ho, resolve, invoke, builtin, hs, hrun, Result.andThen]
  refine hK' _ _ (h _ ?_ (grownBy_setRow _ _ _))
  refine ⟨hown0.1, Or.inr ⟨g, cap, _, rfl, hB, setRow_heap w g cur _ e _ hc, hnc, hmx, ?_, ?_⟩⟩
  · simp only [List.size_toArray, List.length_append, List.length_take, List.length_drop, Array.length_toList, hfl, hks]
    omega
  · show (cur.toList.take (l.length * sz) ++ (flat enc (List.replicate k default) ++ _)).take (l.length * sz) = _
    have hcl : cur.toList.length = cap * sz := by rw [Array.length_toList]; exact hks
    rw [List.take_append_of_le_length (by rw [List.length_take, hcl]; omega), List.take_take, Nat.min_self]
    exact h4
theorem holds_dropIf (hs : Sz enc sz) {w : World} {b off n cap i : Nat} {l : List α} (h : HoldsK enc sz w (.slice (some ⟨b, off, none⟩) n cap) l) (hi : i ≤ l.length) {ao : Addr} (hao : ao = ⟨b, off + i * sz, none⟩ ∨ i = l.length) : HoldsK enc sz w (.slice (some ao) (n - i) (cap - i)) (l.drop i) := by
  rcases hao with rfl | rfl
  · exact h.drop hs hi
  · obtain rfl := h.lenEq
    exact ⟨some ao, cap - l.length, by simp, by simp, Or.inl (by simp)⟩
end
def ClosR {α M : Type} (P : Program) (k : Kd α M) (fid : FuncId) (cap : Array Value) (p : α → Bool) (ok : α → Prop) (w : World) (row : Option Nat) : Prop :=
  ∀ (x : α) (V : Value) (W : World), w.grownBy W row → k.At W V x → ok x → Calls P fid (#[V] ++ cap) W fun e w' => e = .returned (.bool (p x)) ∧ Below W.heap.size W w'
theorem ClosR.plain {α M : Type} {P : Program} {k : Kd α M} {fid : FuncId} {cap : Array Value} {p : α → Bool} {ok : α → Prop} {w : World} {row : Option Nat} (h : ClosR P k fid cap p ok w row) : ClosK P k fid cap p ok w := fun x V W hW => h x V W (Sl.grown_of_below hW row)
structure MidK {M : Type} [Inhabited M] (q : M → Bool) (L L' : List M) (i j : Nat) : Prop where
  len : L'.length = L.length
  head : L'.take i = (L.take j).filter q
  rest : ∀ r, j ≤ r → r < L.length → nth L' r = nth L r
  lt : i < j
theorem MidK.keep {M : Type} [Inhabited M] {q : M → Bool} {L L' : List M} {i j : Nat} (h : MidK q L L' i j) (hj : j < L.length) (hq : q (nth L j) = true) : MidK q L (L'.set i (nth L j)) (i + 1) (j + 1) := by
  have h1 := h.len
  have h2 := h.lt
  refine ⟨by simp [h1], ?_, fun r hr hr2 => ?_, by omega⟩
  · rw [List.take_succ_eq_append_getElem (by simp; omega), List.getElem_set_self, List.take_set_of_le (Nat.le_refl _), h.head, filter_nx hj hq]
  · rw [← h.rest r (by omega) hr2]
    simp only [nth, List.getD]
    rw [List.getElem?_set_ne (by omega)]
theorem MidK.skip {M : Type} [Inhabited M] {q : M → Bool} {L L' : List M} {i j : Nat} (h : MidK q L L' i j) (hj : j < L.length) (hq : q (nth L j) = false) : MidK q L L' i (j + 1) := by
  refine ⟨h.len, ?_, fun r hr hr2 => h.rest r (by omega) hr2, by have := h.lt; omega⟩
  rw [h.head, filter_sk hj hq]
theorem step_appKx {P : Program} {ops : Array Oper} {o : Oper} {a : Act} {w : World} {K : Act → World → Prop} {Q : Exit → Act → World → Prop} {E : Prop} {α : Type} {enc : α → List Value} {sz : Nat} {e t : TypeId} {bytes : Nat} {z : Value}
    (KD : Kind P e enc z sz bytes) (hg : o.guard = none) (s x : Operand) (hop : o.op = Op.call { callee := Callee.builtin Builtin.append, args := #[s, x], argTypes := #[t, t] }) (ht : P.underlying t = some (.slice e))
    {B : Nat} {v : Value} {xo : Option Addr} {n c : Nat} {l m : List α} (hs : a.eval s = v) (hx : a.eval x = .slice xo n c) (hxo : xo ≠ none) (hown : OwnK e enc sz B w v l) (hsrc : HoldsK enc sz w (.slice xo n c) m) (hlen : (l.length + m.length) * bytes ≤ 140737488355328) (hmx : l.length + m.length ≤ maxLen) (hB : B ≤ w.heap.size)
    (hK : ∀ v' w', OwnK e enc sz B w' v' (l ++ m) → w.grownBy w' v.ownBlock → K (a.put o.dst v') w') :
    if Region.wanted o (yielded ops a.tmps) = true then Oper.wp P o a w K Q else E := by
  cases xo with
  | none => exact absurd rfl hxo
  | some ad => exact step_appK KD hg s x hop ht hs hx hown hsrc hlen hmx hB hK
theorem step_appKv {P : Program} {ops : Array Oper} {o : Oper} {a : Act} {w : World} {K : Act → World → Prop} {Q : Exit → Act → World → Prop} {E : Prop} {α : Type} {enc : α → List Value} {sz : Nat} {e t : TypeId} {bytes : Nat} {z : Value}
    (KD : Kind P e enc z sz bytes) (hg : o.guard = none) (s x : Operand) (hop : o.op = Op.call { callee := Callee.builtin Builtin.append, args := #[s, x], argTypes := #[t, t] }) (ht : P.underlying t = some (.slice e))
    {B : Nat} {v vx : Value} {l m : List α} (hs : a.eval s = v) (hx : a.eval x = vx) (hown : OwnK e enc sz B w v l) (hsrc : HoldsK enc sz w vx m) (hlen : (l.length + m.length) * bytes ≤ 140737488355328) (hmx : l.length + m.length ≤ maxLen) (hB : B ≤ w.heap.size)
    (hK : ∀ v' w', OwnK e enc sz B w' v' (l ++ m) → w.grownBy w' v.ownBlock → K (a.put o.dst v') w') :
    if Region.wanted o (yielded ops a.tmps) = true then Oper.wp P o a w K Q else E := by
  obtain ⟨ao, cap, rfl, hcap, hc⟩ := hsrc
  have hsrc : HoldsK enc sz w (.slice ao m.length cap) m := ⟨ao, cap, rfl, hcap, hc⟩
  cases ao with
  | some ad => exact step_appK KD hg s x hop ht hs hx hown hsrc hlen hmx hB hK
  | none =>
    rcases hc with rfl | ⟨b, off, hc, _⟩
    · obtain ⟨i, h1, h2, h3, h4⟩ := info_parts KD.elem
      have hw : Region.wanted o (yielded ops a.tmps) = true := by simp [Region.wanted, hg]
      rw [if_pos hw]
      have hrun : (Builtin.append_ #[t, t] o.type #[v, .slice none 0 cap]).run P w = .ok v w := by
        rcases hown.2 with ⟨rfl, hn⟩ | ⟨g, cap', cur, rfl, _, _, hnc, _⟩
        · simp [Builtin.append_, run_underlying ht, sizeOf, typeInfo, h1, Builtin.lenOf, Builtin.firstCells]
        · simp [Builtin.append_, run_underlying ht, sizeOf, typeInfo, h1, Builtin.lenOf, Builtin.firstCells, hnc, storeCells]
      have hx' : a.eval x = .slice none 0 cap := by simpa using hx
      unfold Oper.wp
      simp [execOp, hop, resolve, invoke, builtin, hs, hx', hrun, Result.andThen]
      exact hK v w (by simpa using hown) (World.grownBy.refl _ _)
    · cases hc
end Go.Proofs.Ytjphnlkdbhcblaa.Row
/- Copies: what they need. No conditions. -/
namespace Go.Proofs.Ytjphnlkdbhcblaa.Row
open Go.ChangeShapes Go.WideShapes Go.ChangeAt Go.RowKit Go.Instr
set_option linter.unusedVariables false
set_option maxRecDepth 100000
theorem one_k {α M : Type} {k : Kd α M} (hs : Sz k.cells k.size) {e : TypeId} {W : World} {m : M} {cs : List Value} (hd : k.cells m = cs) : HoldsK k.cells k.size (W.alloc (.cells cs.toArray e)) (.slice (some ⟨W.heap.size, 0, none⟩) 1 1) [m] := by
  subst hd
  exact holdsK_one hs e W m
theorem one_kg {α M : Type} {k : Kd α M} (hs : Sz k.cells k.size) {e : TypeId} {W : World} {m : M} {cs : List Value} {g : Nat} (hd : k.cells m = cs) (hg : g = W.heap.size) : HoldsK k.cells k.size (W.alloc (.cells cs.toArray e)) (.slice (some ⟨g, 0, none⟩) 1 1) [m] := by
  subst hg
  exact one_k hs hd
theorem Kd.Own.top {α M : Type} {k : Kd α M} {B E : Nat} {w : World} {m : M} (h : k.Own B E w m) : ∀ g ∈ k.blocks m, g < w.heap.size := fun g hg => (h.lt g hg).2.2
theorem Kd.Own.cap {α M : Type} {k : Kd α M} {B E : Nat} {w : World} {m : M} (h : k.Own B E w m) : k.Own B w.heap.size w m := ⟨h.1, h.2.1, fun g hg => (h.lt g hg).2.2⟩
theorem pi_join {B E E' : Nat} {w : World} {m1 : Rw ByteArray} {m2 : Rw Rqm} {u : Int} (h : kN.Own B E w m1) (g : kLRq.Own B E' w m2) (hd : ∀ q ∈ kN.blocks m1, q ∉ kLRq.blocks m2) (N : Nat) (h1 : ∀ g ∈ kN.blocks m1, g < N) (h2 : ∀ g ∈ kLRq.blocks m2, g < N) : kPi.Own B N w ((m1, m2, u) : Pim) := by
  have hn : kN.Own B N w m1 := ⟨h.1, h.2.1, h1⟩
  have hq : kLRq.Own B N w m2 := ⟨g.1, g.2.1, h2⟩
  have hr : (kLRq.pair kInt).Own B N w (m2, u) := Kd.Own.join hq (Kd.own_scalar _ _ _ _) (fun q _ h => by cases h)
  refine Kd.Own.join hn hr (fun q hq1 hq2 => ?_)
  rcases List.mem_append.1 (show q ∈ kLRq.blocks m2 ++ kInt.blocks u from hq2) with h | h
  · exact hd q hq1 h
  · cases h
theorem sn_join {B E : Nat} {w : World} {m1 : Rw ByteArray} {u : Int} (h : kN.Own B E w m1) (N : Nat) (h1 : ∀ g ∈ kN.blocks m1, g < N) : kSn.Own B N w ((m1, u) : Snm) := by
  have hn : kN.Own B N w m1 := ⟨h.1, h.2.1, h1⟩
  exact Kd.Own.join hn (Kd.own_scalar _ _ _ _) (fun q _ h => by cases h)
theorem kN_splitP {B E : Nat} {w : World} {V : Value} {x : List ByteArray} (h : kN.In B E w V x) : ∃ (m1 : Rw ByteArray) (ya : Option Addr) (ma da : Nat), V = .agg #[.slice ya ma da] ∧ kN.strip m1 = x ∧ kN.cells m1 = [.slice ya ma da] ∧ kN.Own B E w m1 := by
  obtain ⟨m1, rfl, rfl, ho⟩ := h.split
  obtain ⟨ya, ma, da, e, -⟩ := kN_shapeA (Kd.at_of (k := kN) ho.holds)
  exact ⟨m1, ya, ma, da, e, rfl, by injection e with e; exact congrArg Array.toList e, ho⟩
theorem rq_map (L : List Rqm) : L.map kRq.strip = L := by
  rw [show kRq.strip = id from rfl]
  exact List.map_id L
theorem kLRq_own {B E : Nat} {w : World} {x : Option Addr} {n c : Nat} {L : List Rqm} (h : OwnK 91 kRq.cells 3 B w (.slice x n c) L) (hE : w.heap.size ≤ E) : kLRq.Own B E w ⟨x, n, c, L⟩ := by
  have hb : kLRq.blocks ⟨x, n, c, L⟩ = (Value.slice x n c).ownBlock.toList := by
    show (Value.slice x n c).ownBlock.toList ++ L.flatMap kRq.blocks = _
    have : L.flatMap kRq.blocks = [] := by
      rw [List.flatMap_eq_nil_iff]; intro y _; rfl
    rw [this, List.append_nil]
  refine ⟨⟨h, fun y _ => ⟨trivial, trivial, trivial⟩⟩, ?_, ?_⟩
  · rw [hb]; cases (Value.slice x n c).ownBlock <;> simp
  · rw [hb]
    intro g hg
    have := (h.lt g (by simpa using hg)).2
    omega
set_option maxHeartbeats 2000000 in
theorem iClnQ (V : Value) (l : List Rqt) (w : World) (h : kLRq.At w V l) (hl : l.length ≤ 9000000) :
    Calls Try.prog 126 #[V] w fun e w' => ∃ U, e = .returned U ∧ kLRq.In w.heap.size w'.heap.size w' U l ∧ Below w.heap.size w w' := by
  obtain ⟨x, n, c, L, rfl, hn, ht, hh, hel⟩ := kLRq_at h
  have hlen : l.length = L.length := by rw [← ht, List.length_map]
  have hL9 : L.length ≤ 9000000 := by omega
  have HT := Lib.hid ht
  subst hn
  cases x with
  | none =>
    have hl0 : L = [] := by
      obtain ⟨x', cap', hv, hc', hh'⟩ := hh
      cases hv
      rcases hh' with h1 | ⟨b, off, h1, _⟩
      · exact h1
      · cases h1
    subst hl0
    have hq : ∀ w : World, (binOp .eql 68 (.slice none 0 c) (.slice none 0 0)).run Try.prog w = .ok (.bool true) w := fun w => by
      exact Lib.run_eql_slice_nil w _ _ _ _ _ _ _ Try.underlying68
    clear hh h hel ht hlen
    simp only [List.length_nil]
    go_enter Try.func126, Try.ntmps126
    go_wp2
    go_ret
    exact ⟨_, rfl, HT.out ▸ (kLRq_own (OwnK.nil _ _ _ _ _) (Nat.le_refl _)).in, Below.refl _ _⟩
  | some ad =>
    have HB := Lib.hid ((Below.refl w.heap.size w).alloc (Nat.le_refl _) (.cells #[] 91))
    have HH := Lib.hid (hh.on HB.out)
    have HO := Lib.hid (ownK_empty kRq.cells 3 91 w)
    have hq : ∀ w : World, (binOp .eql 68 (.slice (some ad) L.length c) (.slice none 0 0)).run Try.prog w = .ok (.bool false) w := fun w => by
      exact Lib.run_eql_slice_nil w _ _ _ _ _ _ _ Try.underlying68
    clear hh h hel ht hlen
    go_enter Try.func126, Try.ntmps126
    go_wp2_with (at_builtin; refine wpList_appK kindRq (B := w.heap.size) (l := []) (m := L) rfl _ _ rfl Try.underlying68 rfl rfl HO.out HH.out (by simp; omega) (by unfold maxLen; simp; omega) (by simp) ?_)
    intro v2 w2 ho hg
    obtain ⟨x2, n2, c2, rfl, -, -, ho⟩ := ho.shapeN
    have HO2 := Lib.hid ho; have HB2 := Lib.hid (HB.out.grown hg (by simp) (fun g hh => (HO.out.lt g hh).1))
    clear ho hg
    go_wp2_with fail
    go_ret
    exact ⟨_, rfl, HT.out ▸ (kLRq_own HO2.out (Nat.le_refl _)).in, HB2.out⟩
end Go.Proofs.Ytjphnlkdbhcblaa.Row
/- Copies: the regions that append one element. No conditions but that lengths fit. -/
namespace Go.Proofs.Ytjphnlkdbhcblaa.Row
open Go.ChangeShapes Go.WideShapes Go.ChangeAt Go.RowKit Go.Instr
set_option linter.unusedVariables false
set_option maxRecDepth 100000
set_option maxRecDepth 100000 in
set_option maxHeartbeats 4000000 in
theorem rcp {Q : Exit → Act → World → Prop} {v0 v1 v2 v4 v6 v7 v8 v9 v10 v11 v12 v13 v14 v15 v16 v17 v18 v19 v20 v21 v22 v23 v24 v25 v26 v27 v28 : Value} {w : World} {Lu : List Pim} {B nu cu : Nat} {xu : Option Addr} (HBW : Hid (B ≤ w.heap.size)) (HLM : Hid (Lu.length ≤ 1100000)) {p n0 c0 n1 c1 : Nat} {x0 x1 : Option Addr} {ls : Int} {nm : List ByteArray} {rq : List Rqt} (HOL : Hid (kLPi.Own B w.heap.size w ⟨xu, nu, cu, Lu⟩)) (HPR : Hid (some p ≠ (Value.slice xu nu cu).ownBlock)) (H_n : Hid (kN.At w (.agg #[.slice x0 n0 c0]) nm)) (H_q : Hid (kLRq.At w (.slice x1 n1 c1) rq)) (HNB : Hid (bulk nm ≤ 1200000)) (HRB : Hid (rq.length ≤ 1200000)) (K0 : Hid (w.cell? ⟨p, 0, none⟩ = some (.slice x0 n0 c0))) (K1 : Hid (w.cell? ⟨p, 1, none⟩ = some (.slice x1 n1 c1))) (K2 : Hid (w.cell? ⟨p, 2, none⟩ = some (.int .i64 ls)))
  (hQ : ∀ (u15 u16 u17 u18 u19 u20 u21 u22 u23 u24 u25 u26 : Value) (x4 : Option Addr) (n4 c4 : Nat) (mm : Pim)  (wx : World), Hid (kPi.strip mm = (nm, rq, ls)) → Hid (kLPi.Own B wx.heap.size wx ⟨x4, n4, c4, Lu ++ [mm]⟩) → Below B w wx → Q .normal ⟨#[v0, v1, v2, .slice x4 n4 c4, v4, .pointer (some ⟨p, 0, none⟩), v6, v7, v8, v9, v10, v11, v12, v13, v14, u15, u16, u17, u18, u19, u20, u21, u22, u23, u24, u25, u26, v27, v28], []⟩ wx) :
  (Code.region 5 #[⟨some 15, .move (.tmp 3), 35, "l13_pend.go:146", #[], none⟩,
   ⟨some 16, .fieldAddr 101 (.tmp 5) 0, 0, "l13_pend.go:146", #[], none⟩,
   ⟨some 17, .load 27 (.tmp 16), 27, "l13_pend.go:146", #[⟨1, .data⟩], none⟩,
   ⟨some 18, .call ⟨.value (.func 95), #[.tmp 17], #[27]⟩, 27, "l13_pend.go:146", #[⟨2, .data⟩], none⟩,
   ⟨some 19, .fieldAddr 101 (.tmp 5) 1, 0, "l13_pend.go:146", #[], none⟩,
   ⟨some 20, .load 68 (.tmp 19), 68, "l13_pend.go:146", #[⟨4, .data⟩], none⟩,
   ⟨some 21, .call ⟨.value (.func 126), #[.tmp 20], #[68]⟩, 68, "l13_pend.go:146", #[⟨5, .data⟩, ⟨3, .chain⟩], none⟩,
   ⟨some 22, .fieldAddr 101 (.tmp 5) 2, 0, "l13_pend.go:146", #[], none⟩,
   ⟨some 23, .load 3 (.tmp 22), 3, "l13_pend.go:146", #[⟨7, .data⟩], none⟩,
   ⟨some 24, .build 101 #[(0, .tmp 18), (1, .tmp 21), (2, .tmp 23)], 101, "l13_pend.go:146", #[⟨3, .data⟩, ⟨6, .data⟩, ⟨8, .data⟩], none⟩,
   ⟨some 25, .buildSlice 35 1 #[(0, .tmp 24)], 35, "l13_pend.go:146", #[⟨9, .data⟩], none⟩,
   ⟨some 26, .call ⟨.builtin .append, #[.tmp 15, .tmp 25], #[35, 35]⟩, 35, "l13_pend.go:146", #[⟨0, .data⟩, ⟨10, .data⟩, ⟨6, .chain⟩], none⟩,
   ⟨some 3, .assign (.tmp 26), 35, "l13_pend.go:146", #[⟨11, .data⟩, ⟨11, .chain⟩, ⟨0, .phase⟩, ⟨1, .phase⟩, ⟨2, .phase⟩, ⟨3, .phase⟩, ⟨4, .phase⟩, ⟨5, .phase⟩, ⟨6, .phase⟩, ⟨7, .phase⟩, ⟨8, .phase⟩, ⟨9, .phase⟩, ⟨10, .phase⟩, ⟨11, .phase⟩], none⟩] true).wp Try.prog Q ⟨#[v0, v1, v2, .slice xu nu cu, v4, .pointer (some ⟨p, 0, none⟩), v6, v7, v8, v9, v10, v11, v12, v13, v14, v15, v16, v17, v18, v19, v20, v21, v22, v23, v24, v25, v26, v27, v28], []⟩ w := by
 have HQ := Lib.hid hQ; clear hQ
 have hdr : Below w.heap.size w w.drew := (Below.refl _ _).drew
 have BB := Lib.hid hdr
 have BX := Lib.hid (BB.out.mono HBW.out)
 refine wp_region_noPanic ?_
 refine wp_region_held_drew (S := (fun w' => w'.cell? ⟨p, 0, none⟩ = some (.slice x0 n0 c0) ∧ w'.cell? ⟨p, 1, none⟩ = some (.slice x1 n1 c1) ∧ w'.cell? ⟨p, 2, none⟩ = some (.int .i64 ls))) (by kernel_rfl) ?_ (fun hHeld => ?_)
 ·
  exact ⟨kc K0.out BB.out, kc K1.out BB.out, kc K2.out BB.out⟩
 clear hdr
 generalize w.drew = wd at *
 refine wpAnyH_take (i := 0) (oi := ⟨some 15, .move (.tmp 3), 35, "l13_pend.go:146", #[], none⟩) (v := ?_) rfl (by kernel_rfl) (by kernel_rfl) (by kernel_rfl) (fun _ _ _ h => h) (Or.inl ⟨by rfl, ?_⟩) (by assumption) ?_
 rotate_left
 ·
  intro w' hSw; (try dsimp only at hSw); first | (go_simp; done) | (go_simp; with_reducible rfl)
 (try simp only [Act.put, Row.pB0, Row.pB1, Row.pB2])
 refine wpAnyH_take (i := 1) (oi := ⟨some 16, .fieldAddr 101 (.tmp 5) 0, 0, "l13_pend.go:146", #[], none⟩) (v := ?_) rfl (by kernel_rfl) (by kernel_rfl) (by kernel_rfl) (fun _ _ _ h => h) (Or.inl ⟨by rfl, ?_⟩) (by assumption) ?_
 rotate_left
 ·
  intro w' hSw; (try dsimp only at hSw); first | (go_simp; done) | (go_simp; with_reducible rfl)
 (try simp only [Act.put, Row.pB0, Row.pB1, Row.pB2])
 refine wpAnyH_take (i := 2) (oi := ⟨some 17, .load 27 (.tmp 16), 27, "l13_pend.go:146", #[⟨1, .data⟩], none⟩) (v := ?_) rfl (by kernel_rfl) (by kernel_rfl) (by kernel_rfl) (fun _ _ _ h => h) (Or.inl ⟨by rfl, ?_⟩) (by assumption) ?_
 rotate_left
 ·
  intro w' hSw; (try dsimp only at hSw); first | (go_simp; done) | (go_simp; with_reducible rfl)
 (try simp only [Act.put, Row.pB0, Row.pB1, Row.pB2])
 refine wpAnyH_take (i := 4) (oi := ⟨some 19, .fieldAddr 101 (.tmp 5) 1, 0, "l13_pend.go:146", #[], none⟩) (v := ?_) rfl (by kernel_rfl) (by kernel_rfl) (by kernel_rfl) (fun _ _ _ h => h) (Or.inl ⟨by rfl, ?_⟩) (by assumption) ?_
 rotate_left
 ·
  intro w' hSw; (try dsimp only at hSw); first | (go_simp; done) | (go_simp; with_reducible rfl)
 (try simp only [Act.put, Row.pB0, Row.pB1, Row.pB2])
 refine wpAnyH_take (i := 5) (oi := ⟨some 20, .load 68 (.tmp 19), 68, "l13_pend.go:146", #[⟨4, .data⟩], none⟩) (v := ?_) rfl (by kernel_rfl) (by kernel_rfl) (by kernel_rfl) (fun _ _ _ h => h) (Or.inl ⟨by rfl, ?_⟩) (by assumption) ?_
 rotate_left
 ·
  intro w' hSw; (try dsimp only at hSw); first | (go_simp; done) | (go_simp; with_reducible rfl)
 (try simp only [Act.put, Row.pB0, Row.pB1, Row.pB2])
 refine wpAnyH_take (i := 7) (oi := ⟨some 22, .fieldAddr 101 (.tmp 5) 2, 0, "l13_pend.go:146", #[], none⟩) (v := ?_) rfl (by kernel_rfl) (by kernel_rfl) (by kernel_rfl) (fun _ _ _ h => h) (Or.inl ⟨by rfl, ?_⟩) (by assumption) ?_
 rotate_left
 ·
  intro w' hSw; (try dsimp only at hSw); first | (go_simp; done) | (go_simp; with_reducible rfl)
 (try simp only [Act.put, Row.pB0, Row.pB1, Row.pB2])
 refine wpAnyH_take (i := 8) (oi := ⟨some 23, .load 3 (.tmp 22), 3, "l13_pend.go:146", #[⟨7, .data⟩], none⟩) (v := ?_) rfl (by kernel_rfl) (by kernel_rfl) (by kernel_rfl) (fun _ _ _ h => h) (Or.inl ⟨by rfl, ?_⟩) (by assumption) ?_
 rotate_left
 ·
  intro w' hSw; (try dsimp only at hSw); first | (go_simp; done) | (go_simp; with_reducible rfl)
 (try simp only [Act.put, Row.pB0, Row.pB1, Row.pB2])
 refine wpAnyH_ready (rs := [3]) (by kernel_rfl) (by simp) ?_
 refine AllReadyH.cons (o := ⟨some 18, .call ⟨.value (.func 95), #[.tmp 17], #[27]⟩, 27, "l13_pend.go:146", #[⟨2, .data⟩], none⟩) rfl (fun K hK => ?_) AllReadyH.nil
 go_simp
 refine (iCpyN (H_n.out.on BB.out) (Nat.le_trans HNB.out (by decide))).mono ?_
 rintro e wn1 ⟨U1, rfl, hi, hb⟩
 obtain ⟨m1, rfl, hs1, hi⟩ := hi.split
 obtain ⟨ya, ma, da, e1, -⟩ := kN_shapeA (Kd.at_of (k := kN) hi.holds)
 have hd1 : kN.cells m1 = [.slice ya ma da] := by injection e1 with e; exact congrArg Array.toList e
 rw [e1]
 (first | have HDJ := Lib.hid (show ∀ g ∈ kN.blocks m1, g ∉ kLRq.blocks m2 from fun g h1 h2 => by have h5 := (hi.lt g h1).1; have h6 := (OQ.out.lt g h2).2.2; omega) | skip)
 have ON := Lib.hid (hi.mono BB.out.size (Nat.le_refl _)); have HS1 := Lib.hid hs1; have HD1 := Lib.hid hd1
 clear hi hs1 hd1 e1
 replace BB := Lib.hid (BB.out.trans (hb.mono BB.out.size))
 replace BX := Lib.hid (BX.out.trans (hb.mono (Nat.le_trans HBW.out BX.out.size)))
 clear hb
 (try go_wp2_with fail)
 clear hHeld
 refine hK.out _ _ ?_ (fun hHeld => ?_)
 ·
  (try dsimp only); exact ⟨kc K0.out BB.out, kc K1.out BB.out, kc K2.out BB.out⟩
 clear hK K
 (try simp only [Act.put, Row.pB0, Row.pB1, Row.pB2])
 refine wpAnyH_ready (rs := [6]) (by kernel_rfl) (by simp) ?_
 refine AllReadyH.cons (o := ⟨some 21, .call ⟨.value (.func 126), #[.tmp 20], #[68]⟩, 68, "l13_pend.go:146", #[⟨5, .data⟩, ⟨3, .chain⟩], none⟩) rfl (fun K hK => ?_) AllReadyH.nil
 go_simp
 refine (iClnQ _ rq _ (H_q.out.on BB.out) (Nat.le_trans HRB.out (by decide))).mono ?_
 rintro e wn2 ⟨U2, rfl, hi, hb⟩
 obtain ⟨m2, rfl, hs2, hi⟩ := hi.split
 obtain ⟨yb, mb, db, e2, -⟩ := kLRq_shapeA (Kd.at_of (k := kLRq) hi.holds)
 have hd2 : kLRq.cells m2 = [.slice yb mb db] := by show [kLRq.val m2] = _; rw [e2]
 rw [e2]
 (first | have HDJ := Lib.hid (show ∀ g ∈ kN.blocks m1, g ∉ kLRq.blocks m2 from fun g h1 h2 => by have h5 := (hi.lt g h2).1; have h6 := (ON.out.lt g h1).2.2; omega) | skip)
 have OQ := Lib.hid (hi.mono BB.out.size (Nat.le_refl _)); have HS2 := Lib.hid hs2; have HD2 := Lib.hid hd2
 clear hi hs2 hd2 e2
 replace ON := Lib.hid (ON.out.on hb)
 replace BB := Lib.hid (BB.out.trans (hb.mono BB.out.size))
 replace BX := Lib.hid (BX.out.trans (hb.mono (Nat.le_trans HBW.out BX.out.size)))
 clear hb
 (try go_wp2_with fail)
 clear hHeld
 refine hK.out _ _ ?_ (fun hHeld => ?_)
 ·
  (try dsimp only); exact ⟨kc K0.out BB.out, kc K1.out BB.out, kc K2.out BB.out⟩
 clear hK K
 (try simp only [Act.put, Row.pB0, Row.pB1, Row.pB2])
 refine wpAnyH_take (i := 9) (oi := ⟨some 24, .build 101 #[(0, .tmp 18), (1, .tmp 21), (2, .tmp 23)], 101, "l13_pend.go:146", #[⟨3, .data⟩, ⟨6, .data⟩, ⟨8, .data⟩], none⟩) (v := ?_) rfl (by kernel_rfl) (by kernel_rfl) (by kernel_rfl) (fun _ _ _ h => h) (Or.inl ⟨by rfl, ?_⟩) (by assumption) ?_
 rotate_left
 ·
  intro w' hSw; (try dsimp only at hSw); first | (go_simp; done) | (go_simp; with_reducible rfl)
 (try simp only [Act.put, Row.pB0, Row.pB1, Row.pB2])
 refine wpAnyH_ready (rs := [10]) (by kernel_rfl) (by simp) ?_
 refine AllReadyH.cons (o := ⟨some 25, .buildSlice 35 1 #[(0, .tmp 24)], 35, "l13_pend.go:146", #[⟨9, .data⟩], none⟩) rfl (fun K hK => ?_) AllReadyH.nil
 go_simp
 have hb : Below wn2.heap.size wn2 (wn2.alloc (.cells #[.slice ya ma da, .slice yb mb db, .int .i64 (ls)] 101)) := (Below.refl _ _).alloc (Nat.le_refl _) _
 have HSO := Lib.hid (one_k (k := kPi) szPi_cells (e := 101) (W := wn2) (m := ((m1, m2, ls) : Pim)) (cs := [.slice ya ma da, .slice yb mb db, .int .i64 (ls)]) (by show kN.cells m1 ++ (kLRq.cells m2 ++ kInt.cells (ls)) = _; rw [HD1.out, HD2.out]; rfl))
 have HMM := Lib.hid ((pi_join (u := ls) ON.out OQ.out HDJ.out wn2.heap.size ON.out.top OQ.out.top).on hb)
 replace ON := Lib.hid (ON.out.on hb)
 replace OQ := Lib.hid (OQ.out.on hb)
 replace BB := Lib.hid (BB.out.trans (hb.mono BB.out.size))
 replace BX := Lib.hid (BX.out.trans (hb.mono (Nat.le_trans HBW.out BX.out.size)))
 clear hb
 generalize wn2.alloc (.cells #[.slice ya ma da, .slice yb mb db, .int .i64 (ls)] 101) = wn3 at *
 clear hHeld
 refine hK.out _ _ ?_ (fun hHeld => ?_)
 ·
  (try dsimp only); exact ⟨kc K0.out BB.out, kc K1.out BB.out, kc K2.out BB.out⟩
 clear hK K
 (try simp only [Act.put, Row.pB0, Row.pB1, Row.pB2])
 refine wpAnyH_ready (rs := [11]) (by kernel_rfl) (by simp) ?_
 refine AllReadyH.cons (o := ⟨some 26, .call ⟨.builtin .append, #[.tmp 15, .tmp 25], #[35, 35]⟩, 35, "l13_pend.go:146", #[⟨0, .data⟩, ⟨10, .data⟩, ⟨6, .chain⟩], none⟩) rfl (fun K hK => ?_) AllReadyH.nil
 refine step_appK kindPi (B := B) (v := .slice xu nu cu) (l := Lu) (m := [((m1, m2, ls) : Pim)]) rfl _ _ (by rfl) Try.underlying35 (by rfl) (by rfl) ?_ ?_ ?_ ?_ ?_ ?_
 ·
  exact (HOL.out.on BB.out).1.1
 ·
  exact HSO.out
 ·
  have h5 := HLM.out; simp; omega
 ·
  have h5 := HLM.out; unfold maxLen; simp; omega
 ·
  exact Nat.le_trans HBW.out BB.out.size
 intro v4 wn4 ho4 hg4
 obtain ⟨x4, n4, c4, rfl, -, -, ho4⟩ := ho4.shapeN
 have HO4 := Lib.hid (Kd.push_later noRow_kPi (r := ⟨xu, nu, cu, Lu⟩) (HOL.out.on BB.out) HMM.out HBW.out ho4 hg4)
 replace BX := Lib.hid (BX.out.grown hg4 (Nat.le_trans HBW.out BX.out.size) (fun g e => ((HOL.out.on BB.out).1.1.lt g e).1))
 have k0_ := hg4.cell (kc K0.out BB.out) HPR.out
 have k1_ := hg4.cell (kc K1.out BB.out) HPR.out
 have k2_ := hg4.cell (kc K2.out BB.out) HPR.out
 clear ho4 hg4
 clear hHeld
 refine hK.out _ _ ?_ (fun hHeld => ?_)
 ·
  (try dsimp only); exact ⟨k0_, k1_, k2_⟩
 clear hK K k0_ k1_ k2_
 (try simp only [Act.put, Row.pB0, Row.pB1, Row.pB2])
 refine wpAnyH_take (i := 12) (oi := ⟨some 3, .assign (.tmp 26), 35, "l13_pend.go:146", #[⟨11, .data⟩, ⟨11, .chain⟩, ⟨0, .phase⟩, ⟨1, .phase⟩, ⟨2, .phase⟩, ⟨3, .phase⟩, ⟨4, .phase⟩, ⟨5, .phase⟩, ⟨6, .phase⟩, ⟨7, .phase⟩, ⟨8, .phase⟩, ⟨9, .phase⟩, ⟨10, .phase⟩, ⟨11, .phase⟩], none⟩) (v := ?_) rfl (by kernel_rfl) (by kernel_rfl) (by kernel_rfl) (fun _ _ _ h => h) (Or.inl ⟨by rfl, ?_⟩) (by assumption) ?_
 rotate_left
 ·
  intro w' hSw; (try dsimp only at hSw); first | (go_simp; done) | (go_simp; with_reducible rfl)
 (try simp only [Act.put, Row.pB0, Row.pB1, Row.pB2])
 refine wpAnyH_done (by kernel_rfl) ?_ _
 exact NoPanic.normal (HQ.out _ _ _ _ _ _ _ _ _ _ _ _ x4 n4 c4 (m1, m2, ls) _ (Lib.hid (by show (kN.strip m1, kLRq.strip m2, ls) = _; rw [HS1.out, HS2.out])) HO4 BX.out)
set_option maxRecDepth 100000 in
set_option maxHeartbeats 4000000 in
theorem rcm {Q : Exit → Act → World → Prop} {v1 v2 v6 v7 v8 v9 v10 v11 v12 v13 v14 v15 v16 v17 v18 v19 v20 v21 v22 v23 v24 v25 v26 v27 v28 v29 v30 v31 v32 v33 v34 v35 v36 : Value} {w : World} {Lu : List Pim} {B nu cu : Nat} {xu : Option Addr} (HBW : Hid (B ≤ w.heap.size)) (HLM : Hid (Lu.length ≤ 1100000)) {p b off n c k n0 c0 n1 c1 E1 C1 : Nat} {x0 x1 : Option Addr} {ls : Int} {nm : List ByteArray} {m1 : Rw ByteArray} {rq : List Rqt} (hk : k < n) (hkc : k ≤ c) (hn : n ≤ 9000000) (HOL : Hid (kLPi.Own B C1 w ⟨xu, nu, cu, Lu⟩)) (HC0 : Hid (B ≤ C1)) (HC1 : Hid (C1 ≤ w.heap.size)) (HPR : Hid (some p ≠ (Value.slice xu nu cu).ownBlock)) (HBR : Hid (some b ≠ (Value.slice xu nu cu).ownBlock)) (ON : Hid (kN.Own C1 E1 w m1)) (HS1 : Hid (kN.strip m1 = nm)) (HD1 : Hid (kN.cells m1 = [.slice x0 n0 c0])) (H_q : Hid (HoldsK kRq.cells 3 w (.slice x1 n1 c1) rq)) (HRB : Hid (rq.length ≤ 1200000)) (K0 : Hid (w.cell? ⟨p, 0, none⟩ = some (.slice x0 n0 c0))) (K1 : Hid (w.cell? ⟨b, off + k * 3 + 1, none⟩ = some (.slice x1 n1 c1))) (K2 : Hid (w.cell? ⟨b, off + k * 3 + 2, none⟩ = some (.int .i64 ls)))
  (hQ : ∀ (u19 u20 u21 u22 u23 u24 u25 u26 u27 u28 u29 u30 u31 u32 u33 u34 u35 : Value) (x4 : Option Addr) (n4 c4 : Nat) (mm : Pim)  (wx : World), Hid (kPi.strip mm = (nm, rq, ls)) → Hid (kLPi.Own B wx.heap.size wx ⟨x4, n4, c4, Lu ++ [mm]⟩) → Below B w wx → Q .normal ⟨#[.slice (some ⟨b, off, none⟩) n c, v1, v2, .slice x4 n4 c4, .int .i64 k, .pointer (some ⟨p, 0, none⟩), v6, v7, v8, v9, v10, v11, v12, v13, v14, v15, v16, v17, v18, u19, u20, u21, u22, u23, u24, u25, u26, u27, u28, u29, u30, u31, u32, u33, u34, u35, v36], []⟩ wx) :
  (Code.region 6 #[⟨some 19, .move (.tmp 3), 35, "l13_pend.go:36", #[], none⟩,
   ⟨some 20, .load 27 (.tmp 5), 27, "l13_pend.go:36", #[], none⟩,
   ⟨some 21, .buildSlice 68 0 #[], 68, "l13_pend.go:36", #[], none⟩,
   ⟨some 22, .move (.tmp 0), 35, "l13_pend.go:36", #[], none⟩,
   ⟨some 23, .move (.tmp 4), 3, "l13_pend.go:36", #[], none⟩,
   ⟨some 24, .indexAddr 35 (.tmp 22) (.tmp 23), 0, "l13_pend.go:36", #[⟨3, .data⟩, ⟨4, .data⟩], none⟩,
   ⟨some 25, .fieldAddr 101 (.tmp 24) 1, 0, "l13_pend.go:36", #[⟨5, .data⟩], none⟩,
   ⟨some 26, .load 68 (.tmp 25), 68, "l13_pend.go:36", #[⟨6, .data⟩], none⟩,
   ⟨some 27, .call ⟨.builtin .append, #[.tmp 21, .tmp 26], #[68, 68]⟩, 68, "l13_pend.go:36", #[⟨2, .data⟩, ⟨7, .data⟩], none⟩,
   ⟨some 28, .move (.tmp 0), 35, "l13_pend.go:36", #[], none⟩,
   ⟨some 29, .move (.tmp 4), 3, "l13_pend.go:36", #[], none⟩,
   ⟨some 30, .indexAddr 35 (.tmp 28) (.tmp 29), 0, "l13_pend.go:36", #[⟨9, .data⟩, ⟨10, .data⟩], none⟩,
   ⟨some 31, .fieldAddr 101 (.tmp 30) 2, 0, "l13_pend.go:36", #[⟨11, .data⟩], none⟩,
   ⟨some 32, .load 3 (.tmp 31), 3, "l13_pend.go:36", #[⟨12, .data⟩], none⟩,
   ⟨some 33, .build 101 #[(0, .tmp 20), (1, .tmp 27), (2, .tmp 32)], 101, "l13_pend.go:36", #[⟨1, .data⟩, ⟨8, .data⟩, ⟨13, .data⟩], none⟩,
   ⟨some 34, .buildSlice 35 1 #[(0, .tmp 33)], 35, "l13_pend.go:36", #[⟨14, .data⟩], none⟩,
   ⟨some 35, .call ⟨.builtin .append, #[.tmp 19, .tmp 34], #[35, 35]⟩, 35, "l13_pend.go:36", #[⟨0, .data⟩, ⟨15, .data⟩, ⟨8, .chain⟩], none⟩,
   ⟨some 3, .assign (.tmp 35), 35, "l13_pend.go:36", #[⟨16, .data⟩, ⟨16, .chain⟩, ⟨0, .phase⟩, ⟨1, .phase⟩, ⟨2, .phase⟩, ⟨3, .phase⟩, ⟨4, .phase⟩, ⟨5, .phase⟩, ⟨6, .phase⟩, ⟨7, .phase⟩, ⟨8, .phase⟩, ⟨9, .phase⟩, ⟨10, .phase⟩, ⟨11, .phase⟩, ⟨12, .phase⟩, ⟨13, .phase⟩, ⟨14, .phase⟩, ⟨15, .phase⟩, ⟨16, .phase⟩], none⟩] true).wp Try.prog Q ⟨#[.slice (some ⟨b, off, none⟩) n c, v1, v2, .slice xu nu cu, .int .i64 k, .pointer (some ⟨p, 0, none⟩), v6, v7, v8, v9, v10, v11, v12, v13, v14, v15, v16, v17, v18, v19, v20, v21, v22, v23, v24, v25, v26, v27, v28, v29, v30, v31, v32, v33, v34, v35, v36], []⟩ w := by
 have HQ := Lib.hid hQ; clear hQ
 have hdr : Below w.heap.size w w.drew := (Below.refl _ _).drew
 have BB := Lib.hid hdr
 have BX := Lib.hid (BB.out.mono HBW.out)
 refine wp_region_noPanic ?_
 refine wp_region_held_drew (S := (fun w' => w'.cell? ⟨p, 0, none⟩ = some (.slice x0 n0 c0) ∧ w'.cell? ⟨b, off + k * 3 + 1, none⟩ = some (.slice x1 n1 c1) ∧ w'.cell? ⟨b, off + k * 3 + 2, none⟩ = some (.int .i64 ls))) (by kernel_rfl) ?_ (fun hHeld => ?_)
 ·
  exact ⟨kc K0.out BB.out, kc K1.out BB.out, kc K2.out BB.out⟩
 clear hdr
 generalize w.drew = wd at *
 refine wpAnyH_take (i := 0) (oi := ⟨some 19, .move (.tmp 3), 35, "l13_pend.go:36", #[], none⟩) (v := ?_) rfl (by kernel_rfl) (by kernel_rfl) (by kernel_rfl) (fun _ _ _ h => h) (Or.inl ⟨by rfl, ?_⟩) (by assumption) ?_
 rotate_left
 ·
  intro w' hSw; (try dsimp only at hSw); first | (go_simp; done) | (go_simp; with_reducible rfl)
 (try simp only [Act.put, Row.pB0, Row.pB1, Row.pB2])
 refine wpAnyH_take (i := 1) (oi := ⟨some 20, .load 27 (.tmp 5), 27, "l13_pend.go:36", #[], none⟩) (v := ?_) rfl (by kernel_rfl) (by kernel_rfl) (by kernel_rfl) (fun _ _ _ h => h) (Or.inl ⟨by rfl, ?_⟩) (by assumption) ?_
 rotate_left
 ·
  intro w' hSw; (try dsimp only at hSw); first | (go_simp; done) | (go_simp; with_reducible rfl)
 (try simp only [Act.put, Row.pB0, Row.pB1, Row.pB2])
 refine wpAnyH_take (i := 3) (oi := ⟨some 22, .move (.tmp 0), 35, "l13_pend.go:36", #[], none⟩) (v := ?_) rfl (by kernel_rfl) (by kernel_rfl) (by kernel_rfl) (fun _ _ _ h => h) (Or.inl ⟨by rfl, ?_⟩) (by assumption) ?_
 rotate_left
 ·
  intro w' hSw; (try dsimp only at hSw); first | (go_simp; done) | (go_simp; with_reducible rfl)
 (try simp only [Act.put, Row.pB0, Row.pB1, Row.pB2])
 refine wpAnyH_take (i := 4) (oi := ⟨some 23, .move (.tmp 4), 3, "l13_pend.go:36", #[], none⟩) (v := ?_) rfl (by kernel_rfl) (by kernel_rfl) (by kernel_rfl) (fun _ _ _ h => h) (Or.inl ⟨by rfl, ?_⟩) (by assumption) ?_
 rotate_left
 ·
  intro w' hSw; (try dsimp only at hSw); first | (go_simp; done) | (go_simp; with_reducible rfl)
 (try simp only [Act.put, Row.pB0, Row.pB1, Row.pB2])
 refine wpAnyH_take (i := 5) (oi := ⟨some 24, .indexAddr 35 (.tmp 22) (.tmp 23), 0, "l13_pend.go:36", #[⟨3, .data⟩, ⟨4, .data⟩], none⟩) (v := ?_) rfl (by kernel_rfl) (by kernel_rfl) (by kernel_rfl) (fun _ _ _ h => h) (Or.inl ⟨by rfl, ?_⟩) (by assumption) ?_
 rotate_left
 ·
  intro w' hSw; (try dsimp only at hSw); first | (go_simp; done) | (go_simp; with_reducible rfl)
 (try simp only [Act.put, Row.pB0, Row.pB1, Row.pB2])
 refine wpAnyH_take (i := 6) (oi := ⟨some 25, .fieldAddr 101 (.tmp 24) 1, 0, "l13_pend.go:36", #[⟨5, .data⟩], none⟩) (v := ?_) rfl (by kernel_rfl) (by kernel_rfl) (by kernel_rfl) (fun _ _ _ h => h) (Or.inl ⟨by rfl, ?_⟩) (by assumption) ?_
 rotate_left
 ·
  intro w' hSw; (try dsimp only at hSw); first | (go_simp; done) | (go_simp; with_reducible rfl)
 (try simp only [Act.put, Row.pB0, Row.pB1, Row.pB2])
 refine wpAnyH_take (i := 7) (oi := ⟨some 26, .load 68 (.tmp 25), 68, "l13_pend.go:36", #[⟨6, .data⟩], none⟩) (v := ?_) rfl (by kernel_rfl) (by kernel_rfl) (by kernel_rfl) (fun _ _ _ h => h) (Or.inl ⟨by rfl, ?_⟩) (by assumption) ?_
 rotate_left
 ·
  intro w' hSw; (try dsimp only at hSw); first | (go_simp; done) | (go_simp; with_reducible rfl)
 (try simp only [Act.put, Row.pB0, Row.pB1, Row.pB2])
 refine wpAnyH_take (i := 9) (oi := ⟨some 28, .move (.tmp 0), 35, "l13_pend.go:36", #[], none⟩) (v := ?_) rfl (by kernel_rfl) (by kernel_rfl) (by kernel_rfl) (fun _ _ _ h => h) (Or.inl ⟨by rfl, ?_⟩) (by assumption) ?_
 rotate_left
 ·
  intro w' hSw; (try dsimp only at hSw); first | (go_simp; done) | (go_simp; with_reducible rfl)
 (try simp only [Act.put, Row.pB0, Row.pB1, Row.pB2])
 refine wpAnyH_take (i := 10) (oi := ⟨some 29, .move (.tmp 4), 3, "l13_pend.go:36", #[], none⟩) (v := ?_) rfl (by kernel_rfl) (by kernel_rfl) (by kernel_rfl) (fun _ _ _ h => h) (Or.inl ⟨by rfl, ?_⟩) (by assumption) ?_
 rotate_left
 ·
  intro w' hSw; (try dsimp only at hSw); first | (go_simp; done) | (go_simp; with_reducible rfl)
 (try simp only [Act.put, Row.pB0, Row.pB1, Row.pB2])
 refine wpAnyH_take (i := 11) (oi := ⟨some 30, .indexAddr 35 (.tmp 28) (.tmp 29), 0, "l13_pend.go:36", #[⟨9, .data⟩, ⟨10, .data⟩], none⟩) (v := ?_) rfl (by kernel_rfl) (by kernel_rfl) (by kernel_rfl) (fun _ _ _ h => h) (Or.inl ⟨by rfl, ?_⟩) (by assumption) ?_
 rotate_left
 ·
  intro w' hSw; (try dsimp only at hSw); first | (go_simp; done) | (go_simp; with_reducible rfl)
 (try simp only [Act.put, Row.pB0, Row.pB1, Row.pB2])
 refine wpAnyH_take (i := 12) (oi := ⟨some 31, .fieldAddr 101 (.tmp 30) 2, 0, "l13_pend.go:36", #[⟨11, .data⟩], none⟩) (v := ?_) rfl (by kernel_rfl) (by kernel_rfl) (by kernel_rfl) (fun _ _ _ h => h) (Or.inl ⟨by rfl, ?_⟩) (by assumption) ?_
 rotate_left
 ·
  intro w' hSw; (try dsimp only at hSw); first | (go_simp; done) | (go_simp; with_reducible rfl)
 (try simp only [Act.put, Row.pB0, Row.pB1, Row.pB2])
 refine wpAnyH_take (i := 13) (oi := ⟨some 32, .load 3 (.tmp 31), 3, "l13_pend.go:36", #[⟨12, .data⟩], none⟩) (v := ?_) rfl (by kernel_rfl) (by kernel_rfl) (by kernel_rfl) (fun _ _ _ h => h) (Or.inl ⟨by rfl, ?_⟩) (by assumption) ?_
 rotate_left
 ·
  intro w' hSw; (try dsimp only at hSw); first | (go_simp; done) | (go_simp; with_reducible rfl)
 (try simp only [Act.put, Row.pB0, Row.pB1, Row.pB2])
 refine wpAnyH_ready (rs := [2]) (by kernel_rfl) (by simp) ?_
 refine AllReadyH.cons (o := ⟨some 21, .buildSlice 68 0 #[], 68, "l13_pend.go:36", #[], none⟩) rfl (fun K hK => ?_) AllReadyH.nil
 go_simp
 have hb : Below wd.heap.size wd (wd.alloc (.cells #[] 91)) := (Below.refl _ _).alloc (Nat.le_refl _) _
 have HOE := Lib.hid (ownK_empty kRq.cells 3 91 wd)
 obtain ⟨gE, hgE⟩ : ∃ g, g = wd.heap.size := ⟨_, rfl⟩
 rw [← hgE] at HOE ⊢
 have HGE := Lib.hid (show w.heap.size ≤ gE from by rw [hgE]; exact BB.out.size)
 clear hgE
 replace BB := Lib.hid (BB.out.trans (hb.mono BB.out.size))
 replace BX := Lib.hid (BX.out.trans (hb.mono (Nat.le_trans HBW.out BX.out.size)))
 clear hb
 generalize wd.alloc (.cells #[] 91) = wn1 at *
 clear hHeld
 refine hK.out _ _ ?_ (fun hHeld => ?_)
 ·
  (try dsimp only); exact ⟨kc K0.out BB.out, kc K1.out BB.out, kc K2.out BB.out⟩
 clear hK K
 (try simp only [Act.put, Row.pB0, Row.pB1, Row.pB2])
 refine wpAnyH_ready (rs := [8]) (by kernel_rfl) (by simp) ?_
 refine AllReadyH.cons (o := ⟨some 27, .call ⟨.builtin .append, #[.tmp 21, .tmp 26], #[68, 68]⟩, 68, "l13_pend.go:36", #[⟨2, .data⟩, ⟨7, .data⟩], none⟩) rfl (fun K hK => ?_) AllReadyH.nil
 refine step_appKv kindRq (B := gE) (v := .slice (some ⟨gE, 0, none⟩) 0 0) (l := []) (m := rq) rfl _ _ (by rfl) Try.underlying68 (by rfl) (by rfl) ?_ ?_ ?_ ?_ ?_ ?_
 ·
  with_reducible exact HOE.out
 ·
  exact (H_q.out.on BB.out)
 ·
  have h5 := HRB.out; simp; omega
 ·
  have h5 := HRB.out; unfold maxLen; simp; omega
 ·
  exact Nat.le_of_lt (HOE.out.lt gE rfl).2
 intro v5 wn2 ho5 hg5
 obtain ⟨yb, mb, db, rfl, -, -, ho5⟩ := ho5.shapeN
 have OQ := Lib.hid (kLRq_own (E := wn2.heap.size) ho5 (Nat.le_refl _))
 have hb5 : Below w.heap.size wn1 wn2 := (Below.refl _ _).grown hg5 BB.out.size (fun g e => by cases e; exact HGE.out)
 replace BB := Lib.hid (BB.out.trans hb5); replace BX := Lib.hid (BX.out.trans (hb5.mono HBW.out))
 clear ho5 hg5 hb5
 clear hHeld
 refine hK.out _ _ ?_ (fun hHeld => ?_)
 ·
  (try dsimp only); exact ⟨kc K0.out BB.out, kc K1.out BB.out, kc K2.out BB.out⟩
 clear hK K
 (try simp only [Act.put, Row.pB0, Row.pB1, Row.pB2])
 refine wpAnyH_take (i := 14) (oi := ⟨some 33, .build 101 #[(0, .tmp 20), (1, .tmp 27), (2, .tmp 32)], 101, "l13_pend.go:36", #[⟨1, .data⟩, ⟨8, .data⟩, ⟨13, .data⟩], none⟩) (v := ?_) rfl (by kernel_rfl) (by kernel_rfl) (by kernel_rfl) (fun _ _ _ h => h) (Or.inl ⟨by rfl, ?_⟩) (by assumption) ?_
 rotate_left
 ·
  intro w' hSw; (try dsimp only at hSw); first | (go_simp; done) | (go_simp; with_reducible rfl)
 (try simp only [Act.put, Row.pB0, Row.pB1, Row.pB2])
 refine wpAnyH_ready (rs := [15]) (by kernel_rfl) (by simp) ?_
 refine AllReadyH.cons (o := ⟨some 34, .buildSlice 35 1 #[(0, .tmp 33)], 35, "l13_pend.go:36", #[⟨14, .data⟩], none⟩) rfl (fun K hK => ?_) AllReadyH.nil
 go_simp
 have hb : Below wn2.heap.size wn2 (wn2.alloc (.cells #[.slice x0 n0 c0, .slice yb mb db, .int .i64 ls] 101)) := (Below.refl _ _).alloc (Nat.le_refl _) _
 have HSO := Lib.hid (one_k (k := kPi) szPi_cells (e := 101) (W := wn2) (m := ((m1, ⟨yb, mb, db, [] ++ rq⟩, ls) : Pim)) (cs := [.slice x0 n0 c0, .slice yb mb db, .int .i64 ls]) (by show kN.cells m1 ++ ([.slice yb mb db] ++ kInt.cells ls) = _; rw [HD1.out]; rfl))
 have HMM := Lib.hid ((pi_join (u := ls) (ON.out.on BB.out) (OQ.out.mono (Nat.le_trans HC1.out HGE.out) (Nat.le_refl _)) (fun g h1 h2 => by have h5 := (ON.out.lt g h1).2.2; have h6 := (OQ.out.lt g h2).1; have h7 := HGE.out; omega) wn2.heap.size (ON.out.on BB.out).top OQ.out.top).on hb)
 replace OQ := Lib.hid (OQ.out.on hb)
 replace BB := Lib.hid (BB.out.trans (hb.mono BB.out.size))
 replace BX := Lib.hid (BX.out.trans (hb.mono (Nat.le_trans HBW.out BX.out.size)))
 clear hb
 generalize wn2.alloc (.cells #[.slice x0 n0 c0, .slice yb mb db, .int .i64 ls] 101) = wn3 at *
 clear hHeld
 refine hK.out _ _ ?_ (fun hHeld => ?_)
 ·
  (try dsimp only); exact ⟨kc K0.out BB.out, kc K1.out BB.out, kc K2.out BB.out⟩
 clear hK K
 (try simp only [Act.put, Row.pB0, Row.pB1, Row.pB2])
 refine wpAnyH_ready (rs := [16]) (by kernel_rfl) (by simp) ?_
 refine AllReadyH.cons (o := ⟨some 35, .call ⟨.builtin .append, #[.tmp 19, .tmp 34], #[35, 35]⟩, 35, "l13_pend.go:36", #[⟨0, .data⟩, ⟨15, .data⟩, ⟨8, .chain⟩], none⟩) rfl (fun K hK => ?_) AllReadyH.nil
 refine step_appK kindPi (B := B) (v := .slice xu nu cu) (l := Lu) (m := [((m1, ⟨yb, mb, db, [] ++ rq⟩, ls) : Pim)]) rfl _ _ (by rfl) Try.underlying35 (by rfl) (by rfl) ?_ ?_ ?_ ?_ ?_ ?_
 ·
  exact (HOL.out.on BB.out).1.1
 ·
  exact HSO.out
 ·
  have h5 := HLM.out; simp; omega
 ·
  have h5 := HLM.out; unfold maxLen; simp; omega
 ·
  exact Nat.le_trans HBW.out BB.out.size
 intro v4 wn4 ho4 hg4
 obtain ⟨x4, n4, c4, rfl, -, -, ho4⟩ := ho4.shapeN
 have HO4 := Lib.hid (Kd.push_later noRow_kPi (r := ⟨xu, nu, cu, Lu⟩) (HOL.out.on BB.out) HMM.out HC0.out ho4 hg4)
 replace BX := Lib.hid (BX.out.grown hg4 (Nat.le_trans HBW.out BX.out.size) (fun g e => ((HOL.out.on BB.out).1.1.lt g e).1))
 have k0_ := hg4.cell (kc K0.out BB.out) HPR.out
 have k1_ := hg4.cell (kc K1.out BB.out) HBR.out
 have k2_ := hg4.cell (kc K2.out BB.out) HBR.out
 clear ho4 hg4
 clear hHeld
 refine hK.out _ _ ?_ (fun hHeld => ?_)
 ·
  (try dsimp only); exact ⟨k0_, k1_, k2_⟩
 clear hK K k0_ k1_ k2_
 (try simp only [Act.put, Row.pB0, Row.pB1, Row.pB2])
 refine wpAnyH_take (i := 17) (oi := ⟨some 3, .assign (.tmp 35), 35, "l13_pend.go:36", #[⟨16, .data⟩, ⟨16, .chain⟩, ⟨0, .phase⟩, ⟨1, .phase⟩, ⟨2, .phase⟩, ⟨3, .phase⟩, ⟨4, .phase⟩, ⟨5, .phase⟩, ⟨6, .phase⟩, ⟨7, .phase⟩, ⟨8, .phase⟩, ⟨9, .phase⟩, ⟨10, .phase⟩, ⟨11, .phase⟩, ⟨12, .phase⟩, ⟨13, .phase⟩, ⟨14, .phase⟩, ⟨15, .phase⟩, ⟨16, .phase⟩], none⟩) (v := ?_) rfl (by kernel_rfl) (by kernel_rfl) (by kernel_rfl) (fun _ _ _ h => h) (Or.inl ⟨by rfl, ?_⟩) (by assumption) ?_
 rotate_left
 ·
  intro w' hSw; (try dsimp only at hSw); first | (go_simp; done) | (go_simp; with_reducible rfl)
 (try simp only [Act.put, Row.pB0, Row.pB1, Row.pB2])
 refine wpAnyH_done (by kernel_rfl) ?_ _
 exact NoPanic.normal (HQ.out _ _ _ _ _ _ _ _ _ _ _ _ _ _ _ _ _ x4 n4 c4 (m1, ⟨yb, mb, db, [] ++ rq⟩, ls) _ (Lib.hid (by show (kN.strip m1, List.map kRq.strip ([] ++ rq), ls) = _; rw [HS1.out, rq_map]; rfl)) HO4 BX.out)
set_option maxRecDepth 100000 in
set_option maxHeartbeats 4000000 in
theorem rsp {Q : Exit → Act → World → Prop} {v0 v1 v2 v4 v6 v7 v8 v9 v10 v11 v12 v13 v14 v15 v16 v17 v18 v19 v20 v21 v22 v23 v24 v25 : Value} {w : World} {Lu : List Snm} {B nu cu : Nat} {xu : Option Addr} (HBW : Hid (B ≤ w.heap.size)) (HLM : Hid (Lu.length ≤ 1100000)) {p n0 c0 : Nat} {x0 : Option Addr} {ls : Int} {nm : List ByteArray} (HOL : Hid (kLSn.Own B w.heap.size w ⟨xu, nu, cu, Lu⟩)) (HPR : Hid (some p ≠ (Value.slice xu nu cu).ownBlock)) (H_n : Hid (kN.At w (.agg #[.slice x0 n0 c0]) nm)) (HNB : Hid (bulk nm ≤ 1200000)) (K0 : Hid (w.cell? ⟨p, 0, none⟩ = some (.slice x0 n0 c0))) (K1 : Hid (w.cell? ⟨p, 1, none⟩ = some (.int .i64 ls)))
  (hQ : ∀ (u15 u16 u17 u18 u19 u20 u21 u22 u23 : Value) (x4 : Option Addr) (n4 c4 : Nat) (mm : Snm)  (wx : World), Hid (kSn.strip mm = (nm, ls)) → Hid (kLSn.Own B wx.heap.size wx ⟨x4, n4, c4, Lu ++ [mm]⟩) → Below B w wx → Q .normal ⟨#[v0, v1, v2, .slice x4 n4 c4, v4, .pointer (some ⟨p, 0, none⟩), v6, v7, v8, v9, v10, v11, v12, v13, v14, u15, u16, u17, u18, u19, u20, u21, u22, u23, v24, v25], []⟩ wx) :
  (Code.region 5 #[⟨some 15, .move (.tmp 3), 24, "l13_pend.go:201", #[], none⟩,
   ⟨some 16, .fieldAddr 38 (.tmp 5) 0, 0, "l13_pend.go:201", #[], none⟩,
   ⟨some 17, .load 27 (.tmp 16), 27, "l13_pend.go:201", #[⟨1, .data⟩], none⟩,
   ⟨some 18, .call ⟨.value (.func 95), #[.tmp 17], #[27]⟩, 27, "l13_pend.go:201", #[⟨2, .data⟩], none⟩,
   ⟨some 19, .fieldAddr 38 (.tmp 5) 1, 0, "l13_pend.go:201", #[], none⟩,
   ⟨some 20, .load 3 (.tmp 19), 3, "l13_pend.go:201", #[⟨4, .data⟩], none⟩,
   ⟨some 21, .build 38 #[(0, .tmp 18), (1, .tmp 20)], 38, "l13_pend.go:201", #[⟨3, .data⟩, ⟨5, .data⟩], none⟩,
   ⟨some 22, .buildSlice 24 1 #[(0, .tmp 21)], 24, "l13_pend.go:201", #[⟨6, .data⟩], none⟩,
   ⟨some 23, .call ⟨.builtin .append, #[.tmp 15, .tmp 22], #[24, 24]⟩, 24, "l13_pend.go:201", #[⟨0, .data⟩, ⟨7, .data⟩, ⟨3, .chain⟩], none⟩,
   ⟨some 3, .assign (.tmp 23), 24, "l13_pend.go:201", #[⟨8, .data⟩, ⟨8, .chain⟩, ⟨0, .phase⟩, ⟨1, .phase⟩, ⟨2, .phase⟩, ⟨3, .phase⟩, ⟨4, .phase⟩, ⟨5, .phase⟩, ⟨6, .phase⟩, ⟨7, .phase⟩, ⟨8, .phase⟩], none⟩] true).wp Try.prog Q ⟨#[v0, v1, v2, .slice xu nu cu, v4, .pointer (some ⟨p, 0, none⟩), v6, v7, v8, v9, v10, v11, v12, v13, v14, v15, v16, v17, v18, v19, v20, v21, v22, v23, v24, v25], []⟩ w := by
 have HQ := Lib.hid hQ; clear hQ
 have hdr : Below w.heap.size w w.drew := (Below.refl _ _).drew
 have BB := Lib.hid hdr
 have BX := Lib.hid (BB.out.mono HBW.out)
 refine wp_region_noPanic ?_
 refine wp_region_held_drew (S := (fun w' => w'.cell? ⟨p, 0, none⟩ = some (.slice x0 n0 c0) ∧ w'.cell? ⟨p, 1, none⟩ = some (.int .i64 ls))) (by kernel_rfl) ?_ (fun hHeld => ?_)
 ·
  exact ⟨kc K0.out BB.out, kc K1.out BB.out⟩
 clear hdr
 generalize w.drew = wd at *
 refine wpAnyH_take (i := 0) (oi := ⟨some 15, .move (.tmp 3), 24, "l13_pend.go:201", #[], none⟩) (v := ?_) rfl (by kernel_rfl) (by kernel_rfl) (by kernel_rfl) (fun _ _ _ h => h) (Or.inl ⟨by rfl, ?_⟩) (by assumption) ?_
 rotate_left
 ·
  intro w' hSw; (try dsimp only at hSw); first | (go_simp; done) | (go_simp; with_reducible rfl)
 (try simp only [Act.put, Row.pB0, Row.pB1, Row.pB2])
 refine wpAnyH_take (i := 1) (oi := ⟨some 16, .fieldAddr 38 (.tmp 5) 0, 0, "l13_pend.go:201", #[], none⟩) (v := ?_) rfl (by kernel_rfl) (by kernel_rfl) (by kernel_rfl) (fun _ _ _ h => h) (Or.inl ⟨by rfl, ?_⟩) (by assumption) ?_
 rotate_left
 ·
  intro w' hSw; (try dsimp only at hSw); first | (go_simp; done) | (go_simp; with_reducible rfl)
 (try simp only [Act.put, Row.pB0, Row.pB1, Row.pB2])
 refine wpAnyH_take (i := 2) (oi := ⟨some 17, .load 27 (.tmp 16), 27, "l13_pend.go:201", #[⟨1, .data⟩], none⟩) (v := ?_) rfl (by kernel_rfl) (by kernel_rfl) (by kernel_rfl) (fun _ _ _ h => h) (Or.inl ⟨by rfl, ?_⟩) (by assumption) ?_
 rotate_left
 ·
  intro w' hSw; (try dsimp only at hSw); first | (go_simp; done) | (go_simp; with_reducible rfl)
 (try simp only [Act.put, Row.pB0, Row.pB1, Row.pB2])
 refine wpAnyH_take (i := 4) (oi := ⟨some 19, .fieldAddr 38 (.tmp 5) 1, 0, "l13_pend.go:201", #[], none⟩) (v := ?_) rfl (by kernel_rfl) (by kernel_rfl) (by kernel_rfl) (fun _ _ _ h => h) (Or.inl ⟨by rfl, ?_⟩) (by assumption) ?_
 rotate_left
 ·
  intro w' hSw; (try dsimp only at hSw); first | (go_simp; done) | (go_simp; with_reducible rfl)
 (try simp only [Act.put, Row.pB0, Row.pB1, Row.pB2])
 refine wpAnyH_take (i := 5) (oi := ⟨some 20, .load 3 (.tmp 19), 3, "l13_pend.go:201", #[⟨4, .data⟩], none⟩) (v := ?_) rfl (by kernel_rfl) (by kernel_rfl) (by kernel_rfl) (fun _ _ _ h => h) (Or.inl ⟨by rfl, ?_⟩) (by assumption) ?_
 rotate_left
 ·
  intro w' hSw; (try dsimp only at hSw); first | (go_simp; done) | (go_simp; with_reducible rfl)
 (try simp only [Act.put, Row.pB0, Row.pB1, Row.pB2])
 refine wpAnyH_ready (rs := [3]) (by kernel_rfl) (by simp) ?_
 refine AllReadyH.cons (o := ⟨some 18, .call ⟨.value (.func 95), #[.tmp 17], #[27]⟩, 27, "l13_pend.go:201", #[⟨2, .data⟩], none⟩) rfl (fun K hK => ?_) AllReadyH.nil
 go_simp
 refine (iCpyN (H_n.out.on BB.out) (Nat.le_trans HNB.out (by decide))).mono ?_
 rintro e wn1 ⟨U1, rfl, hi, hb⟩
 obtain ⟨m1, rfl, hs1, hi⟩ := hi.split
 obtain ⟨ya, ma, da, e1, -⟩ := kN_shapeA (Kd.at_of (k := kN) hi.holds)
 have hd1 : kN.cells m1 = [.slice ya ma da] := by injection e1 with e; exact congrArg Array.toList e
 rw [e1]
 (first | have HDJ := Lib.hid (show ∀ g ∈ kN.blocks m1, g ∉ kLRq.blocks m2 from fun g h1 h2 => by have h5 := (hi.lt g h1).1; have h6 := (OQ.out.lt g h2).2.2; omega) | skip)
 have ON := Lib.hid (hi.mono BB.out.size (Nat.le_refl _)); have HS1 := Lib.hid hs1; have HD1 := Lib.hid hd1
 clear hi hs1 hd1 e1
 replace BB := Lib.hid (BB.out.trans (hb.mono BB.out.size))
 replace BX := Lib.hid (BX.out.trans (hb.mono (Nat.le_trans HBW.out BX.out.size)))
 clear hb
 (try go_wp2_with fail)
 clear hHeld
 refine hK.out _ _ ?_ (fun hHeld => ?_)
 ·
  (try dsimp only); exact ⟨kc K0.out BB.out, kc K1.out BB.out⟩
 clear hK K
 (try simp only [Act.put, Row.pB0, Row.pB1, Row.pB2])
 refine wpAnyH_take (i := 6) (oi := ⟨some 21, .build 38 #[(0, .tmp 18), (1, .tmp 20)], 38, "l13_pend.go:201", #[⟨3, .data⟩, ⟨5, .data⟩], none⟩) (v := ?_) rfl (by kernel_rfl) (by kernel_rfl) (by kernel_rfl) (fun _ _ _ h => h) (Or.inl ⟨by rfl, ?_⟩) (by assumption) ?_
 rotate_left
 ·
  intro w' hSw; (try dsimp only at hSw); first | (go_simp; done) | (go_simp; with_reducible rfl)
 (try simp only [Act.put, Row.pB0, Row.pB1, Row.pB2])
 refine wpAnyH_ready (rs := [7]) (by kernel_rfl) (by simp) ?_
 refine AllReadyH.cons (o := ⟨some 22, .buildSlice 24 1 #[(0, .tmp 21)], 24, "l13_pend.go:201", #[⟨6, .data⟩], none⟩) rfl (fun K hK => ?_) AllReadyH.nil
 go_simp
 have hb : Below wn1.heap.size wn1 (wn1.alloc (.cells #[.slice ya ma da, .int .i64 (ls)] 38)) := (Below.refl _ _).alloc (Nat.le_refl _) _
 have HSO := Lib.hid (one_k (k := kSn) szSn_cells (e := 38) (W := wn1) (m := ((m1, ls) : Snm)) (cs := [.slice ya ma da, .int .i64 (ls)]) (by show kN.cells m1 ++ kInt.cells (ls) = _; rw [HD1.out]; rfl))
 have HMM := Lib.hid ((sn_join (u := ls) ON.out wn1.heap.size ON.out.top).on hb)
 replace ON := Lib.hid (ON.out.on hb)
 replace BB := Lib.hid (BB.out.trans (hb.mono BB.out.size))
 replace BX := Lib.hid (BX.out.trans (hb.mono (Nat.le_trans HBW.out BX.out.size)))
 clear hb
 generalize wn1.alloc (.cells #[.slice ya ma da, .int .i64 (ls)] 38) = wn2 at *
 clear hHeld
 refine hK.out _ _ ?_ (fun hHeld => ?_)
 ·
  (try dsimp only); exact ⟨kc K0.out BB.out, kc K1.out BB.out⟩
 clear hK K
 (try simp only [Act.put, Row.pB0, Row.pB1, Row.pB2])
 refine wpAnyH_ready (rs := [8]) (by kernel_rfl) (by simp) ?_
 refine AllReadyH.cons (o := ⟨some 23, .call ⟨.builtin .append, #[.tmp 15, .tmp 22], #[24, 24]⟩, 24, "l13_pend.go:201", #[⟨0, .data⟩, ⟨7, .data⟩, ⟨3, .chain⟩], none⟩) rfl (fun K hK => ?_) AllReadyH.nil
 refine step_appK kindSn (B := B) (v := .slice xu nu cu) (l := Lu) (m := [((m1, ls) : Snm)]) rfl _ _ (by rfl) Try.underlying24 (by rfl) (by rfl) ?_ ?_ ?_ ?_ ?_ ?_
 ·
  exact (HOL.out.on BB.out).1.1
 ·
  exact HSO.out
 ·
  have h5 := HLM.out; simp; omega
 ·
  have h5 := HLM.out; unfold maxLen; simp; omega
 ·
  exact Nat.le_trans HBW.out BB.out.size
 intro v4 wn3 ho4 hg4
 obtain ⟨x4, n4, c4, rfl, -, -, ho4⟩ := ho4.shapeN
 have HO4 := Lib.hid (Kd.push_later noRow_kSn (r := ⟨xu, nu, cu, Lu⟩) (HOL.out.on BB.out) HMM.out HBW.out ho4 hg4)
 replace BX := Lib.hid (BX.out.grown hg4 (Nat.le_trans HBW.out BX.out.size) (fun g e => ((HOL.out.on BB.out).1.1.lt g e).1))
 have k0_ := hg4.cell (kc K0.out BB.out) HPR.out
 have k1_ := hg4.cell (kc K1.out BB.out) HPR.out
 clear ho4 hg4
 clear hHeld
 refine hK.out _ _ ?_ (fun hHeld => ?_)
 ·
  (try dsimp only); exact ⟨k0_, k1_⟩
 clear hK K k0_ k1_
 (try simp only [Act.put, Row.pB0, Row.pB1, Row.pB2])
 refine wpAnyH_take (i := 9) (oi := ⟨some 3, .assign (.tmp 23), 24, "l13_pend.go:201", #[⟨8, .data⟩, ⟨8, .chain⟩, ⟨0, .phase⟩, ⟨1, .phase⟩, ⟨2, .phase⟩, ⟨3, .phase⟩, ⟨4, .phase⟩, ⟨5, .phase⟩, ⟨6, .phase⟩, ⟨7, .phase⟩, ⟨8, .phase⟩], none⟩) (v := ?_) rfl (by kernel_rfl) (by kernel_rfl) (by kernel_rfl) (fun _ _ _ h => h) (Or.inl ⟨by rfl, ?_⟩) (by assumption) ?_
 rotate_left
 ·
  intro w' hSw; (try dsimp only at hSw); first | (go_simp; done) | (go_simp; with_reducible rfl)
 (try simp only [Act.put, Row.pB0, Row.pB1, Row.pB2])
 refine wpAnyH_done (by kernel_rfl) ?_ _
 exact NoPanic.normal (HQ.out _ _ _ _ _ _ _ _ _ x4 n4 c4 (m1, ls) _ (Lib.hid (by show (kN.strip m1, ls) = _; rw [HS1.out])) HO4 BX.out)
set_option maxRecDepth 100000 in
set_option maxHeartbeats 4000000 in
theorem rsm {Q : Exit → Act → World → Prop} {v1 v2 v6 v7 v8 v9 v10 v11 v12 v13 v14 v15 v16 v17 v18 v19 v20 v21 v22 v23 v24 v25 v26 v27 v28 v29 : Value} {w : World} {Lu : List Snm} {B nu cu : Nat} {xu : Option Addr} (HBW : Hid (B ≤ w.heap.size)) (HLM : Hid (Lu.length ≤ 1100000)) {p b off n c k n0 c0 E1 C1 : Nat} {x0 : Option Addr} {ls : Int} {nm : List ByteArray} {m1 : Rw ByteArray} (hk : k < n) (hkc : k ≤ c) (hn : n ≤ 9000000) (HOL : Hid (kLSn.Own B C1 w ⟨xu, nu, cu, Lu⟩)) (HC0 : Hid (B ≤ C1)) (HPR : Hid (some p ≠ (Value.slice xu nu cu).ownBlock)) (HBR : Hid (some b ≠ (Value.slice xu nu cu).ownBlock)) (ON : Hid (kN.Own C1 E1 w m1)) (HS1 : Hid (kN.strip m1 = nm)) (HD1 : Hid (kN.cells m1 = [.slice x0 n0 c0])) (K0 : Hid (w.cell? ⟨p, 0, none⟩ = some (.slice x0 n0 c0))) (K1 : Hid (w.cell? ⟨b, off + k * 2 + 1, none⟩ = some (.int .i64 ls)))
  (hQ : ∀ (u19 u20 u21 u22 u23 u24 u25 u26 u27 u28 : Value) (x4 : Option Addr) (n4 c4 : Nat) (mm : Snm)  (wx : World), Hid (kSn.strip mm = (nm, ls)) → Hid (kLSn.Own B wx.heap.size wx ⟨x4, n4, c4, Lu ++ [mm]⟩) → Below B w wx → Q .normal ⟨#[.slice (some ⟨b, off, none⟩) n c, v1, v2, .slice x4 n4 c4, .int .i64 k, .pointer (some ⟨p, 0, none⟩), v6, v7, v8, v9, v10, v11, v12, v13, v14, v15, v16, v17, v18, u19, u20, u21, u22, u23, u24, u25, u26, u27, u28, v29], []⟩ wx) :
  (Code.region 6 #[⟨some 19, .move (.tmp 3), 24, "l13_pend.go:142", #[], none⟩,
   ⟨some 20, .load 27 (.tmp 5), 27, "l13_pend.go:142", #[], none⟩,
   ⟨some 21, .move (.tmp 0), 24, "l13_pend.go:142", #[], none⟩,
   ⟨some 22, .move (.tmp 4), 3, "l13_pend.go:142", #[], none⟩,
   ⟨some 23, .indexAddr 24 (.tmp 21) (.tmp 22), 0, "l13_pend.go:142", #[⟨2, .data⟩, ⟨3, .data⟩], none⟩,
   ⟨some 24, .fieldAddr 38 (.tmp 23) 1, 0, "l13_pend.go:142", #[⟨4, .data⟩], none⟩,
   ⟨some 25, .load 3 (.tmp 24), 3, "l13_pend.go:142", #[⟨5, .data⟩], none⟩,
   ⟨some 26, .build 38 #[(0, .tmp 20), (1, .tmp 25)], 38, "l13_pend.go:142", #[⟨1, .data⟩, ⟨6, .data⟩], none⟩,
   ⟨some 27, .buildSlice 24 1 #[(0, .tmp 26)], 24, "l13_pend.go:142", #[⟨7, .data⟩], none⟩,
   ⟨some 28, .call ⟨.builtin .append, #[.tmp 19, .tmp 27], #[24, 24]⟩, 24, "l13_pend.go:142", #[⟨0, .data⟩, ⟨8, .data⟩], none⟩,
   ⟨some 3, .assign (.tmp 28), 24, "l13_pend.go:142", #[⟨9, .data⟩, ⟨9, .chain⟩, ⟨0, .phase⟩, ⟨1, .phase⟩, ⟨2, .phase⟩, ⟨3, .phase⟩, ⟨4, .phase⟩, ⟨5, .phase⟩, ⟨6, .phase⟩, ⟨7, .phase⟩, ⟨8, .phase⟩, ⟨9, .phase⟩], none⟩] true).wp Try.prog Q ⟨#[.slice (some ⟨b, off, none⟩) n c, v1, v2, .slice xu nu cu, .int .i64 k, .pointer (some ⟨p, 0, none⟩), v6, v7, v8, v9, v10, v11, v12, v13, v14, v15, v16, v17, v18, v19, v20, v21, v22, v23, v24, v25, v26, v27, v28, v29], []⟩ w := by
 have HQ := Lib.hid hQ; clear hQ
 have hdr : Below w.heap.size w w.drew := (Below.refl _ _).drew
 have BB := Lib.hid hdr
 have BX := Lib.hid (BB.out.mono HBW.out)
 refine wp_region_noPanic ?_
 refine wp_region_held_drew (S := (fun w' => w'.cell? ⟨p, 0, none⟩ = some (.slice x0 n0 c0) ∧ w'.cell? ⟨b, off + k * 2 + 1, none⟩ = some (.int .i64 ls))) (by kernel_rfl) ?_ (fun hHeld => ?_)
 ·
  exact ⟨kc K0.out BB.out, kc K1.out BB.out⟩
 clear hdr
 generalize w.drew = wd at *
 refine wpAnyH_take (i := 0) (oi := ⟨some 19, .move (.tmp 3), 24, "l13_pend.go:142", #[], none⟩) (v := ?_) rfl (by kernel_rfl) (by kernel_rfl) (by kernel_rfl) (fun _ _ _ h => h) (Or.inl ⟨by rfl, ?_⟩) (by assumption) ?_
 rotate_left
 ·
  intro w' hSw; (try dsimp only at hSw); first | (go_simp; done) | (go_simp; with_reducible rfl)
 (try simp only [Act.put, Row.pB0, Row.pB1, Row.pB2])
 refine wpAnyH_take (i := 1) (oi := ⟨some 20, .load 27 (.tmp 5), 27, "l13_pend.go:142", #[], none⟩) (v := ?_) rfl (by kernel_rfl) (by kernel_rfl) (by kernel_rfl) (fun _ _ _ h => h) (Or.inl ⟨by rfl, ?_⟩) (by assumption) ?_
 rotate_left
 ·
  intro w' hSw; (try dsimp only at hSw); first | (go_simp; done) | (go_simp; with_reducible rfl)
 (try simp only [Act.put, Row.pB0, Row.pB1, Row.pB2])
 refine wpAnyH_take (i := 2) (oi := ⟨some 21, .move (.tmp 0), 24, "l13_pend.go:142", #[], none⟩) (v := ?_) rfl (by kernel_rfl) (by kernel_rfl) (by kernel_rfl) (fun _ _ _ h => h) (Or.inl ⟨by rfl, ?_⟩) (by assumption) ?_
 rotate_left
 ·
  intro w' hSw; (try dsimp only at hSw); first | (go_simp; done) | (go_simp; with_reducible rfl)
 (try simp only [Act.put, Row.pB0, Row.pB1, Row.pB2])
 refine wpAnyH_take (i := 3) (oi := ⟨some 22, .move (.tmp 4), 3, "l13_pend.go:142", #[], none⟩) (v := ?_) rfl (by kernel_rfl) (by kernel_rfl) (by kernel_rfl) (fun _ _ _ h => h) (Or.inl ⟨by rfl, ?_⟩) (by assumption) ?_
 rotate_left
 ·
  intro w' hSw; (try dsimp only at hSw); first | (go_simp; done) | (go_simp; with_reducible rfl)
 (try simp only [Act.put, Row.pB0, Row.pB1, Row.pB2])
 refine wpAnyH_take (i := 4) (oi := ⟨some 23, .indexAddr 24 (.tmp 21) (.tmp 22), 0, "l13_pend.go:142", #[⟨2, .data⟩, ⟨3, .data⟩], none⟩) (v := ?_) rfl (by kernel_rfl) (by kernel_rfl) (by kernel_rfl) (fun _ _ _ h => h) (Or.inl ⟨by rfl, ?_⟩) (by assumption) ?_
 rotate_left
 ·
  intro w' hSw; (try dsimp only at hSw); first | (go_simp; done) | (go_simp; with_reducible rfl)
 (try simp only [Act.put, Row.pB0, Row.pB1, Row.pB2])
 refine wpAnyH_take (i := 5) (oi := ⟨some 24, .fieldAddr 38 (.tmp 23) 1, 0, "l13_pend.go:142", #[⟨4, .data⟩], none⟩) (v := ?_) rfl (by kernel_rfl) (by kernel_rfl) (by kernel_rfl) (fun _ _ _ h => h) (Or.inl ⟨by rfl, ?_⟩) (by assumption) ?_
 rotate_left
 ·
  intro w' hSw; (try dsimp only at hSw); first | (go_simp; done) | (go_simp; with_reducible rfl)
 (try simp only [Act.put, Row.pB0, Row.pB1, Row.pB2])
 refine wpAnyH_take (i := 6) (oi := ⟨some 25, .load 3 (.tmp 24), 3, "l13_pend.go:142", #[⟨5, .data⟩], none⟩) (v := ?_) rfl (by kernel_rfl) (by kernel_rfl) (by kernel_rfl) (fun _ _ _ h => h) (Or.inl ⟨by rfl, ?_⟩) (by assumption) ?_
 rotate_left
 ·
  intro w' hSw; (try dsimp only at hSw); first | (go_simp; done) | (go_simp; with_reducible rfl)
 (try simp only [Act.put, Row.pB0, Row.pB1, Row.pB2])
 refine wpAnyH_take (i := 7) (oi := ⟨some 26, .build 38 #[(0, .tmp 20), (1, .tmp 25)], 38, "l13_pend.go:142", #[⟨1, .data⟩, ⟨6, .data⟩], none⟩) (v := ?_) rfl (by kernel_rfl) (by kernel_rfl) (by kernel_rfl) (fun _ _ _ h => h) (Or.inl ⟨by rfl, ?_⟩) (by assumption) ?_
 rotate_left
 ·
  intro w' hSw; (try dsimp only at hSw); first | (go_simp; done) | (go_simp; with_reducible rfl)
 (try simp only [Act.put, Row.pB0, Row.pB1, Row.pB2])
 refine wpAnyH_ready (rs := [8]) (by kernel_rfl) (by simp) ?_
 refine AllReadyH.cons (o := ⟨some 27, .buildSlice 24 1 #[(0, .tmp 26)], 24, "l13_pend.go:142", #[⟨7, .data⟩], none⟩) rfl (fun K hK => ?_) AllReadyH.nil
 go_simp
 have hb : Below wd.heap.size wd (wd.alloc (.cells #[.slice x0 n0 c0, .int .i64 ls] 38)) := (Below.refl _ _).alloc (Nat.le_refl _) _
 have HSO := Lib.hid (one_k (k := kSn) szSn_cells (e := 38) (W := wd) (m := ((m1, ls) : Snm)) (cs := [.slice x0 n0 c0, .int .i64 ls]) (by show kN.cells m1 ++ kInt.cells ls = _; rw [HD1.out]; rfl))
 have HMM := Lib.hid ((sn_join (u := ls) (ON.out.on BB.out) wd.heap.size (ON.out.on BB.out).top).on hb)
 replace BB := Lib.hid (BB.out.trans (hb.mono BB.out.size))
 replace BX := Lib.hid (BX.out.trans (hb.mono (Nat.le_trans HBW.out BX.out.size)))
 clear hb
 generalize wd.alloc (.cells #[.slice x0 n0 c0, .int .i64 ls] 38) = wn1 at *
 clear hHeld
 refine hK.out _ _ ?_ (fun hHeld => ?_)
 ·
  (try dsimp only); exact ⟨kc K0.out BB.out, kc K1.out BB.out⟩
 clear hK K
 (try simp only [Act.put, Row.pB0, Row.pB1, Row.pB2])
 refine wpAnyH_ready (rs := [9]) (by kernel_rfl) (by simp) ?_
 refine AllReadyH.cons (o := ⟨some 28, .call ⟨.builtin .append, #[.tmp 19, .tmp 27], #[24, 24]⟩, 24, "l13_pend.go:142", #[⟨0, .data⟩, ⟨8, .data⟩], none⟩) rfl (fun K hK => ?_) AllReadyH.nil
 refine step_appK kindSn (B := B) (v := .slice xu nu cu) (l := Lu) (m := [((m1, ls) : Snm)]) rfl _ _ (by rfl) Try.underlying24 (by rfl) (by rfl) ?_ ?_ ?_ ?_ ?_ ?_
 ·
  exact (HOL.out.on BB.out).1.1
 ·
  exact HSO.out
 ·
  have h5 := HLM.out; simp; omega
 ·
  have h5 := HLM.out; unfold maxLen; simp; omega
 ·
  exact Nat.le_trans HBW.out BB.out.size
 intro v4 wn2 ho4 hg4
 obtain ⟨x4, n4, c4, rfl, -, -, ho4⟩ := ho4.shapeN
 have HO4 := Lib.hid (Kd.push_later noRow_kSn (r := ⟨xu, nu, cu, Lu⟩) (HOL.out.on BB.out) HMM.out HC0.out ho4 hg4)
 replace BX := Lib.hid (BX.out.grown hg4 (Nat.le_trans HBW.out BX.out.size) (fun g e => ((HOL.out.on BB.out).1.1.lt g e).1))
 have k0_ := hg4.cell (kc K0.out BB.out) HPR.out
 have k1_ := hg4.cell (kc K1.out BB.out) HBR.out
 clear ho4 hg4
 clear hHeld
 refine hK.out _ _ ?_ (fun hHeld => ?_)
 ·
  (try dsimp only); exact ⟨k0_, k1_⟩
 clear hK K k0_ k1_
 (try simp only [Act.put, Row.pB0, Row.pB1, Row.pB2])
 refine wpAnyH_take (i := 10) (oi := ⟨some 3, .assign (.tmp 28), 24, "l13_pend.go:142", #[⟨9, .data⟩, ⟨9, .chain⟩, ⟨0, .phase⟩, ⟨1, .phase⟩, ⟨2, .phase⟩, ⟨3, .phase⟩, ⟨4, .phase⟩, ⟨5, .phase⟩, ⟨6, .phase⟩, ⟨7, .phase⟩, ⟨8, .phase⟩, ⟨9, .phase⟩], none⟩) (v := ?_) rfl (by kernel_rfl) (by kernel_rfl) (by kernel_rfl) (fun _ _ _ h => h) (Or.inl ⟨by rfl, ?_⟩) (by assumption) ?_
 rotate_left
 ·
  intro w' hSw; (try dsimp only at hSw); first | (go_simp; done) | (go_simp; with_reducible rfl)
 (try simp only [Act.put, Row.pB0, Row.pB1, Row.pB2])
 refine wpAnyH_done (by kernel_rfl) ?_ _
 exact NoPanic.normal (HQ.out _ _ _ _ _ _ _ _ _ _ x4 n4 c4 (m1, ls) _ (Lib.hid (by show (kN.strip m1, ls) = _; rw [HS1.out])) HO4 BX.out)
end Go.Proofs.Ytjphnlkdbhcblaa.Row
/- Copies of lists of pending interests and of seen nonces, model and program. No conditions but that lengths fit. -/
namespace Go.Proofs.Ytjphnlkdbhcblaa.Row
open Go.ChangeShapes Go.WideShapes Go.ChangeAt Go.RowKit Go.Instr
set_option linter.unusedVariables false
set_option maxRecDepth 100000
theorem kLRq_holds {w : World} {x : Option Addr} {n c : Nat} {l : List Rqt} (h : kLRq.At w (.slice x n c) l) : HoldsK kRq.cells 3 w (.slice x n c) l := by
  obtain ⟨ad, n', cap, L, e, hn, ht, hh, -⟩ := kLRq_at h
  cases e
  rw [rq_map] at ht
  exact ht ▸ hh
set_option maxHeartbeats 8000000 in
theorem iCopyP (V : Value) (l : List Pit) (w : World) (h : kLPi.At w V l) (hf : FitP l) :
    Calls Try.prog 92 #[V] w fun e w' => ∃ U, e = .returned U ∧ kLPi.In w.heap.size w'.heap.size w' U l ∧ Below w.heap.size w w' := by
  have hl := hf.len
  have hp := hf.each
  obtain ⟨x, n, cx, L, rfl, hn, ht, hh, hel⟩ := kLPi_at h
  have hlen : l.length = n := by rw [← ht, List.length_map]; exact hn.symm
  rw [hlen] at hl
  have hcap : n ≤ cx := by obtain ⟨x', n', cap', hv, hn', hc', -⟩ := hh.shapeN; cases hv; exact hc'
  have HN := Lib.hid hn; have HT := Lib.hid ht; have HH := Lib.hid hh; have HEL := Lib.hid hel; have HLEN := Lib.hid hlen; have HP := Lib.hid hp
  clear hn ht hh hel hlen hp h
  obtain ⟨i0, hi, hz0, hz1, hz2⟩ := info_parts kindPi.elem
  have HI := Lib.hid hi; have HZ0 := Lib.hid hz0; have HZ1 := Lib.hid hz1; have HZ2 := Lib.hid hz2
  clear hi hz0 hz1 hz2
  go_enter Try.func92, Try.ntmps92
  go_wp2_with (at_make; refine wpList_make_own _ rfl _ _ 35 rfl w.heap.size 101 i0 (.agg #[.slice none 0 0, .slice none 0 0, .int .i64 0]) 3 Try.underlying35 HI.out HZ0.out HZ1.out _ _ _ n rfl rfl rfl (by rw [HZ2.out]; omega) (by unfold maxLen; omega) (Nat.le_refl _) ?_)
  intro w9 hown hgrow
  have HB := Lib.hid ((Below.refl w.heap.size w).grown hgrow (Nat.le_refl _) (fun g hg => by cases hg))
  have HO := Lib.hid (show kLPi.Own w.heap.size w9.heap.size w9 ⟨some ⟨w.heap.size, 0, none⟩, 0, n, []⟩ from Kd.own_row hown rfl)
  clear hown hgrow HI HZ0 HZ1 HZ2
  go_wp2
  go_loopw [3, 11] (fun uv iv wr => ∃ k : Nat, k ≤ n ∧ iv = .int .i64 k ∧ ∃ xu nu cu Lu, uv = .slice xu nu cu ∧ Hid (Lu.length = k) ∧ Hid (Lu.map kPi.strip = l.take k) ∧ Hid (kLPi.Own w.heap.size wr.heap.size wr ⟨xu, nu, cu, Lu⟩) ∧ Hid (Below w.heap.size w wr)) (fun _ iv _ => n - (intOf iv).toNat)
  case atStart => exact ⟨0, Nat.zero_le _, rfl, some ⟨w.heap.size, 0, none⟩, 0, n, [], rfl, Lib.hid rfl, Lib.hid (by simp), HO, HB⟩
  case round =>
    clear HO HB
    obtain ⟨k, hk, rfl, xu, nu, cu, Lu, rfl, hM, hst, ho, hb⟩ := hrel
    by_cases hlt : k < n
    · have hlen := HN.out
      obtain ⟨b, off, y0, m0, d0, y1, m1, d1, rfl, -, hc0, hc1, hc2, hA⟩ := kLPi_elem HH.out (fun y hy => HEL.out y hy) (j := k) (by omega)
      have hbw := Ret.cell_lt hc0
      have hpt : nth l k = kPi.strip (nth L k) := by rw [← HT.out, nth_map _ (by omega)]
      have hps := HP.out (nth l k) (nth_mem (by have := HLEN.out; omega))
      rw [← hpt] at hA hc2
      replace hA := hA.on hb.out
      replace hc0 := kc hc0 hb.out
      replace hc1 := kc hc1 hb.out
      replace hc2 := kc hc2 hb.out
      obtain ⟨hNM, hRQ⟩ := kPi_parts hA
      have HNM := Lib.hid hNM; have HRQ := Lib.hid hRQ; have HPN := Lib.hid (show bulk (nth l k).1 ≤ 1200000 from (wtPi_lens hps).1); have HPR := Lib.hid (show (nth l k).2.1.length ≤ 1200000 from (wtPi_lens hps).2)
      obtain ⟨nm, rq, ls, hx⟩ : ∃ nm rq ls, nth l k = (nm, rq, ls) := ⟨_, _, _, rfl⟩
      rw [hx] at HNM HRQ HPN HPR hc2 hA
      have HXE := Lib.hid hx
      simp only at HNM HRQ HPN HPR hc2
      clear hNM hRQ hx
      have H0 := Lib.hid hc0; have H1 := Lib.hid hc1; have H2 := Lib.hid hc2
      clear hlen hpt hps hA
      have hal := (Below.refl wr.heap.size wr).alloc (Nat.le_refl _) (.cells #[.slice y0 m0 d0, .slice y1 m1 d1, .int .i64 ls] 101)
      have HXB := Lib.hid (Ret.Blk.new wr #[.slice y0 m0 d0, .slice y1 m1 d1, .int .i64 ls] 101)
      have HPL := Lib.hid (fun e => by have h5 := (ho.out.1.1.lt _ (Eq.symm e)).2; omega : some wr.heap.size ≠ (Value.slice xu nu cu).ownBlock)
      have HOL := Lib.hid (ho.out.upto hal); have hb2 := Lib.hid (hb.out.trans (hal.mono hb.out.size)); have HN2 := Lib.hid (HNM.out.on hal); have HQ2 := Lib.hid (HRQ.out.on hal)
      have HBW := Lib.hid (show w.heap.size ≤ (wr.alloc (.cells #[.slice y0 m0 d0, .slice y1 m1 d1, .int .i64 ls] 101)).heap.size from hb2.out.size)
      have HLM := Lib.hid (show Lu.length ≤ 1100000 by have := hM.out; omega)
      clear hal
      go_wp2_with fail
      clear hc0 hc1 hc2
      refine rcp (B := w.heap.size) (Lu := Lu) HBW HLM HOL HPL HN2 HQ2 HPN HPR (Lib.hid (HXB.out.cell 0)) (Lib.hid (HXB.out.cell 1)) (Lib.hid (HXB.out.cell 2)) ?_
      intro u15 u16 u17 u18 u19 u20 u21 u22 u23 u24 u25 u26 x4 n4 c4 mm wx hs4 ho4 hbx
      have HB4 := Lib.hid (hb2.out.trans hbx)
      have HO4 := ho4
      have HST := Lib.hid (show (Lu ++ [mm]).map kPi.strip = l.take (k + 1) by
        rw [List.map_append, hst.out, take_nx (by have := HLEN.out; omega), HXE.out]
        show _ ++ [kPi.strip mm] = _
        rw [hs4.out])
      clear hbx hs4 ho4
      go_wp2
      go_roundw
      case rel => exact ⟨k + 1, by omega, by go_num, x4, n4, c4, Lu ++ [mm], rfl, Lib.hid (by have := hM.out; simp; omega), HST, HO4, HB4⟩
      case measure => simp [intOf]; omega
    · obtain rfl : k = n := by omega
      clear hlt
      have HE := Lib.hid (show Lu.map kPi.strip = l by rw [hst.out, List.take_of_length_le (by rw [HLEN.out]; exact Nat.le_refl _)])
      go_wp2
      go_ret
      exact ⟨_, rfl, HE.out ▸ (show kLPi.In _ _ _ (.slice xu nu cu) (Lu.map kPi.strip) from ho.out.in), hb.out⟩
set_option maxHeartbeats 8000000 in
theorem sCopyP (V : Value) (l : List Pit) (w : World) (h : kLPi.At w V l) (hf : FitP l) :
    Calls Try.prog 89 #[V] w fun e w' => ∃ U, e = .returned U ∧ kLPi.In w.heap.size w'.heap.size w' U l ∧ Below w.heap.size w w' := by
  have hl := hf.len
  have hp := hf.each
  obtain ⟨x, n, cx, L, rfl, hn, ht, hh, hel⟩ := kLPi_at h
  have hlen : l.length = n := by rw [← ht, List.length_map]; exact hn.symm
  rw [hlen] at hl
  have hcap : n ≤ cx := by obtain ⟨x', n', cap', hv, hn', hc', -⟩ := hh.shapeN; cases hv; exact hc'
  have HN := Lib.hid hn; have HT := Lib.hid ht; have HH := Lib.hid hh; have HEL := Lib.hid hel; have HLEN := Lib.hid hlen; have HP := Lib.hid hp
  clear hn ht hh hel hlen hp h
  have hown := ownK_empty kPi.cells 3 101 w
  have HB := Lib.hid ((Below.refl w.heap.size w).alloc (Nat.le_refl _) (.cells #[] 101))
  have HO := Lib.hid (show kLPi.Own w.heap.size (w.alloc (.cells #[] 101)).heap.size _ ⟨some ⟨w.heap.size, 0, none⟩, 0, 0, []⟩ from Kd.own_row hown rfl)
  clear hown
  go_enter Try.func89, Try.ntmps89
  go_wp2
  go_loopw [3, 4] (fun uv iv wr => ∃ k : Nat, k ≤ n ∧ iv = .int .i64 k ∧ ∃ xu nu cu Lu, uv = .slice xu nu cu ∧ Hid (Lu.length = k) ∧ Hid (Lu.map kPi.strip = l.take k) ∧ Hid (kLPi.Own w.heap.size wr.heap.size wr ⟨xu, nu, cu, Lu⟩) ∧ Hid (Below w.heap.size w wr)) (fun _ iv _ => n - (intOf iv).toNat)
  case atStart => exact ⟨0, Nat.zero_le _, rfl, some ⟨w.heap.size, 0, none⟩, 0, 0, [], rfl, Lib.hid rfl, Lib.hid (by simp), HO, HB⟩
  case round =>
    clear HO HB
    obtain ⟨k, hk, rfl, xu, nu, cu, Lu, rfl, hM, hst, ho, hb⟩ := hrel
    by_cases hlt : k < n
    · have hlen := HN.out
      obtain ⟨b, off, y0, m0, d0, y1, m1, d1, rfl, -, hc0, hc1, hc2, hA⟩ := kLPi_elem HH.out (fun y hy => HEL.out y hy) (j := k) (by omega)
      have hbw := Ret.cell_lt hc0
      have hpt : nth l k = kPi.strip (nth L k) := by rw [← HT.out, nth_map _ (by omega)]
      have hps := HP.out (nth l k) (nth_mem (by have := HLEN.out; omega))
      rw [← hpt] at hA hc2
      replace hA := hA.on hb.out
      replace hc0 := kc hc0 hb.out
      replace hc1 := kc hc1 hb.out
      replace hc2 := kc hc2 hb.out
      obtain ⟨hNM, hRQ⟩ := kPi_parts hA
      have HNM := Lib.hid hNM; have HRQ := Lib.hid hRQ; have HPN := Lib.hid (show bulk (nth l k).1 ≤ 1200000 from (wtPi_lens hps).1); have HPR := Lib.hid (show (nth l k).2.1.length ≤ 1200000 from (wtPi_lens hps).2)
      obtain ⟨nm, rq, ls, hx⟩ : ∃ nm rq ls, nth l k = (nm, rq, ls) := ⟨_, _, _, rfl⟩
      rw [hx] at HNM HRQ HPN HPR hc2 hA
      have HXE := Lib.hid hx
      simp only at HNM HRQ HPN HPR hc2
      clear hNM hRQ hx
      have H0 := Lib.hid hc0; have H1 := Lib.hid hc1; have H2 := Lib.hid hc2
      clear hlen hpt hps hA
      go_wp2_with fail
      refine (sCpyN HNM.out (Nat.le_trans HPN.out (by decide))).mono ?_
      rintro e w5 ⟨U, rfl, hi5, hb5⟩
      obtain ⟨m5, za, na, ea, rfl, hs5, hd5, ho5⟩ := kN_splitP hi5
      have hal := (Below.refl w5.heap.size w5).alloc (Nat.le_refl _) (.cells #[.slice za na ea] 27)
      have hbl := hb5.trans (hal.mono hb5.size)
      have HXB := Lib.hid (Ret.Blk.new w5 #[.slice za na ea] 27)
      have HPL := Lib.hid (fun e => by have h5 := (ho.out.1.1.lt _ (Eq.symm e)).2; have h6 := hb5.size; omega : some w5.heap.size ≠ (Value.slice xu nu cu).ownBlock)
      have HBR := Lib.hid (fun e => by have h5 := (ho.out.1.1.lt _ (Eq.symm e)).1; omega : some b ≠ (Value.slice xu nu cu).ownBlock)
      have HOL := Lib.hid (ho.out.on hbl); have hb2 := Lib.hid (hb.out.trans (hbl.mono hb.out.size)); have HON := Lib.hid (ho5.on hal); have HS5 := Lib.hid hs5; have HD5 := Lib.hid hd5; have HQ2 := Lib.hid (kLRq_holds (HRQ.out.on hbl))
      have HBW := Lib.hid (show w.heap.size ≤ (w5.alloc (.cells #[.slice za na ea] 27)).heap.size from hb2.out.size)
      have HC0 := Lib.hid hb.out.size; have HC1 := Lib.hid hbl.size
      have HLM := Lib.hid (show Lu.length ≤ 1100000 by have := hM.out; omega)
      have C1 := Lib.hid (kc H1.out hbl); have C2 := Lib.hid (kc H2.out hbl)
      clear hal hbl hi5 hb5 hs5 hd5 ho5 hbw hc0 hc1 hc2
      go_wp2_with fail
      refine rcm (B := w.heap.size) (Lu := Lu) HBW HLM hlt (by omega) (by omega) HOL HC0 HC1 HPL HBR HON HS5 HD5 HQ2 HPR (Lib.hid (HXB.out.cell 0)) C1 C2 ?_
      intro u19 u20 u21 u22 u23 u24 u25 u26 u27 u28 u29 u30 u31 u32 u33 u34 u35 x4 n4 c4 mm wx hs4 ho4 hbx
      have HB4 := Lib.hid (hb2.out.trans hbx)
      have HO4 := ho4
      have HST := Lib.hid (show (Lu ++ [mm]).map kPi.strip = l.take (k + 1) by
        rw [List.map_append, hst.out, take_nx (by have := HLEN.out; omega), HXE.out]
        show _ ++ [kPi.strip mm] = _
        rw [hs4.out])
      clear hbx hs4 ho4
      go_wp2
      go_roundw
      case rel => exact ⟨k + 1, by omega, by go_num, x4, n4, c4, Lu ++ [mm], rfl, Lib.hid (by have := hM.out; simp; omega), HST, HO4, HB4⟩
      case measure => simp [intOf]; omega
    · obtain rfl : k = n := by omega
      clear hlt
      have HE := Lib.hid (show Lu.map kPi.strip = l by rw [hst.out, List.take_of_length_le (by rw [HLEN.out]; exact Nat.le_refl _)])
      go_wp2
      go_ret
      exact ⟨_, rfl, HE.out ▸ (show kLPi.In _ _ _ (.slice xu nu cu) (Lu.map kPi.strip) from ho.out.in), hb.out⟩
set_option maxHeartbeats 8000000 in
theorem iCopyS (V : Value) (l : List Snt) (w : World) (h : kLSn.At w V l) (hf : FitS l) :
    Calls Try.prog 63 #[V] w fun e w' => ∃ U, e = .returned U ∧ kLSn.In w.heap.size w'.heap.size w' U l ∧ Below w.heap.size w w' := by
  have hl := hf.len
  have hp := hf.each
  obtain ⟨x, n, cx, L, rfl, hn, ht, hh, hel⟩ := kLSn_at h
  have hlen : l.length = n := by rw [← ht, List.length_map]; exact hn.symm
  rw [hlen] at hl
  have hcap : n ≤ cx := by obtain ⟨x', n', cap', hv, hn', hc', -⟩ := hh.shapeN; cases hv; exact hc'
  have HN := Lib.hid hn; have HT := Lib.hid ht; have HH := Lib.hid hh; have HEL := Lib.hid hel; have HLEN := Lib.hid hlen; have HP := Lib.hid hp
  clear hn ht hh hel hlen hp h
  obtain ⟨i0, hi, hz0, hz1, hz2⟩ := info_parts kindSn.elem
  have HI := Lib.hid hi; have HZ0 := Lib.hid hz0; have HZ1 := Lib.hid hz1; have HZ2 := Lib.hid hz2
  clear hi hz0 hz1 hz2
  go_enter Try.func63, Try.ntmps63
  go_wp2_with (at_make; refine wpList_make_own _ rfl _ _ 24 rfl w.heap.size 38 i0 (.agg #[.slice none 0 0, .int .i64 0]) 2 Try.underlying24 HI.out HZ0.out HZ1.out _ _ _ n rfl rfl rfl (by rw [HZ2.out]; omega) (by unfold maxLen; omega) (Nat.le_refl _) ?_)
  intro w9 hown hgrow
  have HB := Lib.hid ((Below.refl w.heap.size w).grown hgrow (Nat.le_refl _) (fun g hg => by cases hg))
  have HO := Lib.hid (show kLSn.Own w.heap.size w9.heap.size w9 ⟨some ⟨w.heap.size, 0, none⟩, 0, n, []⟩ from Kd.own_row hown rfl)
  clear hown hgrow HI HZ0 HZ1 HZ2
  go_wp2
  go_loopw [3, 11] (fun uv iv wr => ∃ k : Nat, k ≤ n ∧ iv = .int .i64 k ∧ ∃ xu nu cu Lu, uv = .slice xu nu cu ∧ Hid (Lu.length = k) ∧ Hid (Lu.map kSn.strip = l.take k) ∧ Hid (kLSn.Own w.heap.size wr.heap.size wr ⟨xu, nu, cu, Lu⟩) ∧ Hid (Below w.heap.size w wr)) (fun _ iv _ => n - (intOf iv).toNat)
  case atStart => exact ⟨0, Nat.zero_le _, rfl, some ⟨w.heap.size, 0, none⟩, 0, n, [], rfl, Lib.hid rfl, Lib.hid (by simp), HO, HB⟩
  case round =>
    clear HO HB
    obtain ⟨k, hk, rfl, xu, nu, cu, Lu, rfl, hM, hst, ho, hb⟩ := hrel
    by_cases hlt : k < n
    · have hlen := HN.out
      obtain ⟨b, off, y0, m0, d0, rfl, -, hc0, hc1, hA⟩ := kLSn_elem HH.out (fun y hy => HEL.out y hy) (j := k) (by omega)
      have hbw := Ret.cell_lt hc0
      have hpt : nth l k = kSn.strip (nth L k) := by rw [← HT.out, nth_map _ (by omega)]
      have hps := HP.out (nth l k) (nth_mem (by have := HLEN.out; omega))
      rw [← hpt] at hA hc1
      replace hA := hA.on hb.out
      replace hc0 := kc hc0 hb.out
      replace hc1 := kc hc1 hb.out
      have hNM := kSn_parts hA
      have HNM := Lib.hid hNM; have HPN := Lib.hid hps
      obtain ⟨nm, ls, hx⟩ : ∃ nm ls, nth l k = (nm, ls) := ⟨_, _, rfl⟩
      rw [hx] at HNM HPN hc1 hA
      have HXE := Lib.hid hx
      simp only at HNM HPN hc1
      clear hNM hx
      have H0 := Lib.hid hc0; have H1 := Lib.hid hc1
      clear hlen hpt hps hA
      have hal := (Below.refl wr.heap.size wr).alloc (Nat.le_refl _) (.cells #[.slice y0 m0 d0, .int .i64 ls] 38)
      have HXB := Lib.hid (Ret.Blk.new wr #[.slice y0 m0 d0, .int .i64 ls] 38)
      have HPL := Lib.hid (fun e => by have h5 := (ho.out.1.1.lt _ (Eq.symm e)).2; omega : some wr.heap.size ≠ (Value.slice xu nu cu).ownBlock)
      have HOL := Lib.hid (ho.out.upto hal); have hb2 := Lib.hid (hb.out.trans (hal.mono hb.out.size)); have HN2 := Lib.hid (HNM.out.on hal)
      have HBW := Lib.hid (show w.heap.size ≤ (wr.alloc (.cells #[.slice y0 m0 d0, .int .i64 ls] 38)).heap.size from hb2.out.size)
      have HLM := Lib.hid (show Lu.length ≤ 1100000 by have := hM.out; omega)
      clear hal
      go_wp2_with fail
      clear hc0 hc1
      refine rsp (B := w.heap.size) (Lu := Lu) HBW HLM HOL HPL HN2 HPN (Lib.hid (HXB.out.cell 0)) (Lib.hid (HXB.out.cell 1)) ?_
      intro u15 u16 u17 u18 u19 u20 u21 u22 u23 x4 n4 c4 mm wx hs4 ho4 hbx
      have HB4 := Lib.hid (hb2.out.trans hbx)
      have HO4 := ho4
      have HST := Lib.hid (show (Lu ++ [mm]).map kSn.strip = l.take (k + 1) by
        rw [List.map_append, hst.out, take_nx (by have := HLEN.out; omega), HXE.out]
        show _ ++ [kSn.strip mm] = _
        rw [hs4.out])
      clear hbx hs4 ho4
      go_wp2
      go_roundw
      case rel => exact ⟨k + 1, by omega, by go_num, x4, n4, c4, Lu ++ [mm], rfl, Lib.hid (by have := hM.out; simp; omega), HST, HO4, HB4⟩
      case measure => simp [intOf]; omega
    · obtain rfl : k = n := by omega
      clear hlt
      have HE := Lib.hid (show Lu.map kSn.strip = l by rw [hst.out, List.take_of_length_le (by rw [HLEN.out]; exact Nat.le_refl _)])
      go_wp2
      go_ret
      exact ⟨_, rfl, HE.out ▸ (show kLSn.In _ _ _ (.slice xu nu cu) (Lu.map kSn.strip) from ho.out.in), hb.out⟩
set_option maxHeartbeats 8000000 in
theorem sCopyS (V : Value) (l : List Snt) (w : World) (h : kLSn.At w V l) (hf : FitS l) :
    Calls Try.prog 66 #[V] w fun e w' => ∃ U, e = .returned U ∧ kLSn.In w.heap.size w'.heap.size w' U l ∧ Below w.heap.size w w' := by
  have hl := hf.len
  have hp := hf.each
  obtain ⟨x, n, cx, L, rfl, hn, ht, hh, hel⟩ := kLSn_at h
  have hlen : l.length = n := by rw [← ht, List.length_map]; exact hn.symm
  rw [hlen] at hl
  have hcap : n ≤ cx := by obtain ⟨x', n', cap', hv, hn', hc', -⟩ := hh.shapeN; cases hv; exact hc'
  have HN := Lib.hid hn; have HT := Lib.hid ht; have HH := Lib.hid hh; have HEL := Lib.hid hel; have HLEN := Lib.hid hlen; have HP := Lib.hid hp
  clear hn ht hh hel hlen hp h
  have hown := ownK_empty kSn.cells 2 38 w
  have HB := Lib.hid ((Below.refl w.heap.size w).alloc (Nat.le_refl _) (.cells #[] 38))
  have HO := Lib.hid (show kLSn.Own w.heap.size (w.alloc (.cells #[] 38)).heap.size _ ⟨some ⟨w.heap.size, 0, none⟩, 0, 0, []⟩ from Kd.own_row hown rfl)
  clear hown
  go_enter Try.func66, Try.ntmps66
  go_wp2
  go_loopw [3, 4] (fun uv iv wr => ∃ k : Nat, k ≤ n ∧ iv = .int .i64 k ∧ ∃ xu nu cu Lu, uv = .slice xu nu cu ∧ Hid (Lu.length = k) ∧ Hid (Lu.map kSn.strip = l.take k) ∧ Hid (kLSn.Own w.heap.size wr.heap.size wr ⟨xu, nu, cu, Lu⟩) ∧ Hid (Below w.heap.size w wr)) (fun _ iv _ => n - (intOf iv).toNat)
  case atStart => exact ⟨0, Nat.zero_le _, rfl, some ⟨w.heap.size, 0, none⟩, 0, 0, [], rfl, Lib.hid rfl, Lib.hid (by simp), HO, HB⟩
  case round =>
    clear HO HB
    obtain ⟨k, hk, rfl, xu, nu, cu, Lu, rfl, hM, hst, ho, hb⟩ := hrel
    by_cases hlt : k < n
    · have hlen := HN.out
      obtain ⟨b, off, y0, m0, d0, rfl, -, hc0, hc1, hA⟩ := kLSn_elem HH.out (fun y hy => HEL.out y hy) (j := k) (by omega)
      have hbw := Ret.cell_lt hc0
      have hpt : nth l k = kSn.strip (nth L k) := by rw [← HT.out, nth_map _ (by omega)]
      have hps := HP.out (nth l k) (nth_mem (by have := HLEN.out; omega))
      rw [← hpt] at hA hc1
      replace hA := hA.on hb.out
      replace hc0 := kc hc0 hb.out
      replace hc1 := kc hc1 hb.out
      have hNM := kSn_parts hA
      have HNM := Lib.hid hNM; have HPN := Lib.hid hps
      obtain ⟨nm, ls, hx⟩ : ∃ nm ls, nth l k = (nm, ls) := ⟨_, _, rfl⟩
      rw [hx] at HNM HPN hc1 hA
      have HXE := Lib.hid hx
      simp only at HNM HPN hc1
      clear hNM hx
      have H0 := Lib.hid hc0; have H1 := Lib.hid hc1
      clear hlen hpt hps hA
      go_wp2_with fail
      refine (sCpyN HNM.out (Nat.le_trans HPN.out (by decide))).mono ?_
      rintro e w5 ⟨U, rfl, hi5, hb5⟩
      obtain ⟨m5, za, na, ea, rfl, hs5, hd5, ho5⟩ := kN_splitP hi5
      have hal := (Below.refl w5.heap.size w5).alloc (Nat.le_refl _) (.cells #[.slice za na ea] 27)
      have hbl := hb5.trans (hal.mono hb5.size)
      have HXB := Lib.hid (Ret.Blk.new w5 #[.slice za na ea] 27)
      have HPL := Lib.hid (fun e => by have h5 := (ho.out.1.1.lt _ (Eq.symm e)).2; have h6 := hb5.size; omega : some w5.heap.size ≠ (Value.slice xu nu cu).ownBlock)
      have HBR := Lib.hid (fun e => by have h5 := (ho.out.1.1.lt _ (Eq.symm e)).1; omega : some b ≠ (Value.slice xu nu cu).ownBlock)
      have HOL := Lib.hid (ho.out.on hbl); have hb2 := Lib.hid (hb.out.trans (hbl.mono hb.out.size)); have HON := Lib.hid (ho5.on hal); have HS5 := Lib.hid hs5; have HD5 := Lib.hid hd5
      have HBW := Lib.hid (show w.heap.size ≤ (w5.alloc (.cells #[.slice za na ea] 27)).heap.size from hb2.out.size)
      have HC0 := Lib.hid hb.out.size; have HC1 := Lib.hid hbl.size
      have HLM := Lib.hid (show Lu.length ≤ 1100000 by have := hM.out; omega)
      have C1 := Lib.hid (kc H1.out hbl)
      clear hal hbl hi5 hb5 hs5 hd5 ho5 hbw hc0 hc1
      go_wp2_with fail
      refine rsm (B := w.heap.size) (Lu := Lu) HBW HLM hlt (by omega) (by omega) HOL HC0 HPL HBR HON HS5 HD5 (Lib.hid (HXB.out.cell 0)) C1 ?_
      intro u19 u20 u21 u22 u23 u24 u25 u26 u27 u28 x4 n4 c4 mm wx hs4 ho4 hbx
      have HB4 := Lib.hid (hb2.out.trans hbx)
      have HO4 := ho4
      have HST := Lib.hid (show (Lu ++ [mm]).map kSn.strip = l.take (k + 1) by
        rw [List.map_append, hst.out, take_nx (by have := HLEN.out; omega), HXE.out]
        show _ ++ [kSn.strip mm] = _
        rw [hs4.out])
      clear hbx hs4 ho4
      go_wp2
      go_roundw
      case rel => exact ⟨k + 1, by omega, by go_num, x4, n4, c4, Lu ++ [mm], rfl, Lib.hid (by have := hM.out; simp; omega), HST, HO4, HB4⟩
      case measure => simp [intOf]; omega
    · obtain rfl : k = n := by omega
      clear hlt
      have HE := Lib.hid (show Lu.map kSn.strip = l by rw [hst.out, List.take_of_length_le (by rw [HLEN.out]; exact Nat.le_refl _)])
      go_wp2
      go_ret
      exact ⟨_, rfl, HE.out ▸ (show kLSn.In _ _ _ (.slice xu nu cu) (Lu.map kSn.strip) from ho.out.in), hb.out⟩
end Go.Proofs.Ytjphnlkdbhcblaa.Row
/- MarkSent, model and program. No conditions but that lengths fit. -/
namespace Go.Proofs.Ytjphnlkdbhcblaa.Row
open Go.ChangeShapes Go.WideShapes Go.ChangeAt Go.RowKit Go.Instr
set_option linter.unusedVariables false
set_option maxRecDepth 100000
theorem put_last {B : Nat} {w : World} {g n cap j : Nat} {L : List Pim} {now : Int} (h : kLPi.Own B w.heap.size w ⟨some ⟨g, 0, none⟩, n, cap, L⟩) (hn : n = L.length) (hj : j < L.length) :
    kLPi.Own B (w.setCell ⟨g, j * 3 + 2, none⟩ (.int .i64 now)).heap.size (w.setCell ⟨g, j * 3 + 2, none⟩ (.int .i64 now)) ⟨some ⟨g, 0, none⟩, n, cap, L.set j ((nth L j).1, (nth L j).2.1, now)⟩ := by
  rw [World.size_setCell]
  exact (Kd.Own.put h hn hj (i := 2) (by decide) (u := .int .i64 now) (x' := (((nth L j).1, (nth L j).2.1, now) : Pim)) rfl rfl (fun h => h)).1
theorem sent_strip {L : List Pim} {j : Nat} {now : Int} (hj : j < L.length) : (L.set j (((nth L j).1, (nth L j).2.1, now) : Pim)).map kPi.strip = (L.map kPi.strip).set j ((nth (L.map kPi.strip) j).1, (nth (L.map kPi.strip) j).2.1, now) := by
  rw [List.map_set, nth_map _ hj]
  rfl
theorem row_form {α M : Type} {k : Kd α M} {e : TypeId} {B E : Nat} {w : World} {x : Option Addr} {n c : Nat} {L : List M} (h : (k.slice e).Own B E w ⟨x, n, c, L⟩) {j : Nat} (hj : j < L.length) : ∃ g, x = some ⟨g, 0, none⟩ ∧ n = L.length ∧ n ≤ c ∧ B ≤ g ∧ g < w.heap.size := by
  have hnl : n = L.length := h.1.1.holds.lenEq
  have hnc : n ≤ c := by obtain ⟨x', n', cap', hv, hn', hc', -⟩ := h.1.1.holds.shapeN; cases hv; exact hc'
  rcases h.1.1.form with ⟨hv, hL⟩ | ⟨g, cap', hv, h1, h2, h3, h4⟩
  · rw [show L = [] from hL] at hj
    exact absurd hj (by simp)
  · replace hv : Value.slice x n c = .slice (some ⟨g, 0, none⟩) L.length cap' := hv
    injection hv with e5 e6 e7
    exact ⟨g, e5, hnl, hnc, h1, h2⟩
set_option maxHeartbeats 8000000 in
theorem implMarkSent (V U : Value) (l : List Pit) (m : List ByteArray) (now : Int) (w : World) (h : kLPi.At w V l) (g : kN.At w U m) (hf : FitP l) (hm : bulk m ≤ 1200000) :
    Calls Try.prog 46 #[V, U, .int .i64 now] w fun e w' => ∃ U, e = .returned U ∧ kLPi.In w.heap.size w'.heap.size w' U (sentP l m now) ∧ Below w.heap.size w w' := by
  obtain ⟨x, n, c, rfl, h⟩ := kLPi_shapeA h
  obtain ⟨xn, nn, cn, rfl, g⟩ := kN_shapeA g
  have hal := (Below.refl w.heap.size w).alloc (Nat.le_refl _) (.cells #[.slice xn nn cn] 27)
  have HX := Lib.hid (Ret.Blk.new w #[.slice xn nn cn] 27)
  have HH := Lib.hid (h.on hal); have HG := Lib.hid (g.on hal); have HB := Lib.hid hal; have HF := Lib.hid hf
  have hs0 : (w.alloc (.cells #[.slice xn nn cn] 27)).heap.size = w.heap.size + 1 := by simp
  obtain ⟨z, hz⟩ : ∃ z, ixL (isP m) l = z := ⟨_, rfl⟩
  have HZ := Lib.hid hz
  clear h g hal hf hz
  go_enter Try.func46, Try.ntmps46
  go_wp2_with fail
  refine (iCopyP _ l _ HH.out HF.out).mono ?_
  rintro e w1 ⟨U, rfl, hi, hb1⟩
  obtain ⟨⟨xu, nu, cu, Lu⟩, rfl, hs, hi⟩ := hi.split
  replace hs : Lu.map kPi.strip = l := hs
  rw [show kLPi.val (⟨xu, nu, cu, Lu⟩ : Rw Pim) = .slice xu nu cu from rfl]
  rw [hs0] at hi
  have HO := Lib.hid hi; have HS := Lib.hid hs
  replace HX := Lib.hid (HX.out.on hb1); replace HH := Lib.hid (HH.out.on hb1); replace HG := Lib.hid (HG.out.on hb1); replace HB := Lib.hid (HB.out.trans (hb1.mono HB.out.size))
  have HLA : Hid (kLPi.At w1 (.slice xu nu cu) l) := Lib.hid ⟨⟨xu, nu, cu, Lu⟩, rfl, hs, hi.holds⟩
  clear hi hs hb1 hs0
  have q0 := HX.out.cell 0
  go_wp2_with fail
  refine (pIndex _ _ l m _ z HZ.out HLA.out HG.out HF.out.len9 HF.out.each hm).mono ?_
  rintro e w2 ⟨rfl, hb2⟩
  replace HO := Lib.hid (HO.out.upto hb2); replace HB := Lib.hid (HB.out.trans (hb2.mono HB.out.size))
  clear hb2 q0 HX HH HG HLA
  rcases ixL_cases (isP m) l with ⟨e1, -⟩ | ⟨k, hk, e1, -, -⟩
  · obtain rfl : z = -1 := by rw [← HZ.out]; exact e1
    have HR : Hid (Lu.map kPi.strip = sentP l m now) := Lib.hid (by rw [HS.out]; unfold sentP; rw [if_neg (by omega)])
    clear e1
    go_wp2
    go_ret
    exact ⟨_, rfl, HR.out ▸ (show kLPi.In w.heap.size w2.heap.size w2 (.slice xu nu cu) (Lu.map kPi.strip) from (HO.out.mono (Nat.le_succ _) (Nat.le_refl _)).in), HB.out⟩
  · obtain rfl : z = (k : Int) := by rw [← HZ.out]; exact e1
    have hkL : k < Lu.length := by rw [← HS.out, List.length_map] at hk; exact hk
    obtain ⟨gR, rfl, hnl, hnc, hg1, hg2⟩ := row_form HO.out hkL
    have HR : Hid ((Lu.set k (((nth Lu k).1, (nth Lu k).2.1, now) : Pim)).map kPi.strip = sentP l m now) := Lib.hid (by
      rw [sent_strip hkL, HS.out]; unfold sentP; rw [if_pos (by omega), e1]; rfl)
    have hkn : k < nu := by omega
    have hkc : k ≤ cu := by omega
    have hl9 := HF.out.len
    have hn9 : nu ≤ 1100000 := by rw [hnl]; rw [← HS.out, List.length_map] at hl9; exact hl9
    have c2 : w2.cell? ⟨gR, k * 3 + 2, none⟩ = (kPi.cells (nth Lu k))[2]? := (ownK_cell szPi_cells HO.out.1.1 hnl hkL (i := 2) (by decide)).1
    have f2 : w2.frozen? ⟨gR, k * 3 + 2, none⟩ = false := (ownK_cell szPi_cells HO.out.1.1 hnl hkL (i := 2) (by decide)).2
    obtain ⟨z2, hz2⟩ : ∃ z, w2.cell? ⟨gR, k * 3 + 2, none⟩ = some z := ⟨_, c2.trans (List.getElem?_eq_getElem (by rw [kPi.len]; decide))⟩
    have HO2 := Lib.hid (put_last (now := now) HO.out hnl hkL)
    have HB2 := Lib.hid (HB.out.setCell (p := ⟨gR, k * 3 + 2, none⟩) (by show w.heap.size ≤ gR; omega) (.int .i64 now))
    clear e1 hg1 hg2 hnl hkL hk c2 HO HB hl9
    go_wp2
    go_ret
    exact ⟨_, rfl, HR.out ▸ (show kLPi.In w.heap.size _ _ (.slice (some ⟨gR, 0, none⟩) nu cu) ((Lu.set k (((nth Lu k).1, (nth Lu k).2.1, now) : Pim)).map kPi.strip) from (HO2.out.mono (Nat.le_succ _) (Nat.le_refl _)).in), HB2.out⟩
set_option maxHeartbeats 8000000 in
theorem specMarkSent (V U : Value) (l : List Pit) (m : List ByteArray) (now : Int) (w : World) (h : kLPi.At w V l) (g : kN.At w U m) (hf : FitP l) (hm : bulk m ≤ 1200000) :
    Calls Try.prog 45 #[V, U, .int .i64 now] w fun e w' => ∃ U, e = .returned U ∧ kLPi.In w.heap.size w'.heap.size w' U (sentP l m now) ∧ Below w.heap.size w w' := by
  obtain ⟨x, n, c, rfl, h⟩ := kLPi_shapeA h
  obtain ⟨xn, nn, cn, rfl, g⟩ := kN_shapeA g
  have hal := (Below.refl w.heap.size w).alloc (Nat.le_refl _) (.cells #[.slice xn nn cn] 27)
  have HX := Lib.hid (Ret.Blk.new w #[.slice xn nn cn] 27)
  have HH := Lib.hid (h.on hal); have HG := Lib.hid (g.on hal); have HB := Lib.hid hal; have HF := Lib.hid hf
  have hs0 : (w.alloc (.cells #[.slice xn nn cn] 27)).heap.size = w.heap.size + 1 := by simp
  obtain ⟨z, hz⟩ : ∃ z, ixL (isP m) l = z := ⟨_, rfl⟩
  have HZ := Lib.hid hz
  clear h g hal hf hz
  go_enter Try.func45, Try.ntmps45
  go_wp2_with fail
  refine (sCopyP _ l _ HH.out HF.out).mono ?_
  rintro e w1 ⟨U, rfl, hi, hb1⟩
  obtain ⟨⟨xu, nu, cu, Lu⟩, rfl, hs, hi⟩ := hi.split
  replace hs : Lu.map kPi.strip = l := hs
  rw [show kLPi.val (⟨xu, nu, cu, Lu⟩ : Rw Pim) = .slice xu nu cu from rfl]
  rw [hs0] at hi
  have HO := Lib.hid hi; have HS := Lib.hid hs
  replace HX := Lib.hid (HX.out.on hb1); replace HH := Lib.hid (HH.out.on hb1); replace HG := Lib.hid (HG.out.on hb1); replace HB := Lib.hid (HB.out.trans (hb1.mono HB.out.size))
  have HLA : Hid (kLPi.At w1 (.slice xu nu cu) l) := Lib.hid ⟨⟨xu, nu, cu, Lu⟩, rfl, hs, hi.holds⟩
  clear hi hs hb1 hs0
  have q0 := HX.out.cell 0
  go_wp2_with fail
  refine (sFindP _ _ l m _ z HZ.out HH.out HG.out HF.out.len9 HF.out.each hm).mono ?_
  rintro e w2 ⟨rfl, hb2⟩
  replace HO := Lib.hid (HO.out.upto hb2); replace HB := Lib.hid (HB.out.trans (hb2.mono HB.out.size))
  clear hb2 q0 HX HH HG HLA
  rcases ixL_cases (isP m) l with ⟨e1, -⟩ | ⟨k, hk, e1, -, -⟩
  · obtain rfl : z = -1 := by rw [← HZ.out]; exact e1
    have HR : Hid (Lu.map kPi.strip = sentP l m now) := Lib.hid (by rw [HS.out]; unfold sentP; rw [if_neg (by omega)])
    clear e1
    go_wp2
    go_ret
    exact ⟨_, rfl, HR.out ▸ (show kLPi.In w.heap.size w2.heap.size w2 (.slice xu nu cu) (Lu.map kPi.strip) from (HO.out.mono (Nat.le_succ _) (Nat.le_refl _)).in), HB.out⟩
  · obtain rfl : z = (k : Int) := by rw [← HZ.out]; exact e1
    have hkL : k < Lu.length := by rw [← HS.out, List.length_map] at hk; exact hk
    obtain ⟨gR, rfl, hnl, hnc, hg1, hg2⟩ := row_form HO.out hkL
    have HR : Hid ((Lu.set k (((nth Lu k).1, (nth Lu k).2.1, now) : Pim)).map kPi.strip = sentP l m now) := Lib.hid (by
      rw [sent_strip hkL, HS.out]; unfold sentP; rw [if_pos (by omega), e1]; rfl)
    have hkn : k < nu := by omega
    have hkc : k ≤ cu := by omega
    have hl9 := HF.out.len
    have hn9 : nu ≤ 1100000 := by rw [hnl]; rw [← HS.out, List.length_map] at hl9; exact hl9
    have c2 : w2.cell? ⟨gR, k * 3 + 2, none⟩ = (kPi.cells (nth Lu k))[2]? := (ownK_cell szPi_cells HO.out.1.1 hnl hkL (i := 2) (by decide)).1
    have f2 : w2.frozen? ⟨gR, k * 3 + 2, none⟩ = false := (ownK_cell szPi_cells HO.out.1.1 hnl hkL (i := 2) (by decide)).2
    obtain ⟨z2, hz2⟩ : ∃ z, w2.cell? ⟨gR, k * 3 + 2, none⟩ = some z := ⟨_, c2.trans (List.getElem?_eq_getElem (by rw [kPi.len]; decide))⟩
    have HO2 := Lib.hid (put_last (now := now) HO.out hnl hkL)
    have HB2 := Lib.hid (HB.out.setCell (p := ⟨gR, k * 3 + 2, none⟩) (by show w.heap.size ≤ gR; omega) (.int .i64 now))
    clear e1 hg1 hg2 hnl hkL hk c2 HO HB hl9
    go_wp2
    go_ret
    exact ⟨_, rfl, HR.out ▸ (show kLPi.In w.heap.size _ _ (.slice (some ⟨gR, 0, none⟩) nu cu) ((Lu.set k (((nth Lu k).1, (nth Lu k).2.1, now) : Pim)).map kPi.strip) from (HO2.out.mono (Nat.le_succ _) (Nat.le_refl _)).in), HB2.out⟩
end Go.Proofs.Ytjphnlkdbhcblaa.Row
/- Two requesters compared. No conditions. -/
namespace Go.Proofs.Ytjphnlkdbhcblaa.Row
open Go.ChangeShapes Go.WideShapes Go.ChangeAt Go.RowKit Go.Instr
set_option linter.unusedVariables false
set_option maxRecDepth 100000
theorem rq_equal (a b c a' b' c' : Int) (w : World) : (Op.equalIn 10000 91 (.agg #[.int .i64 a, .int .i64 b, .int .i64 c]) (.agg #[.int .i64 a', .int .i64 b', .int .i64 c'])).run Try.prog w = .ok (decide (((a, b, c) : Rqt) = (a', b', c'))) w := by
  have e : (decide (((a, b, c) : Rqt) = (a', b', c'))) = (a == a' && (b == b' && c == c')) := by
    rw [Bool.eq_iff_iff]; simp
  rw [e, show (10000 : Nat) = 9999 + 1 from rfl, run_equalIn_struct _ _ _ _ _ (by kernel_rfl) (by kernel_rfl)]
  simp only [Program.fieldsOf, Try.underlying91]
  go_simp
  by_cases h1 : a = a' <;> by_cases h2 : b = b' <;> by_cases h3 : c = c' <;> simp [h1, h2, h3]
theorem rq_neq (a b c a' b' c' : Int) (q : Bool) (hq : decide (((a, b, c) : Rqt) = (a', b', c')) = q) (w : World) : (binOp .neq 91 (.agg #[.int .i64 a, .int .i64 b, .int .i64 c]) (.agg #[.int .i64 a', .int .i64 b', .int .i64 c'])).run Try.prog w = .ok (.bool (!q)) w := by
  rw [run_neq_struct, rq_equal, hq]
  rfl
end Go.Proofs.Ytjphnlkdbhcblaa.Row
/- EqualPending, model and program. No conditions but that lengths fit. -/
namespace Go.Proofs.Ytjphnlkdbhcblaa.Row
open Go.ChangeShapes Go.WideShapes Go.ChangeAt Go.RowKit Go.Instr
set_option linter.unusedVariables false
set_option maxRecDepth 100000
theorem eqP_step {α : Type} [Inhabited α] {l m : List α} {k : Nat} (h : l.take k = m.take k) (hl : k < l.length) (hm : k < m.length) (e : nth l k = nth m k) : l.take (k + 1) = m.take (k + 1) := by rw [take_nx hl, take_nx hm, h, e]
theorem neP_step {α : Type} [Inhabited α] {l m : List α} {k : Nat} (h : nth l k ≠ nth m k) : l ≠ m := fun e => h (by rw [e])
theorem rq_guard : Try.prog.eqGuardType Try.prog.depth 91 = false := by kernel_rfl
set_option maxRecDepth 100000 in
set_option maxHeartbeats 4000000 in
theorem req {Q : Exit → Act → World → Prop} {v2 v3 v4 v6 v7 v8 v9 v10 v11 v12 v13 v14 v15 v16 v17 v18 v19 v20 v21 v22 v23 v24 v25 : Value} {w : World} {b off n c b2 off2 n2 c2 k : Nat} {a0 a1 a2 g0 g1 g2 : Int} {q : Bool} (hk : k < n) (hk2 : k < n2) (hne : ∀ w : World, (binOp .neq 91 (.agg #[.int .i64 a0, .int .i64 a1, .int .i64 a2]) (.agg #[.int .i64 g0, .int .i64 g1, .int .i64 g2])).run Try.prog w = .ok (.bool (!q)) w) (hgt : Try.prog.eqGuardType Try.prog.depth 91 = false) (K0 : Hid (w.cell? ⟨b, off + k * 3, none⟩ = some (.int .i64 a0))) (K1 : Hid (w.cell? ⟨b, off + k * 3 + 1, none⟩ = some (.int .i64 a1))) (K2 : Hid (w.cell? ⟨b, off + k * 3 + 2, none⟩ = some (.int .i64 a2))) (J0 : Hid (w.cell? ⟨b2, off2 + k * 3, none⟩ = some (.int .i64 g0))) (J1 : Hid (w.cell? ⟨b2, off2 + k * 3 + 1, none⟩ = some (.int .i64 g1))) (J2 : Hid (w.cell? ⟨b2, off2 + k * 3 + 2, none⟩ = some (.int .i64 g2)))
  (hQ : ∀ (u16 u17 u18 u19 u20 u21 u22 u23 : Value)  (wx : World), Below w.heap.size w wx → Q .normal ⟨#[.slice (some ⟨b, off, none⟩) n c, .slice (some ⟨b2, off2, none⟩) n2 c2, v2, v3, v4, .int .i64 k, v6, v7, v8, v9, v10, v11, v12, v13, v14, v15, u16, u17, u18, u19, u20, u21, u22, u23, .bool (!q), v25], []⟩ wx) :
  (Code.region 6 #[⟨some 16, .move (.tmp 0), 68, "slices.go:25", #[], none⟩,
   ⟨some 17, .move (.tmp 5), 3, "slices.go:25", #[], none⟩,
   ⟨some 18, .indexAddr 68 (.tmp 16) (.tmp 17), 0, "slices.go:25", #[⟨0, .data⟩, ⟨1, .data⟩], none⟩,
   ⟨some 19, .load 91 (.tmp 18), 91, "slices.go:25", #[⟨2, .data⟩], none⟩,
   ⟨some 20, .move (.tmp 1), 68, "slices.go:25", #[], none⟩,
   ⟨some 21, .move (.tmp 5), 3, "slices.go:25", #[], none⟩,
   ⟨some 22, .indexAddr 68 (.tmp 20) (.tmp 21), 0, "slices.go:25", #[⟨4, .data⟩, ⟨5, .data⟩], none⟩,
   ⟨some 23, .load 91 (.tmp 22), 91, "slices.go:25", #[⟨6, .data⟩], none⟩,
   ⟨some 24, .binOp BinOp.neq 91 (.tmp 19) (.tmp 23) 91, 4, "slices.go:25", #[⟨3, .data⟩, ⟨7, .data⟩], none⟩] true).wp Try.prog Q ⟨#[.slice (some ⟨b, off, none⟩) n c, .slice (some ⟨b2, off2, none⟩) n2 c2, v2, v3, v4, .int .i64 k, v6, v7, v8, v9, v10, v11, v12, v13, v14, v15, v16, v17, v18, v19, v20, v21, v22, v23, v24, v25], []⟩ w := by
 have HQ := Lib.hid hQ; clear hQ
 have hdr : Below w.heap.size w w.drew := (Below.refl _ _).drew
 have BB := Lib.hid hdr
 refine wp_region_noPanic ?_
 refine wp_region_held_drew (S := (fun w' => w'.cell? ⟨b, off + k * 3, none⟩ = some (.int .i64 a0) ∧ w'.cell? ⟨b, off + k * 3 + 1, none⟩ = some (.int .i64 a1) ∧ w'.cell? ⟨b, off + k * 3 + 2, none⟩ = some (.int .i64 a2) ∧ w'.cell? ⟨b2, off2 + k * 3, none⟩ = some (.int .i64 g0) ∧ w'.cell? ⟨b2, off2 + k * 3 + 1, none⟩ = some (.int .i64 g1) ∧ w'.cell? ⟨b2, off2 + k * 3 + 2, none⟩ = some (.int .i64 g2))) (by kernel_rfl) ?_ (fun hHeld => ?_)
 ·
  exact ⟨kc K0.out BB.out, kc K1.out BB.out, kc K2.out BB.out, kc J0.out BB.out, kc J1.out BB.out, kc J2.out BB.out⟩
 clear hdr
 generalize w.drew = wd at *
 refine wpAnyH_take (i := 0) (oi := ⟨some 16, .move (.tmp 0), 68, "slices.go:25", #[], none⟩) (v := ?_) rfl (by kernel_rfl) (by kernel_rfl) (by kernel_rfl) (fun _ _ _ h => h) (Or.inl ⟨by rfl, ?_⟩) (by assumption) ?_
 rotate_left
 ·
  intro w' hSw; (try dsimp only at hSw); first | (go_simp; done) | (go_simp; with_reducible rfl)
 (try simp only [Act.put, Row.pB0, Row.pB1, Row.pB2])
 refine wpAnyH_take (i := 1) (oi := ⟨some 17, .move (.tmp 5), 3, "slices.go:25", #[], none⟩) (v := ?_) rfl (by kernel_rfl) (by kernel_rfl) (by kernel_rfl) (fun _ _ _ h => h) (Or.inl ⟨by rfl, ?_⟩) (by assumption) ?_
 rotate_left
 ·
  intro w' hSw; (try dsimp only at hSw); first | (go_simp; done) | (go_simp; with_reducible rfl)
 (try simp only [Act.put, Row.pB0, Row.pB1, Row.pB2])
 refine wpAnyH_take (i := 2) (oi := ⟨some 18, .indexAddr 68 (.tmp 16) (.tmp 17), 0, "slices.go:25", #[⟨0, .data⟩, ⟨1, .data⟩], none⟩) (v := ?_) rfl (by kernel_rfl) (by kernel_rfl) (by kernel_rfl) (fun _ _ _ h => h) (Or.inl ⟨by rfl, ?_⟩) (by assumption) ?_
 rotate_left
 ·
  intro w' hSw; (try dsimp only at hSw); first | (go_simp; done) | (go_simp; with_reducible rfl)
 (try simp only [Act.put, Row.pB0, Row.pB1, Row.pB2])
 refine wpAnyH_take (i := 3) (oi := ⟨some 19, .load 91 (.tmp 18), 91, "slices.go:25", #[⟨2, .data⟩], none⟩) (v := ?_) rfl (by kernel_rfl) (by kernel_rfl) (by kernel_rfl) (fun _ _ _ h => h) (Or.inl ⟨by rfl, ?_⟩) (by assumption) ?_
 rotate_left
 ·
  intro w' hSw; (try dsimp only at hSw); first | (go_simp; done) | (go_simp; with_reducible rfl)
 (try simp only [Act.put, Row.pB0, Row.pB1, Row.pB2])
 refine wpAnyH_take (i := 4) (oi := ⟨some 20, .move (.tmp 1), 68, "slices.go:25", #[], none⟩) (v := ?_) rfl (by kernel_rfl) (by kernel_rfl) (by kernel_rfl) (fun _ _ _ h => h) (Or.inl ⟨by rfl, ?_⟩) (by assumption) ?_
 rotate_left
 ·
  intro w' hSw; (try dsimp only at hSw); first | (go_simp; done) | (go_simp; with_reducible rfl)
 (try simp only [Act.put, Row.pB0, Row.pB1, Row.pB2])
 refine wpAnyH_take (i := 5) (oi := ⟨some 21, .move (.tmp 5), 3, "slices.go:25", #[], none⟩) (v := ?_) rfl (by kernel_rfl) (by kernel_rfl) (by kernel_rfl) (fun _ _ _ h => h) (Or.inl ⟨by rfl, ?_⟩) (by assumption) ?_
 rotate_left
 ·
  intro w' hSw; (try dsimp only at hSw); first | (go_simp; done) | (go_simp; with_reducible rfl)
 (try simp only [Act.put, Row.pB0, Row.pB1, Row.pB2])
 refine wpAnyH_take (i := 6) (oi := ⟨some 22, .indexAddr 68 (.tmp 20) (.tmp 21), 0, "slices.go:25", #[⟨4, .data⟩, ⟨5, .data⟩], none⟩) (v := ?_) rfl (by kernel_rfl) (by kernel_rfl) (by kernel_rfl) (fun _ _ _ h => h) (Or.inl ⟨by rfl, ?_⟩) (by assumption) ?_
 rotate_left
 ·
  intro w' hSw; (try dsimp only at hSw); first | (go_simp; done) | (go_simp; with_reducible rfl)
 (try simp only [Act.put, Row.pB0, Row.pB1, Row.pB2])
 refine wpAnyH_take (i := 7) (oi := ⟨some 23, .load 91 (.tmp 22), 91, "slices.go:25", #[⟨6, .data⟩], none⟩) (v := ?_) rfl (by kernel_rfl) (by kernel_rfl) (by kernel_rfl) (fun _ _ _ h => h) (Or.inl ⟨by rfl, ?_⟩) (by assumption) ?_
 rotate_left
 ·
  intro w' hSw; (try dsimp only at hSw); first | (go_simp; done) | (go_simp; with_reducible rfl)
 (try simp only [Act.put, Row.pB0, Row.pB1, Row.pB2])
 refine wpAnyH_take (i := 8) (oi := ⟨some 24, .binOp BinOp.neq 91 (.tmp 19) (.tmp 23) 91, 4, "slices.go:25", #[⟨3, .data⟩, ⟨7, .data⟩], none⟩) (v := ?_) rfl (by kernel_rfl) (by kernel_rfl) (by kernel_rfl) (fun _ _ _ h => h) (Or.inl ⟨by rfl, ?_⟩) (by assumption) ?_
 rotate_left
 ·
  intro w' hSw; (try dsimp only at hSw); first | (go_simp; done) | (go_simp; with_reducible rfl)
 (try simp only [Act.put, Row.pB0, Row.pB1, Row.pB2])
 refine wpAnyH_done (by kernel_rfl) ?_ _
 exact NoPanic.normal (HQ.out _ _ _ _ _ _ _ _  _  BB.out)
set_option maxHeartbeats 4000000 in
theorem iEqQ (V U : Value) (l m : List Rqt) (w : World) (z : Bool) (hz : decide (l = m) = z) (h : kLRq.At w V l) (g : kLRq.At w U m) (hl : l.length ≤ 9000000) (hl' : m.length ≤ 9000000) :
    Calls Try.prog 135 #[V, U] w fun e w' => e = .returned (.bool z) ∧ Below w.heap.size w w' := by
  obtain ⟨x, n, c, L, rfl, hn, ht, hh, hel⟩ := kLRq_at h
  obtain ⟨x2, n2, c2, M, rfl, hn2, ht2, hh2, hel2⟩ := kLRq_at g
  have hlen : l.length = n := by rw [← ht, List.length_map]; exact hn.symm
  have hlen2 : m.length = n2 := by rw [← ht2, List.length_map]; exact hn2.symm
  rw [hlen] at hl
  rw [hlen2] at hl'
  have hcap : n ≤ c := by obtain ⟨x', n', cap', hv, hn', hc', -⟩ := hh.shapeN; cases hv; exact hc'
  have hcap2 : n2 ≤ c2 := by obtain ⟨x', n', cap', hv, hn', hc', -⟩ := hh2.shapeN; cases hv; exact hc'
  have HN := Lib.hid hn; have HT := Lib.hid ht; have HH := Lib.hid hh; have HEL := Lib.hid hel; have HLEN := Lib.hid hlen; have HZ := Lib.hid hz
  have HN2 := Lib.hid hn2; have HT2 := Lib.hid ht2; have HH2 := Lib.hid hh2; have HEL2 := Lib.hid hel2; have HLEN2 := Lib.hid hlen2
  clear hz hn ht hh hel hlen h hn2 ht2 hh2 hel2 hlen2 g
  by_cases hnn : n = n2
  · have tn : (((n : Nat) : Int) != ((n2 : Nat) : Int)) = false := by rw [hnn]; simp
    have HNN := Lib.hid hnn
    clear hnn
    go_enter Try.func135, Try.ntmps135
    go_wp2
    go_loopw [13] (fun iv wr => ∃ i : Nat, i ≤ n ∧ iv = .int .i64 i ∧ Hid (l.take i = m.take i) ∧ Hid (Below w.heap.size w wr)) (fun iv _ => n - (intOf iv).toNat)
    case atStart => exact ⟨0, Nat.zero_le _, rfl, Lib.hid rfl, Lib.hid (Below.refl _ _)⟩
    case round =>
      obtain ⟨k, hk, rfl, ha, hb⟩ := hrel
      by_cases hlt : k < n
      · have hlt2 : k < n2 := by have := HNN.out; omega
        have hlen := HN.out
        have hlen2 := HN2.out
        obtain ⟨b, off, rfl, -, hc0, hc1, hc2, hA⟩ := kLRq_elem (HH.out.on hb.out) (fun y hy => kRq.holds_on (HEL.out y hy) hb.out) (j := k) (by omega)
        obtain ⟨b2, off2, rfl, -, gc0, gc1, gc2, gA⟩ := kLRq_elem (HH2.out.on hb.out) (fun y hy => kRq.holds_on (HEL2.out y hy) hb.out) (j := k) (by omega)
        have hpt : nth l k = kRq.strip (nth L k) := by rw [← HT.out, nth_map _ (by omega)]
        have hpt2 : nth m k = kRq.strip (nth M k) := by rw [← HT2.out, nth_map _ (by omega)]
        rw [← hpt] at hc0 hc1 hc2
        rw [← hpt2] at gc0 gc1 gc2
        obtain ⟨a0, a1, a2, hx⟩ : ∃ a b c, nth l k = (a, b, c) := ⟨_, _, _, rfl⟩
        obtain ⟨g0, g1, g2, hx2⟩ : ∃ a b c, nth m k = (a, b, c) := ⟨_, _, _, rfl⟩
        rw [hx] at hc0 hc1 hc2
        rw [hx2] at gc0 gc1 gc2
        simp only at hc0 hc1 hc2 gc0 gc1 gc2
        obtain ⟨q, hq⟩ : ∃ q, decide (((a0, a1, a2) : Rqt) = (g0, g1, g2)) = q := ⟨_, rfl⟩
        have HQ := Lib.hid hq; have HX := Lib.hid hx; have HX2 := Lib.hid hx2
        have H0 := Lib.hid hc0; have H1 := Lib.hid hc1; have H2 := Lib.hid hc2; have G0 := Lib.hid gc0; have G1 := Lib.hid gc1; have G2 := Lib.hid gc2
        clear hlen hlen2 hpt hpt2 hA gA hx hx2 hq hc0 hc1 hc2 gc0 gc1 gc2
        go_wp2_with fail
        refine req (a0 := a0) (a1 := a1) (a2 := a2) (g0 := g0) (g1 := g1) (g2 := g2) (q := q) hlt hlt2 (rq_neq a0 a1 a2 g0 g1 g2 q HQ.out) rq_guard H0 H1 H2 G0 G1 G2 ?_
        intro u16 u17 u18 u19 u20 u21 u22 u23 wx hbx
        have HB3 := Lib.hid (hb.out.trans (hbx.mono hb.out.size))
        clear hbx
        cases q with
        | true =>
          have HA5 := Lib.hid (eqP_step ha.out (by have := HLEN.out; omega) (by have := HLEN2.out; omega) (by rw [HX.out, HX2.out]; exact of_decide_eq_true HQ.out))
          go_wp2
          go_roundw
          case rel => exact ⟨k + 1, by omega, by go_num, HA5, HB3⟩
          case measure => simp [intOf]; omega
        | false =>
          have HE : Hid (z = false) := Lib.hid (by rw [← HZ.out]; exact decide_eq_false (neP_step (k := k) (by rw [HX.out, HX2.out]; exact of_decide_eq_false HQ.out)))
          go_wp2
          go_ret
          exact ⟨ret_bool HE.out.symm, HB3.out⟩
      · obtain rfl : k = n := by omega
        have HE : Hid (z = true) := Lib.hid (by
          rw [← HZ.out]
          have h1 := ha.out
          rw [List.take_of_length_le (by rw [HLEN.out]; exact Nat.le_refl _), List.take_of_length_le (by rw [HLEN2.out, HNN.out]; exact Nat.le_refl _)] at h1
          exact decide_eq_true h1)
        clear hlt
        go_wp2
        go_ret
        exact ⟨ret_bool HE.out.symm, hb.out⟩
  · have tn : (((n : Nat) : Int) != ((n2 : Nat) : Int)) = true := by rw [bne_iff_ne]; omega
    have HE : Hid (z = false) := Lib.hid (by rw [← HZ.out]; exact decide_eq_false (fun e => hnn (by rw [← HLEN.out, ← HLEN2.out, e])))
    go_enter Try.func135, Try.ntmps135
    go_wp2
    go_ret
    exact ⟨ret_bool HE.out.symm, Below.refl _ _⟩
set_option maxHeartbeats 4000000 in
theorem iEqI (V U : Value) (x y : Pit) (w : World) (q : Bool) (hq : decide (x = y) = q) (h : kPi.At w V x) (g : kPi.At w U y) (hp : wtPi x ≤ 1200000) (hp' : wtPi y ≤ 1200000) :
    Calls Try.prog 107 #[V, U] w fun e w' => e = .returned (.bool q) ∧ Below w.heap.size w w' := by
  obtain ⟨y0, m0, d0, y1, m1, d1, rfl, h⟩ := kPi_shapeA h
  obtain ⟨z0, p0, e0, z1, p1, e1, rfl, g⟩ := kPi_shapeA g
  obtain ⟨hN, hR⟩ := kPi_parts h
  obtain ⟨gN, gR⟩ := kPi_parts g
  obtain ⟨l1, l2⟩ := wtPi_lens hp
  obtain ⟨l3, l4⟩ := wtPi_lens hp'
  obtain ⟨nm, rq, ls⟩ := x
  obtain ⟨nm2, rq2, ls2⟩ := y
  dsimp only at hN hR gN gR l1 l2 l3 l4 ⊢
  have b0 := (Below.refl w.heap.size w).alloc (Nat.le_refl _) (.cells #[.slice y0 m0 d0, .slice y1 m1 d1, .int .i64 ls] 101)
  have b1 := (Below.refl (w.alloc (.cells #[.slice y0 m0 d0, .slice y1 m1 d1, .int .i64 ls] 101)).heap.size (w.alloc (.cells #[.slice y0 m0 d0, .slice y1 m1 d1, .int .i64 ls] 101))).alloc (Nat.le_refl _) (.cells #[.slice z0 p0 e0, .slice z1 p1 e1, .int .i64 ls2] 101)
  have b01 := b0.trans (b1.mono b0.size)
  have HX := Lib.hid ((Ret.Blk.new w #[.slice y0 m0 d0, .slice y1 m1 d1, .int .i64 ls] 101).on b1)
  have HY := Lib.hid (Ret.Blk.new' (w := (w.alloc (.cells #[.slice y0 m0 d0, .slice y1 m1 d1, .int .i64 ls] 101))) (n := w.heap.size + 1) #[.slice z0 p0 e0, .slice z1 p1 e1, .int .i64 ls2] 101 (by simp))
  have HD := Lib.hid (hN.on b01); have HD2 := Lib.hid (gN.on b01); have HR := Lib.hid (hR.on b01); have HR2 := Lib.hid (gR.on b01); have HB := Lib.hid b01
  obtain ⟨a, ha⟩ : ∃ a, decide (nm = nm2) = a := ⟨_, rfl⟩
  obtain ⟨r, hr⟩ : ∃ r, decide (rq = rq2) = r := ⟨_, rfl⟩
  have HA := Lib.hid ha; have HRR := Lib.hid hr
  have HQ : Hid (q = (a && (r && decide (ls = ls2)))) := Lib.hid (by rw [← hq, ← ha, ← hr]; simp [Prod.ext_iff])
  clear b0 b1 b01 h g ha hr hq hp hp' hN hR gN gR
  go_enter Try.func107, Try.ntmps107
  go_wp2_with fail
  refine (iEqK a HA.out HD.out HD2.out (by omega) (by omega)).mono ?_
  rintro e w1 ⟨rfl, hb⟩
  have HX1 := Lib.hid (HX.out.on hb); have HY1 := Lib.hid (HY.out.on hb); replace HR := Lib.hid (HR.out.on hb); replace HR2 := Lib.hid (HR2.out.on hb)
  have HB2 := Lib.hid (HB.out.trans (hb.mono HB.out.size)); clear hb
  cases a with
  | false =>
    have HE : Hid (q = false) := Lib.hid (by rw [HQ.out]; rfl)
    go_wp2
    go_ret
    exact ⟨ret_bool HE.out.symm, HB2.out⟩
  | true =>
    have f1 : w1.cell? ⟨w.heap.size, 1, none⟩ = some (.slice y1 m1 d1) := HX1.out.cell 1
    have g1 : w1.cell? ⟨w.heap.size + 1, 1, none⟩ = some (.slice z1 p1 e1) := HY1.out.cell 1
    go_wp2_with fail
    refine (iEqQ _ _ rq rq2 _ r HRR.out HR.out HR2.out (by omega) (by omega)).mono ?_
    rintro e w2 ⟨rfl, hb⟩
    have HX2 := Lib.hid (HX1.out.on hb); have HY2 := Lib.hid (HY1.out.on hb)
    have HB3 := Lib.hid (HB2.out.trans (hb.mono HB2.out.size)); clear hb f1 g1
    cases r with
    | false =>
      have HE : Hid (q = false) := Lib.hid (by rw [HQ.out]; rfl)
      go_wp2
      go_ret
      exact ⟨ret_bool HE.out.symm, HB3.out⟩
    | true =>
      have f2 : w2.cell? ⟨w.heap.size, 2, none⟩ = some (.int .i64 ls) := HX2.out.cell 2
      have g2 : w2.cell? ⟨w.heap.size + 1, 2, none⟩ = some (.int .i64 ls2) := HY2.out.cell 2
      by_cases hu : ls = ls2
      · have HE : Hid (q = true) := Lib.hid (by rw [HQ.out]; simp [hu])
        have t0 : (ls == ls2) = true := by simp [hu]
        have HU := Lib.hid hu; clear hu
        go_wp2
        go_ret
        exact ⟨ret_bool HE.out.symm, HB3.out⟩
      · have HE : Hid (q = false) := Lib.hid (by rw [HQ.out]; simp [hu])
        have t0 : (ls == ls2) = false := by simpa using hu
        clear hu
        go_wp2
        go_ret
        exact ⟨ret_bool HE.out.symm, HB3.out⟩
set_option maxHeartbeats 8000000 in
theorem iEqF (V U : Value) (l m : List Pit) (w : World) (z : Bool) (hz : decide (l = m) = z) (h : kLPi.At w V l) (g : kLPi.At w U m) (hf : FitP l) (hf' : FitP m) :
    Calls Try.prog 106 #[V, U, .func (.func 107) #[] #[]] w fun e w' => e = .returned (.bool z) ∧ Below w.heap.size w w' := by
  have hl := hf.len; have hl' := hf'.len; have hp := hf.each; have hp' := hf'.each
  obtain ⟨x, n, c, L, rfl, hn, ht, hh, hel⟩ := kLPi_at h
  obtain ⟨x2, n2, c2, M, rfl, hn2, ht2, hh2, hel2⟩ := kLPi_at g
  have hlen : l.length = n := by rw [← ht, List.length_map]; exact hn.symm
  have hlen2 : m.length = n2 := by rw [← ht2, List.length_map]; exact hn2.symm
  rw [hlen] at hl
  rw [hlen2] at hl'
  have hcap : n ≤ c := by obtain ⟨x', n', cap', hv, hn', hc', -⟩ := hh.shapeN; cases hv; exact hc'
  have hcap2 : n2 ≤ c2 := by obtain ⟨x', n', cap', hv, hn', hc', -⟩ := hh2.shapeN; cases hv; exact hc'
  have HZ := Lib.hid hz
  have HN := Lib.hid hn; have HT := Lib.hid ht; have HH := Lib.hid hh; have HEL := Lib.hid hel; have HLEN := Lib.hid hlen; have HP := Lib.hid hp
  have HN2 := Lib.hid hn2; have HT2 := Lib.hid ht2; have HH2 := Lib.hid hh2; have HEL2 := Lib.hid hel2; have HLEN2 := Lib.hid hlen2; have HP2 := Lib.hid hp'
  clear hz hn ht hh hel hlen hp h hn2 ht2 hh2 hel2 hlen2 hp' g
  by_cases hnn : n = n2
  · have tn : (((n : Nat) : Int) != ((n2 : Nat) : Int)) = false := by rw [hnn]; simp
    have HNN := Lib.hid hnn
    clear hnn
    go_enter Try.func106, Try.ntmps106
    go_wp2
    go_loopw [17] (fun iv wr => ∃ i : Nat, i ≤ n ∧ iv = .int .i64 i ∧ Hid (l.take i = m.take i) ∧ Hid (Below w.heap.size w wr)) (fun iv _ => n - (intOf iv).toNat)
    case atStart => exact ⟨0, Nat.zero_le _, rfl, Lib.hid rfl, Lib.hid (Below.refl _ _)⟩
    case round =>
      obtain ⟨k, hk, rfl, ha, hb⟩ := hrel
      by_cases hlt : k < n
      · have hlt2 : k < n2 := by have := HNN.out; omega
        have hlen := HN.out
        have hlen2 := HN2.out
        obtain ⟨b, off, y0, m0, d0, y1, m1, d1, rfl, -, hc0, hc1, hc2, hA⟩ := kLPi_elem (HH.out.on hb.out) (fun y hy => kPi.holds_on (HEL.out y hy) hb.out) (j := k) (by omega)
        obtain ⟨b2, off2, z0, p0, e0, z1, p1, e1, rfl, -, gc0, gc1, gc2, gA⟩ := kLPi_elem (HH2.out.on hb.out) (fun y hy => kPi.holds_on (HEL2.out y hy) hb.out) (j := k) (by omega)
        have hpt : nth l k = kPi.strip (nth L k) := by rw [← HT.out, nth_map _ (by omega)]
        have hpt2 : nth m k = kPi.strip (nth M k) := by rw [← HT2.out, nth_map _ (by omega)]
        have hps := HP.out (nth l k) (nth_mem (by have := HLEN.out; omega))
        have hps2 := HP2.out (nth m k) (nth_mem (by have := HLEN2.out; omega))
        rw [← hpt] at hA hc2
        rw [← hpt2] at gA gc2
        obtain ⟨nm, rq, ls, hx⟩ : ∃ nm rq ls, nth l k = (nm, rq, ls) := ⟨_, _, _, rfl⟩
        obtain ⟨nm2, rq2, ls2, hx2⟩ : ∃ nm rq ls, nth m k = (nm, rq, ls) := ⟨_, _, _, rfl⟩
        rw [hx] at hA hc2 hps
        rw [hx2] at gA gc2 hps2
        simp only at hc2 gc2
        have HXE := Lib.hid hx; have HXE2 := Lib.hid hx2
        obtain ⟨hNM, hRQ⟩ := kPi_parts hA
        obtain ⟨gNM, gRQ⟩ := kPi_parts gA
        have HNM := Lib.hid hNM; have HRQ := Lib.hid hRQ; have GNM := Lib.hid gNM; have GRQ := Lib.hid gRQ; have HAA := Lib.hid hA; have GAA := Lib.hid gA; have HPS := Lib.hid hps; have HPS2 := Lib.hid hps2
        have HPN := Lib.hid (show bulk nm ≤ 1200000 from (wtPi_lens hps).1); have HPR := Lib.hid (show rq.length ≤ 1200000 from (wtPi_lens hps).2)
        have GPN := Lib.hid (show bulk nm2 ≤ 1200000 from (wtPi_lens hps2).1); have GPR := Lib.hid (show rq2.length ≤ 1200000 from (wtPi_lens hps2).2)
        have H0 := Lib.hid hc0; have H1 := Lib.hid hc1; have H2 := Lib.hid hc2; have G0 := Lib.hid gc0; have G1 := Lib.hid gc1; have G2 := Lib.hid gc2
        clear hlen hlen2 hpt hpt2 hps hps2 hA gA hx hx2 hNM hRQ gNM gRQ
        have hal := (Below.refl wr.heap.size wr).alloc (Nat.le_refl _) (.cells #[.slice y0 m0 d0, .slice y1 m1 d1, .int .i64 ls] 101)
        have hal2 := hal.alloc hal.size (.cells #[.slice z0 p0 e0, .slice z1 p1 e1, .int .i64 ls2] 101)
        have k0 := kc gc0 hal; have k1 := kc gc1 hal; have k2 := kc gc2 hal
        have HA3 := Lib.hid (HAA.out.on hal2); have HA4 := Lib.hid (GAA.out.on hal2); have HB2 := Lib.hid (hb.out.trans (hal2.mono hb.out.size))
        obtain ⟨q, hq⟩ : ∃ q, decide (((nm, rq, ls) : Pit) = (nm2, rq2, ls2)) = q := ⟨_, rfl⟩
        have HQ := Lib.hid hq
        clear hal hal2 hq
        go_wp2_with fail
        refine (iEqI _ _ (nm, rq, ls) (nm2, rq2, ls2) _ q HQ.out HA3.out HA4.out HPS.out HPS2.out).mono ?_
        rintro e w5 ⟨rfl, hb5⟩
        have HB3 := Lib.hid (HB2.out.trans (hb5.mono HB2.out.size))
        clear hb5 hc0 hc1 hc2 gc0 gc1 gc2 k0 k1 k2
        cases q with
        | true =>
          have HA5 := Lib.hid (eqP_step ha.out (by have := HLEN.out; omega) (by have := HLEN2.out; omega) (by rw [HXE.out, HXE2.out]; exact of_decide_eq_true HQ.out))
          go_wp2
          go_roundw
          case rel => exact ⟨k + 1, by omega, by go_num, HA5, HB3⟩
          case measure => simp [intOf]; omega
        | false =>
          have HE : Hid (z = false) := Lib.hid (by rw [← HZ.out]; exact decide_eq_false (neP_step (k := k) (by rw [HXE.out, HXE2.out]; exact of_decide_eq_false HQ.out)))
          go_wp2
          go_ret
          exact ⟨ret_bool HE.out.symm, HB3.out⟩
      · obtain rfl : k = n := by omega
        have HE : Hid (z = true) := Lib.hid (by
          rw [← HZ.out]
          have h1 := ha.out
          rw [List.take_of_length_le (by rw [HLEN.out]; exact Nat.le_refl _), List.take_of_length_le (by rw [HLEN2.out, HNN.out]; exact Nat.le_refl _)] at h1
          exact decide_eq_true h1)
        clear hlt
        go_wp2
        go_ret
        exact ⟨ret_bool HE.out.symm, hb.out⟩
  · have tn : (((n : Nat) : Int) != ((n2 : Nat) : Int)) = true := by rw [bne_iff_ne]; omega
    have HE : Hid (z = false) := Lib.hid (by rw [← HZ.out]; exact decide_eq_false (fun e => hnn (by rw [← HLEN.out, ← HLEN2.out, e])))
    go_enter Try.func106, Try.ntmps106
    go_wp2
    go_ret
    exact ⟨ret_bool HE.out.symm, Below.refl _ _⟩
set_option maxHeartbeats 2000000 in
theorem implEqualPending (V U : Value) (l m : List Pit) (w : World) (z : Bool) (hz : eqPs l m = z) (h : kLPi.At w V l) (g : kLPi.At w U m) (hf : FitP l) (hf' : FitP m) :
    Calls Try.prog 58 #[V, U] w fun e w' => e = .returned (.bool z) ∧ Below w.heap.size w w' := by
  obtain ⟨x, n, c, rfl, h⟩ := kLPi_shapeA h
  obtain ⟨x2, n2, c2, rfl, g⟩ := kLPi_shapeA g
  have HC := Lib.hid (iEqF _ _ l m w z hz h g hf hf')
  clear h g hf hf' hz
  go_enter Try.func58, Try.ntmps58
  go_wp2_with fail
  refine HC.out.mono ?_
  rintro e w1 ⟨rfl, hb⟩
  have HB := Lib.hid hb
  clear hb
  go_wp2
  go_ret
  exact ⟨rfl, HB.out⟩
end Go.Proofs.Ytjphnlkdbhcblaa.Row
