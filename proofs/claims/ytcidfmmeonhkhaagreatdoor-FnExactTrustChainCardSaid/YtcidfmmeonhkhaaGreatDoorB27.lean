/- Contracts and mathematics, joined: KeySM, RuleSM, DataSM, TrustPolicyM, TrustW. No conditions but those that each states. -/
import Derived.Test.YtcidfmmeonhkhaaGreatDoorB26
import Derived.Test.YtcidfmmeonhkhaaGreatDoorB5
import Derived.Test.YtcidfmmeonhkhaaGreatDoorB6
import Derived.Test.YtcidfmmeonhkhaaGreatDoorB8
import Derived.Test.YtcidfmmeonhkhaaGreatDoorB9
/- Lists of Key: marked and looked at. No conditions but that lengths fit. -/
namespace Go.Proofs.YtcidfmmeonhkhaaGreatDoor.Row
open Go.ChangeShapes Go.WideShapes Go.ChangeAt Go.RowKit Go.Instr
set_option linter.unusedVariables false
set_option maxRecDepth 100000

def mvKy (z : Kyt) : Nat := z.1.length + 1
def meKy (q : Int) (z : Kyt) : Kyt := (marks markT (q) z.1.length, q + (z.1.length : Int))
theorem mfKy0 (B E : Nat) (x : Kym) (w : World) (q : Int) (a : Nat) (ha : (kKy.strip x).1.length = a) (ho : kKy.Own B E w x) (hl : a ≤ 100000000) (h0 : 0 ≤ q) (h1 : q + (a : Int) ≤ 100000000000) :
    Calls Tryz.prog 115 #[x.1.v, .int .i64 q] w fun e w' => e = .returned (.int .i64 (q + (a : Int))) ∧ ∃ x', kKy.cells x' = kKy.cells x ∧ kKy.blocks x' = kKy.blocks x ∧ kKy.strip x' = (marks markT (q) (kKy.strip x).1.length, (kKy.strip x).2) ∧ kKy.Own B E w' x' ∧ WroteBy (kKy.blocks x) w w' := by
  subst ha
  exact (markF_N.fst _) B E x w q ho hl h0 h1

set_option maxHeartbeats 4000000 in
theorem markKeySK (B E : Nat) (m : Rw Kym) (w : World) (k : Int) (h : kLKy.Own B E w m) (hl : advK mvKy (kLKy.strip m) ≤ 100000000) (h0 : 0 ≤ k) (h1 : k + (advK mvKy (kLKy.strip m) : Int) ≤ 100000000000) :
    Calls Tryz.prog 110 #[kLKy.val m, .int .i64 k] w fun e w' => e = .returned (.int .i64 (k + (advK mvKy (kLKy.strip m) : Int))) ∧ ∃ m', kLKy.val m' = kLKy.val m ∧ kLKy.blocks m' = kLKy.blocks m ∧ kLKy.strip m' = mkLK mvKy meKy k (kLKy.strip m) ∧ kLKy.Own B E w' m' ∧ WroteBy (kLKy.blocks m) w w' := by
  obtain ⟨ad, n, cap, L⟩ := m
  replace h : (kKy.slice 156).Own B E w ⟨ad, n, cap, L⟩ := h
  replace hl : advK mvKy (L.map kKy.strip) ≤ 100000000 := hl
  replace h1 : k + (advK mvKy (L.map kKy.strip) : Int) ≤ 100000000000 := h1
  show Calls Tryz.prog 110 #[.slice ad n cap, .int .i64 k] w fun e w' => e = .returned (.int .i64 (k + (advK mvKy (L.map kKy.strip) : Int))) ∧ ∃ m' : Rw Kym, Rw.v m' = .slice ad n cap ∧ (kKy.slice 156).blocks m' = (kKy.slice 156).blocks ⟨ad, n, cap, L⟩ ∧ m'.els.map kKy.strip = mkLK mvKy meKy k (L.map kKy.strip) ∧ (kKy.slice 156).Own B E w' m' ∧ WroteBy ((kKy.slice 156).blocks ⟨ad, n, cap, L⟩) w w'
  rcases h.row.form with ⟨hv, hL⟩ | ⟨g, cap', hv, g1, g2, g3, g4⟩
  · cases hv
    subst hL
    have H := Lib.hid h; clear h
    go_enter Tryz.func110, Tryz.ntmps110
    go_wp2
    refine wp_loop_rounds 1 ?_
    rw [rounds_succ]
    go_wp2
    go_ret
    exact ⟨ret_int (by simp [advK]), ⟨⟨none, 0, 0, []⟩, rfl, rfl, rfl, H.out, WroteBy.refl _ _⟩⟩
  · cases hv
    have HROWLT := g2
    obtain ⟨n, hn⟩ : ∃ n, n = L.length := ⟨_, rfl⟩
    rw [← hn] at h g3 ⊢
    obtain ⟨l, hl9⟩ : ∃ l, L.map kKy.strip = l := ⟨_, rfl⟩
    rw [hl9] at hl h1 ⊢
    have hll : l.length = n := by rw [← hl9, List.length_map, hn]
    obtain ⟨bs, hbs⟩ : ∃ bs, (kKy.slice 156).blocks ⟨some ⟨g, 0, none⟩, n, cap, L⟩ = bs := ⟨_, rfl⟩
    have hgb : g ∈ bs := by rw [← hbs]; exact List.mem_append_left _ (by simp [Value.ownBlock, Rw.v])
    have heb : ∀ x ∈ L, ∀ q ∈ kKy.blocks x, q ∈ bs := fun x hx q hq => by rw [← hbs]; exact List.mem_append_right _ (List.mem_flatMap.2 ⟨x, hx, hq⟩)
    have hmaxl : n ≤ 140737488351232 ∨ True := Or.inr trivial
    have hn2 : n ≤ maxLen := by rw [hn]; exact h.row.len
    unfold maxLen at hn2
    rw [hbs]
    have HN := Lib.hid hn; have HT := Lib.hid hl9; have HLL := Lib.hid hll; have HBS := Lib.hid hbs; have HGB := Lib.hid hgb; have HEB := Lib.hid heb
    have HST := Lib.hid (fun j (hj : j < n) => advK_take mvKy (l := l) (j := j) (by rw [hll]; exact hj))
    have HLE := Lib.hid (fun j => advK_take_le mvKy l j)
    have HB : Hid ((kKy.slice 156).Own B E w ⟨some ⟨g, 0, none⟩, n, cap, [] ++ L.drop 0⟩) := Lib.hid (by simpa using h)
    clear hn h hl9 hll hbs hgb heb hmaxl
    go_enter Tryz.func110, Tryz.ntmps110
    go_wp2
    go_loopw [1, 5] (fun kv i wr => ∃ j : Nat, j ≤ n ∧ i = .int .i64 j ∧ ∃ p : Int, kv = .int .i64 p ∧ 0 ≤ p ∧ p ≤ 100000000000 ∧ Hid (p = k + (advK mvKy (l.take j) : Int)) ∧ ∃ M : List Kym, Hid (M.length = j) ∧ Hid (M.map kKy.strip = mkLK mvKy meKy k (l.take j)) ∧ Hid (M.map kKy.blocks = (L.take j).map kKy.blocks) ∧ Hid ((kKy.slice 156).Own B E wr ⟨some ⟨g, 0, none⟩, n, cap, M ++ L.drop j⟩) ∧ Hid (WroteBy bs w wr)) (fun _ i _ => n - (intOf i).toNat)
    case atStart => exact ⟨0, Nat.zero_le _, rfl, k, rfl, h0, by omega, Lib.hid (by simp [advK]), [], Lib.hid rfl, Lib.hid (by simp [mkLK]), Lib.hid rfl, HB, Lib.hid (WroteBy.refl _ _)⟩
    case round =>
      obtain ⟨j, hj, rfl, p, rfl, hp0, hp1, HP, M, HM1, HM2, HM3, HO, HW⟩ := hrel
      by_cases hlt : j < n
      · have hjL : j < L.length := by have := HN.out; omega
        obtain ⟨x0, hx0⟩ : ∃ x, nth L j = x := ⟨_, rfl⟩
        obtain ⟨Z, hZ⟩ : ∃ Z, M ++ L.drop j = Z := ⟨_, rfl⟩
        have hZl : n = Z.length := by rw [← hZ, List.length_append, HM1.out, List.length_drop]; have := HN.out; omega
        have hjZ : j < Z.length := by omega
        have hx9 : nth Z j = x0 := by rw [← hZ, nth_over HM1.out hjL, hx0]
        have ho := HO.out
        rw [hZ, ← set_nth9 hjZ, hx9] at ho
        have hst := HST.out j hlt
        rw [show nth l j = kKy.strip x0 by rw [← HT.out, nth_map _ hjL, hx0]] at hst
        have hle := HLE.out (j + 1)
        have hxb := HEB.out x0 (by rw [← hx0]; exact nth_mem hjL)
        obtain ⟨a0, ha0⟩ : ∃ a, (kKy.strip x0).1.length = a := ⟨_, rfl⟩
        have hmv : mvKy (kKy.strip x0) = a0 + 1 := by unfold mvKy; rw [ha0]
        rw [hmv] at hst
        have hp := HP.out
        have ba0 : a0 ≤ 100000000 := by omega
        have btot : p + ((a0 + 1 : Nat) : Int) ≤ 100000000000 := by omega
        have HX0 := Lib.hid hx0; have HZ := Lib.hid hZ; have HZL := Lib.hid hZl; have HJZ := Lib.hid hjZ; have HO0 := Lib.hid ho; have HSTP := Lib.hid hst; have HXB := Lib.hid hxb; have HJL := Lib.hid hjL; have HMV := Lib.hid hmv
        have HA0_0 := Lib.hid ha0
        have HW0 := HW
        clear hx0 hZ hZl hjZ hx9 ho hst hle hxb hp hjL hmv ha0
        have c : wr.cell? ⟨g, j * 2, none⟩ = some x0.1.v := (HO0.out.cell9 HZL.out HJZ.out (i := 0) (by decide)).1
        go_wp2_with fail
        clear c
        refine (mfKy0 B E x0 wr (p) a0 HA0_0.out (HO0.out.elem9 HJZ.out) ba0 (by omega) (by omega)).mono ?_
        rintro e w1 ⟨rfl, x1, hc, hb, hs, ho, hw⟩
        have HO1 := Lib.hid (HO0.out.part9 HJZ.out hc hb ho hw); have HB1 := Lib.hid hb; have HS1 := Lib.hid hs
        have HW1 := Lib.hid (HW0.out.trans (hw.more (fun q hq => HXB.out q hq)))
        clear hc hb hs ho hw
        have c1 : w1.cell? ⟨g, j * 2 + 1, none⟩ = some (.int .i64 x1.2) := (HO1.out.cell9 HZL.out HJZ.out (i := 1) (by decide)).1; have t1 : w1.frozen? ⟨g, j * 2 + 1, none⟩ = false := (HO1.out.cell9 HZL.out HJZ.out (i := 1) (by decide)).2
        have HOF : Hid ((kKy.slice 156).Own B E (w1.setCell ⟨g, j * 2 + 1, none⟩ (.int .i64 (p + (a0 : Int)))) ⟨some ⟨g, 0, none⟩, n, cap, Z.set j (x1.1, p + (a0 : Int))⟩) := Lib.hid (Kd.Own.put9 (x' := ((x1.1, p + (a0 : Int)) : Kym)) HO1.out HZL.out HJZ.out (i := 1) (by decide) (u := .int .i64 (p + (a0 : Int))) rfl rfl (fun h => h))
        have HWF : Hid (WroteBy bs w (w1.setCell ⟨g, j * 2 + 1, none⟩ (.int .i64 (p + (a0 : Int))))) := Lib.hid (HW1.out.trans (WroteBy.of (Ret.grownBy_set w1 ⟨g, j * 2 + 1, none⟩ (.int .i64 (p + (a0 : Int)))) (fun q hq => by cases hq; exact HGB.out)))
        have HSF : Hid (kKy.strip (x1.1, p + (a0 : Int)) = meKy p (kKy.strip x0)) := Lib.hid (by
          show ((kKy.strip x1).1, p + (a0 : Int)) = _
          unfold meKy
          simp only [HS1.out, HA0_0.out])
        have HBF : Hid (kKy.blocks (x1.1, p + (a0 : Int)) = kKy.blocks x0) := Lib.hid (show _ = _ from HB1.out)
        clear HO0 HW0 HO1 HW1 HB1 HS1
        go_wp2_with fail
        go_roundw
        case rel =>
          refine ⟨j + 1, by omega, by go_num, p + (a0 : Int) + 1, by go_num, by omega, by omega, Lib.hid ?_, M ++ [(x1.1, p + (a0 : Int))], Lib.hid ?_, Lib.hid ?_, Lib.hid ?_, Lib.hid ?_, HWF⟩
          · rw [HSTP.out, HP.out]; omega
          · simp [HM1.out]
          · rw [List.map_append, HM2.out, mkLK_take _ _ _ (by rw [HLL.out]; exact hlt), show nth l j = kKy.strip x0 by rw [← HT.out, nth_map _ HJL.out, HX0.out], ← HP.out, ← HSF.out]
            rfl
          · rw [List.map_append, HM3.out, List.take_succ_eq_append_getElem HJL.out, List.map_append, ← nth_eq HJL.out, HX0.out]
            simp only [List.map_cons, List.map_nil]
            rw [HBF.out]
          · have h9 := HOF.out
            rw [← HZ.out, set_over HM1.out HJL.out] at h9
            exact h9
        case measure => simp [intOf]; omega
      · obtain rfl : j = n := by omega
        clear hlt
        go_wp2
        go_ret
        have hn := HN.out
        have hp := HP.out
        have e1 : l.take j = l := List.take_of_length_le (by rw [HLL.out]; exact Nat.le_refl _)
        have e2 : L.take j = L := List.take_of_length_le (by omega)
        have e3 : L.drop j = [] := List.drop_eq_nil_of_le (by omega)
        have hh := HO.out
        have hm2 := HM2.out
        have hm3 := HM3.out
        rw [e1] at hp hm2
        rw [e2] at hm3
        rw [e3, List.append_nil] at hh
        refine ⟨ret_int hp, ⟨some ⟨g, 0, none⟩, j, cap, M⟩, rfl, ?_, hm2, hh, HW.out⟩
        rw [← HBS.out]
        show _ ++ M.flatMap kKy.blocks = _ ++ L.flatMap kKy.blocks
        rw [List.flatMap_def, List.flatMap_def, hm3]
        rfl

end Go.Proofs.YtcidfmmeonhkhaaGreatDoor.Row
/- Lists of Rule: marked and looked at. No conditions but that lengths fit. -/
namespace Go.Proofs.YtcidfmmeonhkhaaGreatDoor.Row
open Go.ChangeShapes Go.WideShapes Go.ChangeAt Go.RowKit Go.Instr
set_option linter.unusedVariables false
set_option maxRecDepth 100000

def mvRl (z : Rlt) : Nat := z.1.length + z.2.length
def meRl (q : Int) (z : Rlt) : Rlt := (marks markT (q) z.1.length, marks markT (q + (z.1.length : Int)) z.2.length)
theorem mfRl0 (B E : Nat) (x : Rlm) (w : World) (q : Int) (a : Nat) (ha : (kRl.strip x).1.length = a) (ho : kRl.Own B E w x) (hl : a ≤ 100000000) (h0 : 0 ≤ q) (h1 : q + (a : Int) ≤ 100000000000) :
    Calls Tryz.prog 115 #[x.1.v, .int .i64 q] w fun e w' => e = .returned (.int .i64 (q + (a : Int))) ∧ ∃ x', kRl.cells x' = kRl.cells x ∧ kRl.blocks x' = kRl.blocks x ∧ kRl.strip x' = (marks markT (q) (kRl.strip x).1.length, (kRl.strip x).2) ∧ kRl.Own B E w' x' ∧ WroteBy (kRl.blocks x) w w' := by
  subst ha
  exact (markF_N.fst _) B E x w q ho hl h0 h1
theorem mfRl1 (B E : Nat) (x : Rlm) (w : World) (q : Int) (a : Nat) (ha : (kRl.strip x).2.length = a) (ho : kRl.Own B E w x) (hl : a ≤ 100000000) (h0 : 0 ≤ q) (h1 : q + (a : Int) ≤ 100000000000) :
    Calls Tryz.prog 115 #[x.2.v, .int .i64 q] w fun e w' => e = .returned (.int .i64 (q + (a : Int))) ∧ ∃ x', kRl.cells x' = kRl.cells x ∧ kRl.blocks x' = kRl.blocks x ∧ kRl.strip x' = ((kRl.strip x).1, marks markT (q) (kRl.strip x).2.length) ∧ kRl.Own B E w' x' ∧ WroteBy (kRl.blocks x) w w' := by
  subst ha
  exact (markF_N.snd _) B E x w q ho hl h0 h1

set_option maxHeartbeats 4000000 in
theorem markRuleSK (B E : Nat) (m : Rw Rlm) (w : World) (k : Int) (h : kLRl.Own B E w m) (hl : advK mvRl (kLRl.strip m) ≤ 100000000) (h0 : 0 ≤ k) (h1 : k + (advK mvRl (kLRl.strip m) : Int) ≤ 100000000000) :
    Calls Tryz.prog 111 #[kLRl.val m, .int .i64 k] w fun e w' => e = .returned (.int .i64 (k + (advK mvRl (kLRl.strip m) : Int))) ∧ ∃ m', kLRl.val m' = kLRl.val m ∧ kLRl.blocks m' = kLRl.blocks m ∧ kLRl.strip m' = mkLK mvRl meRl k (kLRl.strip m) ∧ kLRl.Own B E w' m' ∧ WroteBy (kLRl.blocks m) w w' := by
  obtain ⟨ad, n, cap, L⟩ := m
  replace h : (kRl.slice 168).Own B E w ⟨ad, n, cap, L⟩ := h
  replace hl : advK mvRl (L.map kRl.strip) ≤ 100000000 := hl
  replace h1 : k + (advK mvRl (L.map kRl.strip) : Int) ≤ 100000000000 := h1
  show Calls Tryz.prog 111 #[.slice ad n cap, .int .i64 k] w fun e w' => e = .returned (.int .i64 (k + (advK mvRl (L.map kRl.strip) : Int))) ∧ ∃ m' : Rw Rlm, Rw.v m' = .slice ad n cap ∧ (kRl.slice 168).blocks m' = (kRl.slice 168).blocks ⟨ad, n, cap, L⟩ ∧ m'.els.map kRl.strip = mkLK mvRl meRl k (L.map kRl.strip) ∧ (kRl.slice 168).Own B E w' m' ∧ WroteBy ((kRl.slice 168).blocks ⟨ad, n, cap, L⟩) w w'
  rcases h.row.form with ⟨hv, hL⟩ | ⟨g, cap', hv, g1, g2, g3, g4⟩
  · cases hv
    subst hL
    have H := Lib.hid h; clear h
    go_enter Tryz.func111, Tryz.ntmps111
    go_wp2
    refine wp_loop_rounds 1 ?_
    rw [rounds_succ]
    go_wp2
    go_ret
    exact ⟨ret_int (by simp [advK]), ⟨⟨none, 0, 0, []⟩, rfl, rfl, rfl, H.out, WroteBy.refl _ _⟩⟩
  · cases hv
    have HROWLT := g2
    obtain ⟨n, hn⟩ : ∃ n, n = L.length := ⟨_, rfl⟩
    rw [← hn] at h g3 ⊢
    obtain ⟨l, hl9⟩ : ∃ l, L.map kRl.strip = l := ⟨_, rfl⟩
    rw [hl9] at hl h1 ⊢
    have hll : l.length = n := by rw [← hl9, List.length_map, hn]
    obtain ⟨bs, hbs⟩ : ∃ bs, (kRl.slice 168).blocks ⟨some ⟨g, 0, none⟩, n, cap, L⟩ = bs := ⟨_, rfl⟩
    have hgb : g ∈ bs := by rw [← hbs]; exact List.mem_append_left _ (by simp [Value.ownBlock, Rw.v])
    have heb : ∀ x ∈ L, ∀ q ∈ kRl.blocks x, q ∈ bs := fun x hx q hq => by rw [← hbs]; exact List.mem_append_right _ (List.mem_flatMap.2 ⟨x, hx, hq⟩)
    have hmaxl : n ≤ 140737488351232 ∨ True := Or.inr trivial
    have hn2 : n ≤ maxLen := by rw [hn]; exact h.row.len
    unfold maxLen at hn2
    rw [hbs]
    have HN := Lib.hid hn; have HT := Lib.hid hl9; have HLL := Lib.hid hll; have HBS := Lib.hid hbs; have HGB := Lib.hid hgb; have HEB := Lib.hid heb
    have HST := Lib.hid (fun j (hj : j < n) => advK_take mvRl (l := l) (j := j) (by rw [hll]; exact hj))
    have HLE := Lib.hid (fun j => advK_take_le mvRl l j)
    have HB : Hid ((kRl.slice 168).Own B E w ⟨some ⟨g, 0, none⟩, n, cap, [] ++ L.drop 0⟩) := Lib.hid (by simpa using h)
    clear hn h hl9 hll hbs hgb heb hmaxl
    go_enter Tryz.func111, Tryz.ntmps111
    go_wp2
    go_loopw [1, 5] (fun kv i wr => ∃ j : Nat, j ≤ n ∧ i = .int .i64 j ∧ ∃ p : Int, kv = .int .i64 p ∧ 0 ≤ p ∧ p ≤ 100000000000 ∧ Hid (p = k + (advK mvRl (l.take j) : Int)) ∧ ∃ M : List Rlm, Hid (M.length = j) ∧ Hid (M.map kRl.strip = mkLK mvRl meRl k (l.take j)) ∧ Hid (M.map kRl.blocks = (L.take j).map kRl.blocks) ∧ Hid ((kRl.slice 168).Own B E wr ⟨some ⟨g, 0, none⟩, n, cap, M ++ L.drop j⟩) ∧ Hid (WroteBy bs w wr)) (fun _ i _ => n - (intOf i).toNat)
    case atStart => exact ⟨0, Nat.zero_le _, rfl, k, rfl, h0, by omega, Lib.hid (by simp [advK]), [], Lib.hid rfl, Lib.hid (by simp [mkLK]), Lib.hid rfl, HB, Lib.hid (WroteBy.refl _ _)⟩
    case round =>
      obtain ⟨j, hj, rfl, p, rfl, hp0, hp1, HP, M, HM1, HM2, HM3, HO, HW⟩ := hrel
      by_cases hlt : j < n
      · have hjL : j < L.length := by have := HN.out; omega
        obtain ⟨x0, hx0⟩ : ∃ x, nth L j = x := ⟨_, rfl⟩
        obtain ⟨Z, hZ⟩ : ∃ Z, M ++ L.drop j = Z := ⟨_, rfl⟩
        have hZl : n = Z.length := by rw [← hZ, List.length_append, HM1.out, List.length_drop]; have := HN.out; omega
        have hjZ : j < Z.length := by omega
        have hx9 : nth Z j = x0 := by rw [← hZ, nth_over HM1.out hjL, hx0]
        have ho := HO.out
        rw [hZ, ← set_nth9 hjZ, hx9] at ho
        have hst := HST.out j hlt
        rw [show nth l j = kRl.strip x0 by rw [← HT.out, nth_map _ hjL, hx0]] at hst
        have hle := HLE.out (j + 1)
        have hxb := HEB.out x0 (by rw [← hx0]; exact nth_mem hjL)
        obtain ⟨a0, ha0⟩ : ∃ a, (kRl.strip x0).1.length = a := ⟨_, rfl⟩
        obtain ⟨a1, ha1⟩ : ∃ a, (kRl.strip x0).2.length = a := ⟨_, rfl⟩
        have hmv : mvRl (kRl.strip x0) = a0 + a1 := by unfold mvRl; rw [ha0, ha1]
        rw [hmv] at hst
        have hp := HP.out
        have ba0 : a0 ≤ 100000000 := by omega
        have ba1 : a1 ≤ 100000000 := by omega
        have btot : p + ((a0 + a1 : Nat) : Int) ≤ 100000000000 := by omega
        have HX0 := Lib.hid hx0; have HZ := Lib.hid hZ; have HZL := Lib.hid hZl; have HJZ := Lib.hid hjZ; have HO0 := Lib.hid ho; have HSTP := Lib.hid hst; have HXB := Lib.hid hxb; have HJL := Lib.hid hjL; have HMV := Lib.hid hmv
        have HA0_0 := Lib.hid ha0
        have HA1_0 := Lib.hid ha1
        have HW0 := HW
        clear hx0 hZ hZl hjZ hx9 ho hst hle hxb hp hjL hmv ha0 ha1
        have c : wr.cell? ⟨g, j * 2, none⟩ = some x0.1.v := (HO0.out.cell9 HZL.out HJZ.out (i := 0) (by decide)).1
        go_wp2_with fail
        clear c
        refine (mfRl0 B E x0 wr (p) a0 HA0_0.out (HO0.out.elem9 HJZ.out) ba0 (by omega) (by omega)).mono ?_
        rintro e w1 ⟨rfl, x1, hc, hb, hs, ho, hw⟩
        have HO1 := Lib.hid (HO0.out.part9 HJZ.out hc hb ho hw); have HB1 := Lib.hid hb; have HS1 := Lib.hid hs
        have HW1 := Lib.hid (HW0.out.trans (hw.more (fun q hq => HXB.out q hq)))
        have HA1_1 : Hid ((kRl.strip x1).2.length = a1) := Lib.hid (by rw [hs]; exact HA1_0.out)
        clear hc hb hs ho hw
        have c : w1.cell? ⟨g, j * 2 + 1, none⟩ = some x1.2.v := (HO1.out.cell9 HZL.out HJZ.out (i := 1) (by decide)).1
        go_wp2_with fail
        clear c
        refine (mfRl1 B E x1 w1 (p + (a0 : Int)) a1 HA1_1.out (HO1.out.elem9 HJZ.out) ba1 (by omega) (by omega)).mono ?_
        rintro e w2 ⟨rfl, x2, hc, hb, hs, ho, hw⟩
        have HO2 := Lib.hid (HO1.out.part9 HJZ.out hc hb ho hw); have HB2 := Lib.hid (hb.trans HB1.out); have HS2 := Lib.hid hs
        have HW2 := Lib.hid (HW1.out.trans (hw.more (fun q hq => HXB.out q (by rw [HB1.out] at hq; exact hq))))
        clear hc hb hs ho hw
        have HOF : Hid ((kRl.slice 168).Own B E w2 ⟨some ⟨g, 0, none⟩, n, cap, Z.set j x2⟩) := Lib.hid HO2.out
        have HWF : Hid (WroteBy bs w w2) := Lib.hid HW2.out
        have HSF : Hid (kRl.strip x2 = meRl p (kRl.strip x0)) := Lib.hid (by
          show kRl.strip x2 = _
          unfold meRl
          simp only [HS2.out, HS1.out, HA0_0.out, HA1_0.out])
        have HBF : Hid (kRl.blocks x2 = kRl.blocks x0) := Lib.hid (show _ = _ from HB2.out)
        clear HO0 HW0 HO1 HW1 HO2 HW2 HB1 HB2 HS1 HS2
        go_wp2_with fail
        go_roundw
        case rel =>
          refine ⟨j + 1, by omega, by go_num, p + (a0 : Int) + (a1 : Int), by go_num, by omega, by omega, Lib.hid ?_, M ++ [x2], Lib.hid ?_, Lib.hid ?_, Lib.hid ?_, Lib.hid ?_, HWF⟩
          · rw [HSTP.out, HP.out]; omega
          · simp [HM1.out]
          · rw [List.map_append, HM2.out, mkLK_take _ _ _ (by rw [HLL.out]; exact hlt), show nth l j = kRl.strip x0 by rw [← HT.out, nth_map _ HJL.out, HX0.out], ← HP.out, ← HSF.out]
            rfl
          · rw [List.map_append, HM3.out, List.take_succ_eq_append_getElem HJL.out, List.map_append, ← nth_eq HJL.out, HX0.out]
            simp only [List.map_cons, List.map_nil]
            rw [HBF.out]
          · have h9 := HOF.out
            rw [← HZ.out, set_over HM1.out HJL.out] at h9
            exact h9
        case measure => simp [intOf]; omega
      · obtain rfl : j = n := by omega
        clear hlt
        go_wp2
        go_ret
        have hn := HN.out
        have hp := HP.out
        have e1 : l.take j = l := List.take_of_length_le (by rw [HLL.out]; exact Nat.le_refl _)
        have e2 : L.take j = L := List.take_of_length_le (by omega)
        have e3 : L.drop j = [] := List.drop_eq_nil_of_le (by omega)
        have hh := HO.out
        have hm2 := HM2.out
        have hm3 := HM3.out
        rw [e1] at hp hm2
        rw [e2] at hm3
        rw [e3, List.append_nil] at hh
        refine ⟨ret_int hp, ⟨some ⟨g, 0, none⟩, j, cap, M⟩, rfl, ?_, hm2, hh, HW.out⟩
        rw [← HBS.out]
        show _ ++ M.flatMap kRl.blocks = _ ++ L.flatMap kRl.blocks
        rw [List.flatMap_def, List.flatMap_def, hm3]
        rfl

end Go.Proofs.YtcidfmmeonhkhaaGreatDoor.Row
/- Lists of Data: marked and looked at. No conditions but that lengths fit. -/
namespace Go.Proofs.YtcidfmmeonhkhaaGreatDoor.Row
open Go.ChangeShapes Go.WideShapes Go.ChangeAt Go.RowKit Go.Instr
set_option linter.unusedVariables false
set_option maxRecDepth 100000

def mvDz (z : Dzt) : Nat := z.1.length + z.2.1.length + z.2.2.1.length + 2
def meDz (q : Int) (z : Dzt) : Dzt := (marks markT (q) z.1.length, Sl.marks .u8 (q + (z.1.length : Int)) z.2.1.length, marks markT (q + (z.1.length : Int) + (z.2.1.length : Int)) z.2.2.1.length, q + (z.1.length : Int) + (z.2.1.length : Int) + (z.2.2.1.length : Int), q + (z.1.length : Int) + (z.2.1.length : Int) + (z.2.2.1.length : Int) + 1)
theorem mfDz0 (B E : Nat) (x : Dzm) (w : World) (q : Int) (a : Nat) (ha : (kDz.strip x).1.length = a) (ho : kDz.Own B E w x) (hl : a ≤ 100000000) (h0 : 0 ≤ q) (h1 : q + (a : Int) ≤ 100000000000) :
    Calls Tryz.prog 115 #[x.1.v, .int .i64 q] w fun e w' => e = .returned (.int .i64 (q + (a : Int))) ∧ ∃ x', kDz.cells x' = kDz.cells x ∧ kDz.blocks x' = kDz.blocks x ∧ kDz.strip x' = (marks markT (q) (kDz.strip x).1.length, (kDz.strip x).2.1, (kDz.strip x).2.2.1, (kDz.strip x).2.2.2.1, (kDz.strip x).2.2.2.2) ∧ kDz.Own B E w' x' ∧ WroteBy (kDz.blocks x) w w' := by
  subst ha
  exact (markF_N.fst _) B E x w q ho hl h0 h1
theorem mfDz1 (B E : Nat) (x : Dzm) (w : World) (q : Int) (a : Nat) (ha : (kDz.strip x).2.1.length = a) (ho : kDz.Own B E w x) (hl : a ≤ 100000000) (h0 : 0 ≤ q) (h1 : q + (a : Int) ≤ 100000000000) :
    Calls Tryz.prog 114 #[x.2.1.v, .int .i64 q] w fun e w' => e = .returned (.int .i64 (q + (a : Int))) ∧ ∃ x', kDz.cells x' = kDz.cells x ∧ kDz.blocks x' = kDz.blocks x ∧ kDz.strip x' = ((kDz.strip x).1, Sl.marks .u8 (q) (kDz.strip x).2.1.length, (kDz.strip x).2.2.1, (kDz.strip x).2.2.2.1, (kDz.strip x).2.2.2.2) ∧ kDz.Own B E w' x' ∧ WroteBy (kDz.blocks x) w w' := by
  subst ha
  exact ((markF_B.fst _).snd _) B E x w q ho hl h0 h1
theorem mfDz2 (B E : Nat) (x : Dzm) (w : World) (q : Int) (a : Nat) (ha : (kDz.strip x).2.2.1.length = a) (ho : kDz.Own B E w x) (hl : a ≤ 100000000) (h0 : 0 ≤ q) (h1 : q + (a : Int) ≤ 100000000000) :
    Calls Tryz.prog 115 #[x.2.2.1.v, .int .i64 q] w fun e w' => e = .returned (.int .i64 (q + (a : Int))) ∧ ∃ x', kDz.cells x' = kDz.cells x ∧ kDz.blocks x' = kDz.blocks x ∧ kDz.strip x' = ((kDz.strip x).1, (kDz.strip x).2.1, marks markT (q) (kDz.strip x).2.2.1.length, (kDz.strip x).2.2.2.1, (kDz.strip x).2.2.2.2) ∧ kDz.Own B E w' x' ∧ WroteBy (kDz.blocks x) w w' := by
  subst ha
  exact (((markF_N.fst _).snd _).snd _) B E x w q ho hl h0 h1

set_option maxHeartbeats 4000000 in
theorem markDataSK (B E : Nat) (m : Rw Dzm) (w : World) (k : Int) (h : kLDz.Own B E w m) (hl : advK mvDz (kLDz.strip m) ≤ 100000000) (h0 : 0 ≤ k) (h1 : k + (advK mvDz (kLDz.strip m) : Int) ≤ 100000000000) :
    Calls Tryz.prog 112 #[kLDz.val m, .int .i64 k] w fun e w' => e = .returned (.int .i64 (k + (advK mvDz (kLDz.strip m) : Int))) ∧ ∃ m', kLDz.val m' = kLDz.val m ∧ kLDz.blocks m' = kLDz.blocks m ∧ kLDz.strip m' = mkLK mvDz meDz k (kLDz.strip m) ∧ kLDz.Own B E w' m' ∧ WroteBy (kLDz.blocks m) w w' := by
  obtain ⟨ad, n, cap, L⟩ := m
  replace h : (kDz.slice 34).Own B E w ⟨ad, n, cap, L⟩ := h
  replace hl : advK mvDz (L.map kDz.strip) ≤ 100000000 := hl
  replace h1 : k + (advK mvDz (L.map kDz.strip) : Int) ≤ 100000000000 := h1
  show Calls Tryz.prog 112 #[.slice ad n cap, .int .i64 k] w fun e w' => e = .returned (.int .i64 (k + (advK mvDz (L.map kDz.strip) : Int))) ∧ ∃ m' : Rw Dzm, Rw.v m' = .slice ad n cap ∧ (kDz.slice 34).blocks m' = (kDz.slice 34).blocks ⟨ad, n, cap, L⟩ ∧ m'.els.map kDz.strip = mkLK mvDz meDz k (L.map kDz.strip) ∧ (kDz.slice 34).Own B E w' m' ∧ WroteBy ((kDz.slice 34).blocks ⟨ad, n, cap, L⟩) w w'
  rcases h.row.form with ⟨hv, hL⟩ | ⟨g, cap', hv, g1, g2, g3, g4⟩
  · cases hv
    subst hL
    have H := Lib.hid h; clear h
    go_enter Tryz.func112, Tryz.ntmps112
    go_wp2
    refine wp_loop_rounds 1 ?_
    rw [rounds_succ]
    go_wp2
    go_ret
    exact ⟨ret_int (by simp [advK]), ⟨⟨none, 0, 0, []⟩, rfl, rfl, rfl, H.out, WroteBy.refl _ _⟩⟩
  · cases hv
    have HROWLT := g2
    obtain ⟨n, hn⟩ : ∃ n, n = L.length := ⟨_, rfl⟩
    rw [← hn] at h g3 ⊢
    obtain ⟨l, hl9⟩ : ∃ l, L.map kDz.strip = l := ⟨_, rfl⟩
    rw [hl9] at hl h1 ⊢
    have hll : l.length = n := by rw [← hl9, List.length_map, hn]
    obtain ⟨bs, hbs⟩ : ∃ bs, (kDz.slice 34).blocks ⟨some ⟨g, 0, none⟩, n, cap, L⟩ = bs := ⟨_, rfl⟩
    have hgb : g ∈ bs := by rw [← hbs]; exact List.mem_append_left _ (by simp [Value.ownBlock, Rw.v])
    have heb : ∀ x ∈ L, ∀ q ∈ kDz.blocks x, q ∈ bs := fun x hx q hq => by rw [← hbs]; exact List.mem_append_right _ (List.mem_flatMap.2 ⟨x, hx, hq⟩)
    have hmaxl : n ≤ 140737488351232 ∨ True := Or.inr trivial
    have hn2 : n ≤ maxLen := by rw [hn]; exact h.row.len
    unfold maxLen at hn2
    rw [hbs]
    have HN := Lib.hid hn; have HT := Lib.hid hl9; have HLL := Lib.hid hll; have HBS := Lib.hid hbs; have HGB := Lib.hid hgb; have HEB := Lib.hid heb
    have HST := Lib.hid (fun j (hj : j < n) => advK_take mvDz (l := l) (j := j) (by rw [hll]; exact hj))
    have HLE := Lib.hid (fun j => advK_take_le mvDz l j)
    have HB : Hid ((kDz.slice 34).Own B E w ⟨some ⟨g, 0, none⟩, n, cap, [] ++ L.drop 0⟩) := Lib.hid (by simpa using h)
    clear hn h hl9 hll hbs hgb heb hmaxl
    go_enter Tryz.func112, Tryz.ntmps112
    go_wp2
    go_loopw [1, 5] (fun kv i wr => ∃ j : Nat, j ≤ n ∧ i = .int .i64 j ∧ ∃ p : Int, kv = .int .i64 p ∧ 0 ≤ p ∧ p ≤ 100000000000 ∧ Hid (p = k + (advK mvDz (l.take j) : Int)) ∧ ∃ M : List Dzm, Hid (M.length = j) ∧ Hid (M.map kDz.strip = mkLK mvDz meDz k (l.take j)) ∧ Hid (M.map kDz.blocks = (L.take j).map kDz.blocks) ∧ Hid ((kDz.slice 34).Own B E wr ⟨some ⟨g, 0, none⟩, n, cap, M ++ L.drop j⟩) ∧ Hid (WroteBy bs w wr)) (fun _ i _ => n - (intOf i).toNat)
    case atStart => exact ⟨0, Nat.zero_le _, rfl, k, rfl, h0, by omega, Lib.hid (by simp [advK]), [], Lib.hid rfl, Lib.hid (by simp [mkLK]), Lib.hid rfl, HB, Lib.hid (WroteBy.refl _ _)⟩
    case round =>
      obtain ⟨j, hj, rfl, p, rfl, hp0, hp1, HP, M, HM1, HM2, HM3, HO, HW⟩ := hrel
      by_cases hlt : j < n
      · have hjL : j < L.length := by have := HN.out; omega
        obtain ⟨x0, hx0⟩ : ∃ x, nth L j = x := ⟨_, rfl⟩
        obtain ⟨Z, hZ⟩ : ∃ Z, M ++ L.drop j = Z := ⟨_, rfl⟩
        have hZl : n = Z.length := by rw [← hZ, List.length_append, HM1.out, List.length_drop]; have := HN.out; omega
        have hjZ : j < Z.length := by omega
        have hx9 : nth Z j = x0 := by rw [← hZ, nth_over HM1.out hjL, hx0]
        have ho := HO.out
        rw [hZ, ← set_nth9 hjZ, hx9] at ho
        have hst := HST.out j hlt
        rw [show nth l j = kDz.strip x0 by rw [← HT.out, nth_map _ hjL, hx0]] at hst
        have hle := HLE.out (j + 1)
        have hxb := HEB.out x0 (by rw [← hx0]; exact nth_mem hjL)
        obtain ⟨a0, ha0⟩ : ∃ a, (kDz.strip x0).1.length = a := ⟨_, rfl⟩
        obtain ⟨a1, ha1⟩ : ∃ a, (kDz.strip x0).2.1.length = a := ⟨_, rfl⟩
        obtain ⟨a2, ha2⟩ : ∃ a, (kDz.strip x0).2.2.1.length = a := ⟨_, rfl⟩
        have hmv : mvDz (kDz.strip x0) = a0 + a1 + a2 + 2 := by unfold mvDz; rw [ha0, ha1, ha2]
        rw [hmv] at hst
        have hp := HP.out
        have ba0 : a0 ≤ 100000000 := by omega
        have ba1 : a1 ≤ 100000000 := by omega
        have ba2 : a2 ≤ 100000000 := by omega
        have btot : p + ((a0 + a1 + a2 + 2 : Nat) : Int) ≤ 100000000000 := by omega
        have HX0 := Lib.hid hx0; have HZ := Lib.hid hZ; have HZL := Lib.hid hZl; have HJZ := Lib.hid hjZ; have HO0 := Lib.hid ho; have HSTP := Lib.hid hst; have HXB := Lib.hid hxb; have HJL := Lib.hid hjL; have HMV := Lib.hid hmv
        have HA0_0 := Lib.hid ha0
        have HA1_0 := Lib.hid ha1
        have HA2_0 := Lib.hid ha2
        have HW0 := HW
        clear hx0 hZ hZl hjZ hx9 ho hst hle hxb hp hjL hmv ha0 ha1 ha2
        have c : wr.cell? ⟨g, j * 5, none⟩ = some x0.1.v := (HO0.out.cell9 HZL.out HJZ.out (i := 0) (by decide)).1
        go_wp2_with fail
        clear c
        refine (mfDz0 B E x0 wr (p) a0 HA0_0.out (HO0.out.elem9 HJZ.out) ba0 (by omega) (by omega)).mono ?_
        rintro e w1 ⟨rfl, x1, hc, hb, hs, ho, hw⟩
        have HO1 := Lib.hid (HO0.out.part9 HJZ.out hc hb ho hw); have HB1 := Lib.hid hb; have HS1 := Lib.hid hs
        have HW1 := Lib.hid (HW0.out.trans (hw.more (fun q hq => HXB.out q hq)))
        have HA1_1 : Hid ((kDz.strip x1).2.1.length = a1) := Lib.hid (by rw [hs]; exact HA1_0.out)
        have HA2_1 : Hid ((kDz.strip x1).2.2.1.length = a2) := Lib.hid (by rw [hs]; exact HA2_0.out)
        clear hc hb hs ho hw
        have c : w1.cell? ⟨g, j * 5 + 1, none⟩ = some x1.2.1.v := (HO1.out.cell9 HZL.out HJZ.out (i := 1) (by decide)).1
        go_wp2_with fail
        clear c
        refine (mfDz1 B E x1 w1 (p + (a0 : Int)) a1 HA1_1.out (HO1.out.elem9 HJZ.out) ba1 (by omega) (by omega)).mono ?_
        rintro e w2 ⟨rfl, x2, hc, hb, hs, ho, hw⟩
        have HO2 := Lib.hid (HO1.out.part9 HJZ.out hc hb ho hw); have HB2 := Lib.hid (hb.trans HB1.out); have HS2 := Lib.hid hs
        have HW2 := Lib.hid (HW1.out.trans (hw.more (fun q hq => HXB.out q (by rw [HB1.out] at hq; exact hq))))
        have HA2_2 : Hid ((kDz.strip x2).2.2.1.length = a2) := Lib.hid (by rw [hs]; exact HA2_1.out)
        clear hc hb hs ho hw
        have c : w2.cell? ⟨g, j * 5 + 2, none⟩ = some x2.2.2.1.v := (HO2.out.cell9 HZL.out HJZ.out (i := 2) (by decide)).1
        go_wp2_with fail
        clear c
        refine (mfDz2 B E x2 w2 (p + (a0 : Int) + (a1 : Int)) a2 HA2_2.out (HO2.out.elem9 HJZ.out) ba2 (by omega) (by omega)).mono ?_
        rintro e w3 ⟨rfl, x3, hc, hb, hs, ho, hw⟩
        have HO3 := Lib.hid (HO2.out.part9 HJZ.out hc hb ho hw); have HB3 := Lib.hid (hb.trans HB2.out); have HS3 := Lib.hid hs
        have HW3 := Lib.hid (HW2.out.trans (hw.more (fun q hq => HXB.out q (by rw [HB2.out] at hq; exact hq))))
        clear hc hb hs ho hw
        have c3 : w3.cell? ⟨g, j * 5 + 3, none⟩ = some (.int .i64 x3.2.2.2.1) := (HO3.out.cell9 HZL.out HJZ.out (i := 3) (by decide)).1; have t3 : w3.frozen? ⟨g, j * 5 + 3, none⟩ = false := (HO3.out.cell9 HZL.out HJZ.out (i := 3) (by decide)).2
        have c4 : w3.cell? ⟨g, j * 5 + 4, none⟩ = some (.int .i64 x3.2.2.2.2) := (HO3.out.cell9 HZL.out HJZ.out (i := 4) (by decide)).1; have t4 : w3.frozen? ⟨g, j * 5 + 4, none⟩ = false := (HO3.out.cell9 HZL.out HJZ.out (i := 4) (by decide)).2
        have HOF : Hid ((kDz.slice 34).Own B E ((w3.setCell ⟨g, j * 5 + 3, none⟩ (.int .i64 (p + (a0 : Int) + (a1 : Int) + (a2 : Int)))).setCell ⟨g, j * 5 + 4, none⟩ (.int .i64 (p + (a0 : Int) + (a1 : Int) + (a2 : Int) + 1))) ⟨some ⟨g, 0, none⟩, n, cap, Z.set j (x3.1, x3.2.1, x3.2.2.1, p + (a0 : Int) + (a1 : Int) + (a2 : Int), p + (a0 : Int) + (a1 : Int) + (a2 : Int) + 1)⟩) := Lib.hid (Kd.Own.put9 (x' := ((x3.1, x3.2.1, x3.2.2.1, p + (a0 : Int) + (a1 : Int) + (a2 : Int), p + (a0 : Int) + (a1 : Int) + (a2 : Int) + 1) : Dzm)) (Kd.Own.put9 (x' := ((x3.1, x3.2.1, x3.2.2.1, p + (a0 : Int) + (a1 : Int) + (a2 : Int), x3.2.2.2.2) : Dzm)) HO3.out HZL.out HJZ.out (i := 3) (by decide) (u := .int .i64 (p + (a0 : Int) + (a1 : Int) + (a2 : Int))) rfl rfl (fun h => h)) HZL.out HJZ.out (i := 4) (by decide) (u := .int .i64 (p + (a0 : Int) + (a1 : Int) + (a2 : Int) + 1)) rfl rfl (fun h => h))
        have HWF : Hid (WroteBy bs w ((w3.setCell ⟨g, j * 5 + 3, none⟩ (.int .i64 (p + (a0 : Int) + (a1 : Int) + (a2 : Int)))).setCell ⟨g, j * 5 + 4, none⟩ (.int .i64 (p + (a0 : Int) + (a1 : Int) + (a2 : Int) + 1)))) := Lib.hid ((HW3.out.trans (WroteBy.of (Ret.grownBy_set w3 ⟨g, j * 5 + 3, none⟩ (.int .i64 (p + (a0 : Int) + (a1 : Int) + (a2 : Int)))) (fun q hq => by cases hq; exact HGB.out))).trans (WroteBy.of (Ret.grownBy_set (w3.setCell ⟨g, j * 5 + 3, none⟩ (.int .i64 (p + (a0 : Int) + (a1 : Int) + (a2 : Int)))) ⟨g, j * 5 + 4, none⟩ (.int .i64 (p + (a0 : Int) + (a1 : Int) + (a2 : Int) + 1))) (fun q hq => by cases hq; exact HGB.out)))
        have HSF : Hid (kDz.strip (x3.1, x3.2.1, x3.2.2.1, p + (a0 : Int) + (a1 : Int) + (a2 : Int), p + (a0 : Int) + (a1 : Int) + (a2 : Int) + 1) = meDz p (kDz.strip x0)) := Lib.hid (by
          show ((kDz.strip x3).1, (kDz.strip x3).2.1, (kDz.strip x3).2.2.1, p + (a0 : Int) + (a1 : Int) + (a2 : Int), p + (a0 : Int) + (a1 : Int) + (a2 : Int) + 1) = _
          unfold meDz
          simp only [HS3.out, HS2.out, HS1.out, HA0_0.out, HA1_0.out, HA2_0.out])
        have HBF : Hid (kDz.blocks (x3.1, x3.2.1, x3.2.2.1, p + (a0 : Int) + (a1 : Int) + (a2 : Int), p + (a0 : Int) + (a1 : Int) + (a2 : Int) + 1) = kDz.blocks x0) := Lib.hid (show _ = _ from HB3.out)
        clear HO0 HW0 HO1 HW1 HO2 HW2 HO3 HW3 HB1 HB2 HB3 HS1 HS2 HS3
        go_wp2_with fail
        go_roundw
        case rel =>
          refine ⟨j + 1, by omega, by go_num, p + (a0 : Int) + (a1 : Int) + (a2 : Int) + 1 + 1, by go_num, by omega, by omega, Lib.hid ?_, M ++ [(x3.1, x3.2.1, x3.2.2.1, p + (a0 : Int) + (a1 : Int) + (a2 : Int), p + (a0 : Int) + (a1 : Int) + (a2 : Int) + 1)], Lib.hid ?_, Lib.hid ?_, Lib.hid ?_, Lib.hid ?_, HWF⟩
          · rw [HSTP.out, HP.out]; omega
          · simp [HM1.out]
          · rw [List.map_append, HM2.out, mkLK_take _ _ _ (by rw [HLL.out]; exact hlt), show nth l j = kDz.strip x0 by rw [← HT.out, nth_map _ HJL.out, HX0.out], ← HP.out, ← HSF.out]
            rfl
          · rw [List.map_append, HM3.out, List.take_succ_eq_append_getElem HJL.out, List.map_append, ← nth_eq HJL.out, HX0.out]
            simp only [List.map_cons, List.map_nil]
            rw [HBF.out]
          · have h9 := HOF.out
            rw [← HZ.out, set_over HM1.out HJL.out] at h9
            exact h9
        case measure => simp [intOf]; omega
      · obtain rfl : j = n := by omega
        clear hlt
        go_wp2
        go_ret
        have hn := HN.out
        have hp := HP.out
        have e1 : l.take j = l := List.take_of_length_le (by rw [HLL.out]; exact Nat.le_refl _)
        have e2 : L.take j = L := List.take_of_length_le (by omega)
        have e3 : L.drop j = [] := List.drop_eq_nil_of_le (by omega)
        have hh := HO.out
        have hm2 := HM2.out
        have hm3 := HM3.out
        rw [e1] at hp hm2
        rw [e2] at hm3
        rw [e3, List.append_nil] at hh
        refine ⟨ret_int hp, ⟨some ⟨g, 0, none⟩, j, cap, M⟩, rfl, ?_, hm2, hh, HW.out⟩
        rw [← HBS.out]
        show _ ++ M.flatMap kDz.blocks = _ ++ L.flatMap kDz.blocks
        rw [List.flatMap_def, List.flatMap_def, hm3]
        rfl

end Go.Proofs.YtcidfmmeonhkhaaGreatDoor.Row
/- The policy of trust: marked. No conditions but that lengths fit. -/
namespace Go.Proofs.YtcidfmmeonhkhaaGreatDoor.Row
open Go.ChangeShapes Go.WideShapes Go.ChangeAt Go.RowKit Go.Instr
set_option linter.unusedVariables false
set_option maxRecDepth 100000

def avTp (x : Tpt) : Nat := advK mvKy x.1 + advK mvRl x.2.1 + advK mvNn x.2.2.1 + advK mvDz x.2.2.2
def mkTp (k : Int) (x : Tpt) : Tpt := (mkLK mvKy meKy (k) x.1, mkLK mvRl meRl (k + (advK mvKy x.1 : Nat)) x.2.1, mkLK mvNn meNn (k + (advK mvKy x.1 : Nat) + (advK mvRl x.2.1 : Nat)) x.2.2.1, mkLK mvDz meDz (k + (advK mvKy x.1 : Nat) + (advK mvRl x.2.1 : Nat) + (advK mvNn x.2.2.1 : Nat)) x.2.2.2)
set_option maxHeartbeats 4000000 in
theorem markTrustPolicyK (B E : Nat) (m : Rw Kym × Rw Rlm × Rw Nnm × Rw Dzm) (w : World) (k : Int) (h : kTp.Own B E w m) (hp : avTp (kTp.strip m) ≤ 100000000) (h0 : 0 ≤ k) (h1 : k + (avTp (kTp.strip m) : Int) ≤ 100000000000) :
    Calls Tryz.prog 44 #[kTp.val m, .int .i64 k] w fun e w' => e = .returned (.int .i64 (k + (avTp (kTp.strip m) : Int))) ∧ ∃ m', kTp.val m' = kTp.val m ∧ kTp.blocks m' = kTp.blocks m ∧ kTp.strip m' = mkTp k (kTp.strip m) ∧ kTp.Own B E w' m' ∧ WroteBy (kTp.blocks m) w w' := by
  obtain ⟨m0, m1, m2, m3⟩ := m
  obtain ⟨o0, h1_, hd0⟩ := Kd.Own.parts h
  obtain ⟨o1, h2_, hd1⟩ := Kd.Own.parts h1_
  obtain ⟨o2, o3, hd2⟩ := Kd.Own.parts h2_
  obtain ⟨x0_0, n0_0, c0_0, e0, -⟩ := kLKy_shapeA (Kd.at_of (k := kLKy) o0.holds)
  have d0 : kLKy.cells m0 = [.slice x0_0 n0_0 c0_0] := by show [kLKy.val m0] = _; rw [e0]
  obtain ⟨x1_0, n1_0, c1_0, e1, -⟩ := kLRl_shapeA (Kd.at_of (k := kLRl) o1.holds)
  have d1 : kLRl.cells m1 = [.slice x1_0 n1_0 c1_0] := by show [kLRl.val m1] = _; rw [e1]
  obtain ⟨x2_0, n2_0, c2_0, e2, -⟩ := kLNn_shapeA (Kd.at_of (k := kLNn) o2.holds)
  have d2 : kLNn.cells m2 = [.slice x2_0 n2_0 c2_0] := by show [kLNn.val m2] = _; rw [e2]
  obtain ⟨x3_0, n3_0, c3_0, e3, -⟩ := kLDz_shapeA (Kd.at_of (k := kLDz) o3.holds)
  have d3 : kLDz.cells m3 = [.slice x3_0 n3_0 c3_0] := by show [kLDz.val m3] = _; rw [e3]
  have hval : kTp.val (m0, m1, m2, m3) = .agg #[.slice x0_0 n0_0 c0_0, .slice x1_0 n1_0 c1_0, .slice x2_0 n2_0 c2_0, .slice x3_0 n3_0 c3_0] := by
    show Value.agg ((kLKy.cells m0 ++ (kLRl.cells m1 ++ (kLNn.cells m2 ++ (kLDz.cells m3))))).toArray = _
    rw [d0, d1, d2, d3]
    rfl
  have hp9 : advK mvKy (kLKy.strip m0) + advK mvRl (kLRl.strip m1) + advK mvNn (kLNn.strip m2) + advK mvDz (kLDz.strip m3) ≤ 100000000 := hp
  rw [hval]
  have hk9 : k + ((advK mvKy (kLKy.strip m0) + advK mvRl (kLRl.strip m1) + advK mvNn (kLNn.strip m2) + advK mvDz (kLDz.strip m3) : Nat) : Int) ≤ 100000000000 := h1
  have hal := (Below.refl w.heap.size w).alloc (Nat.le_refl _) (.cells #[.slice x0_0 n0_0 c0_0, .slice x1_0 n1_0 c1_0, .slice x2_0 n2_0 c2_0, .slice x3_0 n3_0 c3_0] 29)
  have HW := Lib.hid (WroteBy.ofBelow (bs := kTp.blocks (m0, m1, m2, m3)) hal)
  have HX := Lib.hid (Ret.Blk.new w #[.slice x0_0 n0_0 c0_0, .slice x1_0 n1_0 c1_0, .slice x2_0 n2_0 c2_0, .slice x3_0 n3_0 c3_0] 29)
  have O0 := Lib.hid (o0.on hal); have LT0 := Lib.hid (fun g hg => (o0.lt g hg).2.2); have EV0 := Lib.hid e0; have D0 := Lib.hid d0
  have O1 := Lib.hid (o1.on hal); have LT1 := Lib.hid (fun g hg => (o1.lt g hg).2.2); have EV1 := Lib.hid e1; have D1 := Lib.hid d1
  have O2 := Lib.hid (o2.on hal); have LT2 := Lib.hid (fun g hg => (o2.lt g hg).2.2); have EV2 := Lib.hid e2; have D2 := Lib.hid d2
  have O3 := Lib.hid (o3.on hal); have LT3 := Lib.hid (fun g hg => (o3.lt g hg).2.2); have EV3 := Lib.hid e3; have D3 := Lib.hid d3
  have HD0 := Lib.hid hd0
  have HD1 := Lib.hid hd1
  have HD2 := Lib.hid hd2
  have HVAL := Lib.hid hval
  clear hval hal h hp o0 e0 d0 o1 e1 d1 o2 e2 d2 o3 e3 d3 hd0 hd1 hd2 h1_ h2_
  go_enter Tryz.func44, Tryz.ntmps44
  go_wp2_with fail
  have hc := markKeySK B E m0 (w.alloc (.cells #[.slice x0_0 n0_0 c0_0, .slice x1_0 n1_0 c1_0, .slice x2_0 n2_0 c2_0, .slice x3_0 n3_0 c3_0] 29)) (k) O0.out (by omega) (by omega) (by omega)
  rw [EV0.out] at hc
  refine hc.mono ?_
  clear hc
  rintro e w1 ⟨rfl, n0, v0, b0, s0, ho, hw⟩
  replace O0 := Lib.hid ho
  have V0 := Lib.hid v0; have N0 := Lib.hid b0; have S0 := Lib.hid s0; clear ho v0 b0 s0
  replace O1 := Lib.hid (hw.own O1.out (fun g hg hg2 => HD0.out g hg2 (List.mem_append_left _ hg)))
  replace O2 := Lib.hid (hw.own O2.out (fun g hg hg2 => HD0.out g hg2 (List.mem_append_right _ (List.mem_append_left _ hg))))
  replace O3 := Lib.hid (hw.own O3.out (fun g hg hg2 => HD0.out g hg2 (List.mem_append_right _ (List.mem_append_right _ hg))))
  replace HX := Lib.hid (hw.blk HX.out (fun hg => by have h5 := LT0.out _ hg; omega))
  replace HW := Lib.hid (HW.out.trans (hw.more (fun g hg => List.mem_append_left _ hg)))
  clear hw
  have q0 : w1.cell? ⟨w.heap.size, 0, none⟩ = some (.slice x0_0 n0_0 c0_0) := HX.out.cell 0
  have q1 : w1.cell? ⟨w.heap.size, 1, none⟩ = some (.slice x1_0 n1_0 c1_0) := HX.out.cell 1
  have q2 : w1.cell? ⟨w.heap.size, 2, none⟩ = some (.slice x2_0 n2_0 c2_0) := HX.out.cell 2
  have q3 : w1.cell? ⟨w.heap.size, 3, none⟩ = some (.slice x3_0 n3_0 c3_0) := HX.out.cell 3
  go_wp2_with fail
  clear q0 q1 q2 q3
  have hc := markRuleSK B E m1 w1 (k + (advK mvKy (kLKy.strip m0) : Int)) O1.out (by omega) (by omega) (by omega)
  rw [EV1.out] at hc
  refine hc.mono ?_
  clear hc
  rintro e w2 ⟨rfl, n1, v1, b1, s1, ho, hw⟩
  replace O1 := Lib.hid ho
  have V1 := Lib.hid v1; have N1 := Lib.hid b1; have S1 := Lib.hid s1; clear ho v1 b1 s1
  replace O0 := Lib.hid (hw.own O0.out (fun g hg hg2 => HD0.out g (N0.out ▸ hg) (List.mem_append_left _ hg2)))
  replace O2 := Lib.hid (hw.own O2.out (fun g hg hg2 => HD1.out g hg2 (List.mem_append_left _ hg)))
  replace O3 := Lib.hid (hw.own O3.out (fun g hg hg2 => HD1.out g hg2 (List.mem_append_right _ hg)))
  replace HX := Lib.hid (hw.blk HX.out (fun hg => by have h5 := LT1.out _ hg; omega))
  replace HW := Lib.hid (HW.out.trans (hw.more (fun g hg => List.mem_append_right _ (List.mem_append_left _ hg))))
  clear hw
  have q0 : w2.cell? ⟨w.heap.size, 0, none⟩ = some (.slice x0_0 n0_0 c0_0) := HX.out.cell 0
  have q1 : w2.cell? ⟨w.heap.size, 1, none⟩ = some (.slice x1_0 n1_0 c1_0) := HX.out.cell 1
  have q2 : w2.cell? ⟨w.heap.size, 2, none⟩ = some (.slice x2_0 n2_0 c2_0) := HX.out.cell 2
  have q3 : w2.cell? ⟨w.heap.size, 3, none⟩ = some (.slice x3_0 n3_0 c3_0) := HX.out.cell 3
  go_wp2_with fail
  clear q0 q1 q2 q3
  have hc := markNameSK B E m2 w2 (k + (advK mvKy (kLKy.strip m0) : Int) + (advK mvRl (kLRl.strip m1) : Int)) O2.out (by omega) (by omega) (by omega)
  rw [EV2.out] at hc
  refine hc.mono ?_
  clear hc
  rintro e w3 ⟨rfl, n2, v2, b2, s2, ho, hw⟩
  replace O2 := Lib.hid ho
  have V2 := Lib.hid v2; have N2 := Lib.hid b2; have S2 := Lib.hid s2; clear ho v2 b2 s2
  replace O0 := Lib.hid (hw.own O0.out (fun g hg hg2 => HD0.out g (N0.out ▸ hg) (List.mem_append_right _ (List.mem_append_left _ hg2))))
  replace O1 := Lib.hid (hw.own O1.out (fun g hg hg2 => HD1.out g (N1.out ▸ hg) (List.mem_append_left _ hg2)))
  replace O3 := Lib.hid (hw.own O3.out (fun g hg hg2 => HD2.out g hg2 (hg)))
  replace HX := Lib.hid (hw.blk HX.out (fun hg => by have h5 := LT2.out _ hg; omega))
  replace HW := Lib.hid (HW.out.trans (hw.more (fun g hg => List.mem_append_right _ (List.mem_append_right _ (List.mem_append_left _ hg)))))
  clear hw
  have q0 : w3.cell? ⟨w.heap.size, 0, none⟩ = some (.slice x0_0 n0_0 c0_0) := HX.out.cell 0
  have q1 : w3.cell? ⟨w.heap.size, 1, none⟩ = some (.slice x1_0 n1_0 c1_0) := HX.out.cell 1
  have q2 : w3.cell? ⟨w.heap.size, 2, none⟩ = some (.slice x2_0 n2_0 c2_0) := HX.out.cell 2
  have q3 : w3.cell? ⟨w.heap.size, 3, none⟩ = some (.slice x3_0 n3_0 c3_0) := HX.out.cell 3
  go_wp2_with fail
  clear q0 q1 q2 q3
  have hc := markDataSK B E m3 w3 (k + (advK mvKy (kLKy.strip m0) : Int) + (advK mvRl (kLRl.strip m1) : Int) + (advK mvNn (kLNn.strip m2) : Int)) O3.out (by omega) (by omega) (by omega)
  rw [EV3.out] at hc
  refine hc.mono ?_
  clear hc
  rintro e w4 ⟨rfl, n3, v3, b3, s3, ho, hw⟩
  replace O3 := Lib.hid ho
  have V3 := Lib.hid v3; have N3 := Lib.hid b3; have S3 := Lib.hid s3; clear ho v3 b3 s3
  replace O0 := Lib.hid (hw.own O0.out (fun g hg hg2 => HD0.out g (N0.out ▸ hg) (List.mem_append_right _ (List.mem_append_right _ hg2))))
  replace O1 := Lib.hid (hw.own O1.out (fun g hg hg2 => HD1.out g (N1.out ▸ hg) (List.mem_append_right _ hg2)))
  replace O2 := Lib.hid (hw.own O2.out (fun g hg hg2 => HD2.out g (N2.out ▸ hg) (hg2)))
  replace HX := Lib.hid (hw.blk HX.out (fun hg => by have h5 := LT3.out _ hg; omega))
  replace HW := Lib.hid (HW.out.trans (hw.more (fun g hg => List.mem_append_right _ (List.mem_append_right _ (List.mem_append_right _ hg)))))
  clear hw
  have q0 : w4.cell? ⟨w.heap.size, 0, none⟩ = some (.slice x0_0 n0_0 c0_0) := HX.out.cell 0
  have q1 : w4.cell? ⟨w.heap.size, 1, none⟩ = some (.slice x1_0 n1_0 c1_0) := HX.out.cell 1
  have q2 : w4.cell? ⟨w.heap.size, 2, none⟩ = some (.slice x2_0 n2_0 c2_0) := HX.out.cell 2
  have q3 : w4.cell? ⟨w.heap.size, 3, none⟩ = some (.slice x3_0 n3_0 c3_0) := HX.out.cell 3
  go_wp2_with fail
  go_ret
  refine ⟨ret_int (by show _ = k + ((advK mvKy (kLKy.strip m0) + advK mvRl (kLRl.strip m1) + advK mvNn (kLNn.strip m2) + advK mvDz (kLDz.strip m3) : Nat) : Int); omega), (n0, n1, n2, n3), ?_, ?_, ?_, ?_, HW.out⟩
  · show Value.agg ((kLKy.cells n0 ++ (kLRl.cells n1 ++ (kLNn.cells n2 ++ (kLDz.cells n3))))).toArray = _
    have c0 : kLKy.cells n0 = [.slice x0_0 n0_0 c0_0] := by
      have e := V0.out
      show [kLKy.val n0] = _; rw [e]
    have c1 : kLRl.cells n1 = [.slice x1_0 n1_0 c1_0] := by
      have e := V1.out
      show [kLRl.val n1] = _; rw [e]
    have c2 : kLNn.cells n2 = [.slice x2_0 n2_0 c2_0] := by
      have e := V2.out
      show [kLNn.val n2] = _; rw [e]
    have c3 : kLDz.cells n3 = [.slice x3_0 n3_0 c3_0] := by
      have e := V3.out
      show [kLDz.val n3] = _; rw [e]
    rw [c0, c1, c2, c3]
    rfl
  · show (kLKy.blocks n0 ++ (kLRl.blocks n1 ++ (kLNn.blocks n2 ++ (kLDz.blocks n3)))) = (kLKy.blocks m0 ++ (kLRl.blocks m1 ++ (kLNn.blocks m2 ++ (kLDz.blocks m3))))
    rw [N0.out, N1.out, N2.out, N3.out]
  · show (kLKy.strip n0, kLRl.strip n1, kLNn.strip n2, kLDz.strip n3) = mkTp k (kLKy.strip m0, kLRl.strip m1, kLNn.strip m2, kLDz.strip m3)
    rw [S0.out, S1.out, S2.out, S3.out]
    rfl
  · exact (Kd.Own.join O0.out (Kd.Own.join O1.out (Kd.Own.join O2.out O3.out (fun g hg hg2 => HD2.out g (N2.out ▸ hg) (by
      have hg3 : g ∈ kLDz.blocks n3 := hg2
      rw [N3.out] at hg3
      exact hg3))) (fun g hg hg2 => HD1.out g (N1.out ▸ hg) (by
      have hg3 : g ∈ (kLNn.blocks n2 ++ kLDz.blocks n3) := hg2
      rw [N2.out, N3.out] at hg3
      exact hg3))) (fun g hg hg2 => HD0.out g (N0.out ▸ hg) (by
      have hg3 : g ∈ (kLRl.blocks n1 ++ (kLNn.blocks n2 ++ kLDz.blocks n3)) := hg2
      rw [N1.out, N2.out, N3.out] at hg3
      exact hg3)))
theorem markTpK (B E : Nat) (V : Value) (x : Tpt) (w : World) (k : Int) (h : kTp.In B E w V x) (hp : avTp x ≤ 100000000) (h0 : 0 ≤ k) (h1 : k ≤ 1000000000) :
    Calls Tryz.prog 44 #[V, .int .i64 k] w fun e w' => e = .returned (.int .i64 (k + (avTp x : Int))) ∧ kTp.In B E w' V (mkTp k x) ∧ Wrote B E w w' := by
  obtain ⟨m, rfl, rfl, hw9⟩ := h.split
  refine (markTrustPolicyK B E m w k hw9 hp h0 (by omega)).mono ?_
  rintro e w' ⟨a, n, v, b, s, ho, hw⟩
  exact ⟨a, v ▸ s ▸ ho.in, hw.wrote (fun g hg => ⟨(hw9.lt g hg).1, (hw9.lt g hg).2.1⟩)⟩
end Go.Proofs.YtcidfmmeonhkhaaGreatDoor.Row
/- Chains of keys in the words of the exact laws: how long they are; lists of names marked and held; the policy's marks. No conditions but that lengths fit. -/
namespace Go.Proofs.YtcidfmmeonhkhaaGreatDoor.Row
open Go.ChangeShapes Go.WideShapes Go.ChangeAt Go.RowKit Go.Instr
set_option linter.unusedVariables false
set_option maxRecDepth 100000

theorem cellsOf5 {w : World} {g : Nat} {c0 c1 c2 c3 c4 : Value} {t : TypeId} (h : Ret.Blk w g #[c0, c1, c2, c3, c4] t) : w.cell? ⟨g, 0, none⟩ = some c0 ∧ w.cell? ⟨g, 1, none⟩ = some c1 ∧ w.cell? ⟨g, 2, none⟩ = some c2 ∧ w.cell? ⟨g, 3, none⟩ = some c3 ∧ w.cell? ⟨g, 4, none⟩ = some c4 := ⟨h.cell 0, h.cell 1, h.cell 2, h.cell 3, h.cell 4⟩
theorem cellsOf4 {w : World} {g : Nat} {c0 c1 c2 c3 : Value} {t : TypeId} (h : Ret.Blk w g #[c0, c1, c2, c3] t) : w.cell? ⟨g, 0, none⟩ = some c0 ∧ w.cell? ⟨g, 1, none⟩ = some c1 ∧ w.cell? ⟨g, 2, none⟩ = some c2 ∧ w.cell? ⟨g, 3, none⟩ = some c3 := ⟨h.cell 0, h.cell 1, h.cell 2, h.cell 3⟩
theorem fitD_of {x : Dzt} (h : bulkD x ≤ 1200000) (hw : WfD x) : FitD x := by
  have h9 : bulk x.1 + x.2.1.length + bulk x.2.2.1 ≤ 1200000 := h
  have h1 := bulk_len x.1
  have h2 := bulk_len x.2.2.1
  exact ⟨h, ⟨by omega, hw.1⟩, ⟨by unfold okB; omega, hw.2.1⟩, ⟨by omega, hw.2.2.1⟩, hw.2.2.2⟩
theorem advK_sum {α : Type} (f : α → Nat) (l : List α) : advK f l = (l.map f).sum := by
  induction l with
  | nil => rfl
  | cons a r ih => simp [advK, ih]
theorem advK_bulkK {α : Type} [Inhabited α] (f g : α → Nat) (c : Nat) (h : ∀ x, f x ≤ g x + c) (hc : 1 ≤ c) (l : List α) : advK f l ≤ c * bulkK g l := by
  have h1 : ∀ l : List α, advK f l ≤ (l.map g).sum + c * l.length := fun l => by
    induction l with
    | nil => simp [advK]
    | cons a r ih =>
      have := h a
      simp only [advK, List.map_cons, List.sum_cons, List.length_cons, Nat.mul_add]
      omega
  have h2 : bulkK g l = l.length + (l.map g).sum := by unfold bulkK bulkKTo; rw [List.take_length]
  have h3 := h1 l
  have h4 : (l.map g).sum ≤ c * (l.map g).sum := Nat.le_mul_of_pos_left _ hc
  rw [h2, Nat.mul_add]
  omega
theorem avTp_big {x : Tpt} {n : Nat} (h : wtTp x ≤ n) : avTp x ≤ 2 * n := by
  have h0 : bulkK wtKy x.1 + bulkK wtRl x.2.1 + bulkK wtNn x.2.2.1 + bulkK wtDz x.2.2.2 ≤ n := h
  have h1 := advK_bulkK mvKy wtKy 2 (fun y => by have := bulk_len y.1; unfold mvKy wtKy; omega) (by decide) x.1
  have h2 := advK_bulkK mvRl wtRl 2 (fun y => by have := bulk_len y.1; have := bulk_len y.2; unfold mvRl wtRl; omega) (by decide) x.2.1
  have h3 := advK_bulkK mvNn wtNn 2 (fun y => by have := bulk_len y; unfold mvNn wtNn; omega) (by decide) x.2.2.1
  have h4 := advK_bulkK mvDz wtDz 2 (fun y => by have := bulk_len y.1; have := bulk_len y.2.2.1; unfold mvDz wtDz; omega) (by decide) x.2.2.2
  unfold avTp
  omega
theorem adL_adv (l : List Nnt) : adLNn l = l.length + advK mvNn l := by
  unfold adLNn bulkK bulkKTo
  rw [List.take_length, advK_sum]
  rfl
theorem adv_adL (l : List Nnt) : advK mvNn l ≤ adLNn l := by rw [adL_adv]; omega
theorem markLNnK (B E : Nat) (V : Value) (l : List Nnt) (w : World) (k : Int) (h : kLNn.In B E w V l) (hl : adLNn l ≤ 100000000) (h0 : 0 ≤ k) (h1 : k ≤ 1000000000) :
    Calls Tryz.prog 46 #[V, .int .i64 k] w fun e w' => e = .returned (.int .i64 (k + (advK mvNn l : Int))) ∧ kLNn.In B E w' V (mkLK mvNn meNn k l) ∧ Wrote B E w w' := by
  obtain ⟨m, rfl, rfl, hw9⟩ := h.split
  have hle := adv_adL (kLNn.strip m)
  refine (markNameSK B E m w k hw9 (by omega) h0 (by omega)).mono ?_
  rintro e w' ⟨a, n, v, b, s, ho, hw⟩
  exact ⟨a, v ▸ s ▸ ho.in, hw.wrote (fun g hg => ⟨(hw9.lt g hg).1, (hw9.lt g hg).2.1⟩)⟩
theorem heldLNnK (V : Value) (w : World) (k : Int) (l : List Nnt) (h : kLNn.At w V (mkLK mvNn meNn k l)) (hl : adLNn l ≤ 100000000) (h0 : 0 ≤ k) (h1 : k ≤ 1000000000) :
    Calls Tryz.prog 47 #[V, .int .i64 k] w fun e w' => e = .returned (.int .i64 (k + (advK mvNn l : Int))) ∧ Below w.heap.size w w' := by
  have h9 := adL_adv l
  exact heldNameSK V l w k h (by omega) (by omega) h0 (by omega)
theorem chainT_in {t : Tpt} {now : Int} {b : Nat} (hc : ∀ y ∈ t.2.2.2, y.2.2.1.length ≤ b) : ∀ (k : Nat) (x : Dzt) (L : List Nnt), x.2.2.1.length ≤ b → chainT t now k x = some L → L.length ≤ k ∧ ∀ n ∈ L, n.length ≤ b := by
  intro k
  induction k with
  | zero => intro x L hx h; cases h
  | succ k ih =>
    intro x L hx h
    rw [chainT.eq_2] at h
    split at h
    · split at h
      · cases h
        exact ⟨by simp, fun n hn => by rw [List.mem_singleton.1 hn]; exact hx⟩
      · split at h
        · cases h
        · rename_i h1 h2 h3
          cases hk : chainT t now k (nth t.2.2.2 (findC t x.2.2.1 now).toNat) with
          | none => rw [hk] at h; cases h
          | some M =>
            rw [hk] at h
            cases h
            have hlt : (findC t x.2.2.1 now).toNat < t.2.2.2.length := by rcases findC_lt t x.2.2.1 now with h5 | h5; exact absurd h5 h3; exact h5
            obtain ⟨q1, q2⟩ := ih _ M (hc _ (nth_mem hlt)) hk
            exact ⟨by simp; omega, fun n hn => by rcases List.mem_cons.1 hn with h6 | h6; rw [h6]; exact hx; exact q2 n h6⟩
    · cases h
theorem chT_in {t : Tpt} {x : Dzt} {now : Int} {b : Nat} (hc : ∀ y ∈ t.2.2.2, y.2.2.1.length ≤ b) (hx : x.2.2.1.length ≤ b) : (chT t x now).length ≤ 4 ∧ ∀ n ∈ chT t x now, n.length ≤ b := by
  unfold chT
  cases h : chainT t now 4 x with
  | none => exact ⟨by simp, fun n hn => by cases hn⟩
  | some L => exact chainT_in hc 4 x L hx h
theorem chT_ad (t : Tpt) (x : Dzt) (now : Int) (hp : FitT t) (hx : FitD x) : adLNn (chT t x now) ≤ 5000000 := by
  obtain ⟨h1, h2⟩ := chT_in (t := t) (x := x) (now := now) (b := 1200000) (fun y hy => by have := bulk_len y.2.2.1; have := (hp.certs y hy).key; omega) (by have := bulk_len x.2.2.1; have := hx.key; omega)
  have h3 := bulkK_of (f := adNn) (l := chT t x now) h1 h2
  unfold adLNn
  omega
end Go.Proofs.YtcidfmmeonhkhaaGreatDoor.Row
