/- Contracts of the reference model's draws of tables, over the cursor of Draw. What was in memory stays as it was, but for the cursor. -/
import Derived.Test.YtihcebjbkifbpaaDrawAny
import Derived.Test.YtihcebjbkifbpaaFmt
import Derived.Test.YtihcebjbkifbpaaTabSize
namespace Go.Proofs.Ytihcebjbkifbpaa.Draw
open Go.ChangeShapes Go.WideShapes Go.ChangeAt Go.RowKit Go.Instr
open Go.Proofs.Ytihcebjbkifbpaa.Row (bulk bulk_append bulk_one bulk_nil bulk_cons OwnK TabOwn putT validT)
open Go.Proofs.Ytihcebjbkifbpaa.Ret (NC)
set_option linter.unusedVariables false
set_option maxRecDepth 100000

/-- Every name's size is at most 1000. -/
def smD (T : List (List ByteArray × Int)) : Prop := ∀ t ∈ T, bulk t.1 ≤ 1000
theorem smD.smT {T : List (List ByteArray × Int)} (h : smD T) : Row.smT T := fun t ht => Nat.le_trans (h t ht) (by decide)
theorem smD_nil : smD [] := fun t ht => by cases ht
theorem smD_append {T U : List (List ByteArray × Int)} (h : smD T) (g : smD U) : smD (T ++ U) := fun t ht => (List.mem_append.1 ht).elim (h t) (g t)
theorem smD_one {n : List ByteArray} {a : Int} (h : bulk n ≤ 1000) : smD [(n, a)] := fun t ht => by rw [List.mem_singleton.1 ht]; exact h
theorem smD_putT {T : List (List ByteArray × Int)} {n : List ByteArray} {a : Int} (h : smD T) (hn : bulk n ≤ 1000) : smD (putT T n a) := by
  unfold Row.putT
  split
  · unfold Row.putRaw
    split
    · rename_i hi
      intro t ht
      rcases List.mem_or_eq_of_mem_set ht with ht | ht
      · exact h t ht
      · rw [ht]; exact (show bulk (Row.nth T (T.findIdx (Row.isN n))).1 ≤ 1000 from h _ (Row.nth_mem hi))
    · intro t ht
      rcases Row.insT_mem ht with ht | ht
      · exact h t ht
      · rw [ht]; exact hn
  · exact h
def TabD (B K : Nat) (x : Value) (w : World) : Prop := ∃ T, TabOwn B w x T ∧ T.length ≤ K ∧ smD T
theorem ownk_keep {α : Type} {enc : α → List Value} {sz : Nat} {e : TypeId} {B p : Nat} {w w' : World} {x : Value} {m : List α} (h : OwnK e enc sz B w x m) (hk : Keep p w w') (hp : p < B) : OwnK e enc sz B w' x m := by
  refine ⟨h.1, ?_⟩
  rcases h.2 with h2 | ⟨g, cap, cur, hv, hB, hc, r⟩
  · exact Or.inl h2
  · exact Or.inr ⟨g, cap, cur, hv, hB, by rw [hk.block g (Array.getElem?_eq_some_iff.1 hc).1 (by omega)]; exact hc, r⟩
theorem tabo_keep {B p : Nat} {w w' : World} {x : Value} {L : List Row.Ent} (h : Row.TabO B w x L) (hk : Keep p w w') (hp : p < B) : Row.TabO B w' x L := ⟨ownk_keep h.1 hk hp, fun y hy => rown_keep (h.2.1 y hy) hk hp, h.2.2⟩
theorem tab_keep {B p : Nat} {w w' : World} {x : Value} {T : List (List ByteArray × Int)} (h : TabOwn B w x T) (hk : Keep p w w') (hp : p < B) : TabOwn B w' x T := by
  obtain ⟨L, e, h1⟩ := h
  exact ⟨L, e, tabo_keep h1 hk hp⟩

set_option maxHeartbeats 4000000 in
theorem l6Draw (w0 : World) (p : Nat) (v : Value) (l : List UInt8) (w : World) (hc : Cur w0 p v l w) :
    Calls Try.prog 79 #[.pointer (some ⟨p, 0, none⟩)] w (DrawnW w0 p v l w (TabD w.heap.size 7)) := by
  have hpl := hc.lt
  have hb0 := (Below.refl w.heap.size w).alloc (Nat.le_refl _) (.cells #[] 44)
  have HK0 := Lib.hid (keep_alloc p w (.cells #[] 44))
  have HO0 := Lib.hid (Row.TabO.empty w)
  have HB := Lib.hid (below w0 p v l _ 7 (hc.on hb0))
  clear hc hb0
  go_enter Try.func79, Try.ntmps79
  go_wp2_with fail
  refine HB.out.mono ?_
  rintro e w1 ⟨y, rfl, ⟨r, rfl, hr, _⟩, hc1, hk1⟩
  have hr := hr (by omega)
  obtain ⟨r, rfl⟩ := Int.eq_ofNat_of_zero_le hr.1
  have hr7 : r < 7 := by omega
  have HC1 := Lib.hid hc1
  have HK1 := Lib.hid (HK0.out.trans hk1)
  have HO1 := Lib.hid (show TabOwn w.heap.size w1 (.slice (some ⟨w.heap.size, 0, none⟩) 0 0) [] from tab_keep ⟨[], rfl, HO0.out⟩ hk1 hpl)
  clear hc1 hk1 hr HB HO0
  go_wp2_with fail
  go_loopw [3, 4] (fun tv iv wr => ∃ (k j : Nat) (T : List (List ByteArray × Int)), k + j ≤ 6 ∧ iv = .int .i64 k ∧ T.length ≤ j ∧ Hid (smD T) ∧ Hid (TabOwn w.heap.size wr tv T) ∧ Hid (Cur w0 p v l wr) ∧ Hid (Keep p w wr)) (fun _ iv _ => (intOf iv).toNat)
  case atStart => exact ⟨r, 0, [], by omega, rfl, by simp, Lib.hid smD_nil, HO1, HC1, HK1⟩
  case round =>
    obtain ⟨k, j, T, hkj, rfl, hT, hs, hO, hC, hK⟩ := hrel
    obtain ⟨x, n, c, rfl, hn, hcap, ho⟩ := hO.out.shapeN
    have HO := Lib.hid ho
    clear hn ho hO
    by_cases hk0 : 0 < k
    · have HN := Lib.hid (l4Name w0 p v l wr hC.out)
      have hpr := hC.out.lt
      go_wp2_with fail
      refine HN.out.mono ?_
      rintro e w2 ⟨y, rfl, ⟨u, m, rfl, hou, hm⟩, hc2, hk2⟩
      obtain ⟨xu, nu, cu, rfl, -, -, hou⟩ := hou.shapeN
      have hal : Below w2.heap.size w2 (w2.alloc (.cells #[.slice xu nu cu] 27)).drew := ((Below.refl _ _).alloc (Nat.le_refl _) _).drew
      have HCA := Lib.hid (hc2.on hal)
      have HKA := Lib.hid ((hK.out.trans hk2).trans (Keep.of_below (p := p) hal))
      have HOA := Lib.hid ((tab_keep HO.out hk2 hpl).on hal)
      have HUA := Lib.hid (hou.on hal)
      have HXA := Lib.hid ((Ret.Box.new' (w := w2) (n := w2.heap.size) (.slice xu nu cu) 27 rfl).on ((Below.refl _ _).drew))
      have hgp : w2.heap.size ≠ p := by have := hc2.lt; omega
      have HSM := Lib.hid (show Row.smT T from hs.out.smT)
      clear hal hou hc2 hk2 HN
      go_wp2_with fail
      go_region_held3 (fun w' => w'.cell? ⟨w2.heap.size, 0, none⟩ = some (.slice xu nu cu)) (first | exact HXA.out.cell | exact hxc3 | exact hxc4) ((first | (go_at_call 46; refine (below w0 p v l (w2.alloc (.cells #[.slice xu nu cu] 27)).drew 9 HCA.out).mono ?_; rintro e w3 ⟨y, rfl, ⟨q, rfl, hq, hq2⟩, hc3, hk3⟩; have HX3 := Lib.hid (box_keep HXA.out hk3 hgp); have hxc3 := HX3.out.cell) | (go_at_call 14; refine (Row.specPutEntry _ _ T m q w3 (tab_keep HOA.out hk3 hpl).holds (rown_keep HUA.out hk3 hpr).holds (by omega) HSM.out (by omega)).mono ?_; rintro e w4 ⟨v4, rfl, ho4, hb4⟩; have hxc4 := (HX3.out.on hb4).cell)))
      all_goals
        have HC4 := Lib.hid (hc3.on hb4)
        have HK4 := Lib.hid ((HKA.out.trans hk3).trans (Keep.of_below (p := p) hb4))
        have HO4 := Lib.hid (ho4.mono (Nat.le_trans HKA.out.size hk3.size))
        have HS4 := Lib.hid (smD_putT (a := q) hs.out (show bulk m ≤ 1000 by omega))
        have hl4 : (putT T m q).length ≤ j + 1 := by have := Row.putT_length T m q; omega
        clear hxc3 hxc4 ho4 hb4 hc3 hk3 hq hq2
        go_wp2_with fail
        go_roundw
        case rel => exact ⟨k - 1, j + 1, putT T m q, by omega, by go_num, hl4, HS4, HO4, HC4, HK4⟩
        case measure => simp [intOf]; omega
    · obtain rfl : k = 0 := by omega
      clear hk0
      go_wp2_with fail
      go_ret
      exact ⟨_, rfl, ⟨T, HO.out, by omega, hs.out⟩, hC.out, hK.out⟩

theorem holds_set {w : World} {g : Nat} {u v x : Value} {t : TypeId} {l : List ByteArray} (h : Row.Holds Value.string w v l) (hb : Ret.Box w g u t) (hu : ∀ s, u ≠ .string s) : Row.Holds Value.string (w.setCell ⟨g, 0, none⟩ x) v l := by
  obtain ⟨a, cap, rfl, hc, h⟩ := h
  refine ⟨a, cap, rfl, hc, ?_⟩
  rcases h with h | ⟨b, off, rfl, h⟩
  · exact Or.inl h
  · refine Or.inr ⟨b, off, rfl, fun j hj => ?_⟩
    have h1 := h j hj
    by_cases e : b = g
    · subst e
      rw [cell_of_row w b (off + j) #[u] t _ hb] at h1
      cases hk : off + j with
      | zero => rw [hk] at h1; simp at h1; exact absurd h1 (hu _)
      | succ n => rw [hk] at h1; simp at h1
    · exact (keep_set w g 0 x).cell h1 e

set_option maxHeartbeats 1000000 in
theorem l4Of (s : ByteArray) (w : World) (hs : s.size ≤ 10000000) :
    Calls Try.prog 81 #[.string s] w fun e w' => ∃ u, e = .returned (.agg #[u]) ∧ Row.Holds Value.string w' u (Row.pN s) ∧ Below w.heap.size w w' := by
  have HB0 := Lib.hid ((Below.refl w.heap.size w).alloc (Nat.le_refl _) (.cells #[.slice none 0 0] 27))
  have HX0 := Lib.hid (Ret.Box.new w (.slice none 0 0) 27)
  have HP := Lib.hid (Row.specParseName s (w.alloc (.cells #[.slice none 0 0] 27)) hs)
  go_enter Try.func81, Try.ntmps81
  go_wp2_with fail
  refine HP.out.mono ?_
  rintro e w1 ⟨u, rfl, ho, hb⟩
  obtain ⟨x, n, c, rfl, -, -, ho⟩ := ho.shapeN
  have ha := (Below.refl w1.heap.size w1).alloc (Nat.le_refl _) (.cells #[.slice x n c] 27)
  have HX1 := Lib.hid ((HX0.out.on hb).on ha)
  have HO1 := Lib.hid (ho.on ha)
  have hq := (Ret.Box.new w1 (.slice x n c) 27).cell
  have hz := HX1.out.cell
  have hf := HX1.out.frozen
  have HBF := Lib.hid ((HB0.out.trans (hb.mono HB0.out.size)).trans (ha.mono (Nat.le_trans HB0.out.size hb.size)))
  have HW := Lib.hid (HBF.out.grown (Ret.grownBy_set _ ⟨w.heap.size, 0, none⟩ (.slice x n c)) HBF.out.size (fun g hg => by cases hg; exact Nat.le_refl _))
  have HH := Lib.hid (holds_set (x := .slice x n c) HO1.out HX1.out (by simp))
  have HC := Lib.hid (Ret.set_same (v := .slice x n c) HX1.out.cell)
  clear ha ho hb
  go_wp2_with fail
  refine bodyPost_ret (Ret.results_c rfl _ _ w.heap.size [_] rfl Row.aggN (Ret.one HC.out)) rfl ?_
  exact ⟨_, rfl, HH.out, HW.out⟩

theorem zz_bulk : bulk (Row.pN { data := #[47, 122, 122] }) ≤ 10 := by
  unfold Row.pN; split
  · exact Nat.le_trans (Row.bulk_parts _) (by decide)
  · rw [bulk_nil]; omega
theorem cat {B : Nat} {w w' : World} {v v' u : Value} {L M : List Row.Ent} (h : Row.TabO B w v L) (g : Row.TabO B w u M) (hap : ∀ x ∈ L, ∀ y ∈ M, Row.Apart x.v y.v) (ho : OwnK 44 Row.encE 2 B w' v' (L ++ M)) (hg : w.grownBy w' v.ownBlock) : Row.TabO B w' v' (L ++ M) := by
  refine ⟨ho, fun y hy => ?_, ?_⟩
  · rcases List.mem_append.1 hy with hy | hy
    · exact h.names hg y hy
    · exact (g.2.1 y hy).grown hg (Row.apart_or (Row.name_row (g.2.1 y hy) h.1))
  · rw [List.pairwise_append]
    exact ⟨h.2.2, g.2.2, hap⟩
/-- Behind an append to a table of the draw's own. -/
theorem app_after {w0 : World} {p : Nat} {v : Value} {l : List UInt8} {w W W' : World} {x : Value} {L : List Row.Ent} (h0 : w0.heap.size ≤ w.heap.size) (hp : p < w.heap.size) (hO : Row.TabO w.heap.size W x L) (hc : Cur w0 p v l W) (hk : Keep p w W) (hg : W.grownBy W' x.ownBlock) : Cur w0 p v l W' ∧ Keep p w W' :=
  ⟨hc.grown hg (fun g e => by have := (hO.lt.1 g e).1; exact ⟨by omega, by omega⟩), hk.grown hg (fun g e => (hO.lt.1 g e).1)⟩
theorem tab_fin {B K : Nat} {w : World} {x : Value} {L : List Row.Ent} (h : Row.TabO B w x L) (hl : L.length ≤ K) (hs : smD (Row.strip L)) : TabD B K x w := ⟨_, ⟨L, rfl, h⟩, by rw [Row.strip_length]; exact hl, hs⟩

set_option maxHeartbeats 8000000 in
theorem l6Any (w0 : World) (p : Nat) (v : Value) (l : List UInt8) (w : World) (hc : Cur w0 p v l w) :
    Calls Try.prog 44 #[.pointer (some ⟨p, 0, none⟩)] w (DrawnW w0 p v l w (TabD w.heap.size 40)) := by
  have hpl := hc.lt
  have h0w := hc.below.size
  have HD := Lib.hid (l6Draw w0 p v l w hc)
  clear hc
  go_enter Try.func44, Try.ntmps44
  go_wp2_with fail
  refine HD.out.mono ?_
  rintro e w1 ⟨y, rfl, ⟨T, ⟨L, hLT, ho⟩, hT, hs⟩, hc1, hk1⟩
  obtain ⟨x, n, c, rfl, hn, -, ho⟩ := ho.shapeN
  rw [← hLT, Row.strip_length, ← hn] at hT
  rw [← hLT] at hs
  have HB := Lib.hid (below w0 p v l w1 10 hc1)
  have HN := Lib.hid hn
  have HS := Lib.hid hs
  have HO1 := Lib.hid ho
  have HK1 := Lib.hid hk1
  clear hLT hn hs ho hc1 hk1 HD
  go_wp2_with fail
  refine HB.out.mono ?_
  rintro e w2 ⟨y, rfl, ⟨r, rfl, hr, _⟩, hc2, hk2⟩
  have hr := hr (by omega)
  obtain ⟨r, rfl⟩ := Int.eq_ofNat_of_zero_le hr.1
  have HC2 := Lib.hid hc2
  have HO2 := Lib.hid (tabo_keep HO1.out hk2 hpl)
  have HK2 := Lib.hid (HK1.out.trans hk2)
  clear hc2 hk2 HB HO1 HK1
  by_cases h0 : r = 0
  · subst h0
    have HA := Lib.hid (l4Any w0 p v l w2 HC2.out)
    have hp2 := HC2.out.lt
    go_wp2_with fail
    refine HA.out.mono ?_
    rintro e w3 ⟨y, rfl, ⟨u, m, rfl, hou, hm⟩, hc3, hk3⟩
    obtain ⟨xu, nu, cu, rfl, -, -, hou⟩ := hou.shapeN
    have hal := (Below.refl w3.heap.size w3).alloc (Nat.le_refl _) (.cells #[.slice xu nu cu, .int .i64 0] 44)
    have ho3 := tabo_keep HO2.out hk3 hpl
    have HAP := Lib.hid (show ∀ y ∈ L, Row.Apart y.v (Row.Ent.v ⟨xu, nu, cu, m, 0⟩) from HO2.out.fresh (fun g hg => (hou.lt g hg).1))
    have HUA := Lib.hid (show Row.Own 9 Value.string w.heap.size (w3.alloc (.cells #[.slice xu nu cu, .int .i64 0] 44)) (Row.Ent.v ⟨xu, nu, cu, m, 0⟩) m from (hou.mono HK2.out.size).on hal)
    have HOA := Lib.hid (ho3.on hal)
    have HCA := Lib.hid (hc3.on hal)
    have HKA := Lib.hid ((HK2.out.trans hk3).trans (Keep.of_below (p := p) hal))
    have HLM := Lib.hid (show (L.length + 1) * 32 ≤ 140737488355328 by rw [← HN.out]; omega)
    have HLX := Lib.hid (show L.length + 1 ≤ maxLen by rw [← HN.out]; unfold maxLen; omega)
    clear hou hal ho3 hc3 hk3 HA
    go_wp2_with (at_builtin; refine Row.wpList_appK Row.kindE (B := w.heap.size) (l := L) (m := [⟨xu, nu, cu, m, 0⟩]) rfl _ _ rfl Try.underlying24 rfl rfl HOA.out.1 (Row.holdsK_one Row.szE 44 w3 ⟨xu, nu, cu, m, 0⟩) HLM.out HLX.out HKA.out.size ?_)
    intro v4 w4 ho4 hg4
    obtain ⟨x4, n4, c4, rfl, -, -, ho4⟩ := ho4.shapeN
    have HP := Lib.hid (HOA.out.push (x := ⟨xu, nu, cu, m, 0⟩) HUA.out HAP.out ho4 hg4)
    have HQ := Lib.hid (app_after h0w hpl HOA.out HCA.out HKA.out hg4)
    have HF := Lib.hid (tab_fin HP.out (K := 40) (by rw [List.length_append, ← HN.out, List.length_singleton]; omega) (by rw [Row.strip_append]; exact smD_append HS.out (smD_one hm)))
    clear ho4 hg4
    go_wp2_with fail
    go_ret
    exact ⟨_, rfl, HF.out, HQ.out.1, HQ.out.2⟩
  · have h0b : ((r : Int) == 0) = false := by simpa using h0
    by_cases h1 : r = 1
    · subst h1
      have HA := Lib.hid (Row.l6Copy _ (Row.strip L) w2 ⟨L, rfl, HO2.out.holds⟩ (by rw [Row.strip_length, ← HN.out]; omega) HS.out.smT)
      clear h0 h0b
      go_wp2_with fail
      refine HA.out.mono ?_
      rintro e w3 ⟨v3, rfl, ⟨M, hM, ho3⟩, hb3⟩
      obtain ⟨x3, n3, c3, rfl, hn3, -, ho3⟩ := ho3.shapeN
      have hml : M.length = L.length := by rw [← Row.strip_length M, hM, Row.strip_length]
      have HML := Lib.hid hml
      have HM := Lib.hid hM
      have HAP := Lib.hid (show ∀ x ∈ L, ∀ y ∈ M, Row.Apart x.v y.v from fun x hx y hy g e1 e2 => by have := (HO2.out.lt.2 x hx g e1).2; have := (ho3.lt.2 y hy g e2).1; omega)
      have HO3 := Lib.hid (HO2.out.on hb3)
      have HM3 := Lib.hid (ho3.mono HK2.out.size)
      have HC3 := Lib.hid (HC2.out.on hb3)
      have HK3 := Lib.hid (HK2.out.trans (Keep.of_below (p := p) hb3))
      have HLM := Lib.hid (show (L.length + M.length) * 32 ≤ 140737488355328 by rw [HML.out, ← HN.out]; omega)
      have HLX := Lib.hid (show L.length + M.length ≤ maxLen by rw [HML.out, ← HN.out]; unfold maxLen; omega)
      clear ho3 hb3 hM hml hn3 HA
      go_wp2_with (at_builtin; refine Row.wpList_appK Row.kindE (B := w.heap.size) (l := L) (m := M) rfl _ _ rfl Try.underlying24 rfl rfl HO3.out.1 HM3.out.1.holds HLM.out HLX.out HK3.out.size ?_)
      intro v4 w4 ho4 hg4
      obtain ⟨x4, n4, c4, rfl, -, -, ho4⟩ := ho4.shapeN
      have HP := Lib.hid (cat HO3.out HM3.out HAP.out ho4 hg4)
      have HQ := Lib.hid (app_after h0w hpl HO3.out HC3.out HK3.out hg4)
      have HF := Lib.hid (tab_fin HP.out (K := 40) (by rw [List.length_append, HML.out, ← HN.out]; omega) (by rw [Row.strip_append, HM.out]; exact smD_append HS.out HS.out))
      clear ho4 hg4
      go_wp2_with fail
      go_ret
      exact ⟨_, rfl, HF.out, HQ.out.1, HQ.out.2⟩
    · have h1b : ((r : Int) == 1) = false := beq_eq_false_iff_ne.2 (by omega)
      by_cases h2 : r = 2
      · subst h2
        clear h0 h0b h1 h1b
        go_wp2_with fail
        go_loopw [3, 4] (fun tv iv wr => ∃ (i n c : Nat) (x : Option Addr) (L : List Row.Ent), tv = .slice x n c ∧ iv = .int .i64 i ∧ i ≤ n ∧ n ≤ 22 ∧ Hid (n = L.length) ∧ Hid (smD (Row.strip L)) ∧ Hid (Row.TabO w.heap.size wr (.slice x n c) L) ∧ Hid (Cur w0 p v l wr) ∧ Hid (Keep p w wr)) (fun _ iv _ => 30 - (intOf iv).toNat)
        case atStart => exact ⟨0, n, c, x, L, rfl, rfl, by omega, by omega, HN, HS, HO2, HC2, HK2⟩
        case round =>
          obtain ⟨i, n, c, x, L, rfl, rfl, hin, hn22, HN, HS, HO, HC, HK⟩ := hrel
          have HB := Lib.hid (below w0 p v l wr 3 HC.out)
          go_wp2_with fail
          refine HB.out.mono ?_
          rintro e w3 ⟨y, rfl, ⟨q, rfl, hq, _⟩, hc3, hk3⟩
          have hq := hq (by omega)
          obtain ⟨q, rfl⟩ := Int.eq_ofNat_of_zero_le hq.1
          have hq3 : q < 3 := by omega
          have HC3 := Lib.hid hc3
          have HO3 := Lib.hid (tabo_keep HO.out hk3 hpl)
          have HK3 := Lib.hid (HK.out.trans hk3)
          clear hq hc3 hk3 HB
          by_cases hlt : n < 19 + q
          · have HF := Lib.hid (l4Of ({ data := #[47, 122, 122] } : ByteArray) w3 (by decide))
            go_wp2_with fail
            refine HF.out.mono ?_
            rintro e w4 ⟨u4, rfl, hh4, hb4⟩
            obtain ⟨x4, n4, c4, rfl, -, -, hh4⟩ := hh4.shapeN
            have HI := Lib.hid (Text.specFormat (100 + (i : Int)) w4 (wf_of (by omega) (by omega)))
            have HH4 := Lib.hid hh4
            have HC4 := Lib.hid (HC3.out.on hb4)
            have HO4 := Lib.hid (HO3.out.on hb4)
            have HK4 := Lib.hid (HK3.out.trans (Keep.of_below (p := p) hb4))
            clear hh4 hb4 HF
            go_wp2_with fail
            refine HI.out.mono ?_
            rintro e w5 ⟨rfl, hb5⟩
            have hsz := Text.itoa_size (100 + (i : Int)) (wf_of (by omega) (by omega))
            obtain ⟨s5, hs5⟩ : ∃ s5, s5 = Text.str (Lib.itoa (100 + (i : Int))) := ⟨_, rfl⟩
            rw [← hs5] at hsz ⊢
            have HH5 := Lib.hid (HH4.out.on hb5)
            have HC5 := Lib.hid (HC4.out.on hb5)
            have HO5 := Lib.hid (HO4.out.on hb5)
            have HK5 := Lib.hid (HK4.out.trans (Keep.of_below (p := p) hb5))
            clear hb5 HI hs5
            go_wp2_with fail
            have hs6 : (({ data := #[112] } : ByteArray) ++ s5).size ≤ 30 := by
              rw [ByteArray.size_append, show ({ data := #[112] } : ByteArray).size = 1 from rfl]; omega
            obtain ⟨s6, he6⟩ : ∃ s6, s6 = ({ data := #[112] } : ByteArray) ++ s5 := ⟨_, rfl⟩
            rw [← he6] at hs6 ⊢
            clear he6 hsz
            have hpn := zz_bulk
            refine (Row.specAppendPart _ (Row.pN { data := #[47, 122, 122] }) s6 w5 HH5.out (by omega) (by omega)).mono ?_
            rintro e w6 ⟨v6, rfl, ho6, hb6⟩
            have hmb := bulk_appN (Row.pN { data := #[47, 122, 122] }) s6
            obtain ⟨m, hm⟩ : ∃ m, m = Row.appN (Row.pN { data := #[47, 122, 122] }) s6 := ⟨_, rfl⟩
            rw [← hm] at ho6 hmb
            have hm2 : bulk m ≤ 1000 := by omega
            obtain ⟨xu, nu, cu, rfl, -, -, hou⟩ := ho6.shapeN
            have HO6 := Lib.hid (HO5.out.on hb6)
            have HC6 := Lib.hid (HC5.out.on hb6)
            have HK6 := Lib.hid (HK5.out.trans (Keep.of_below (p := p) hb6))
            have HAP := Lib.hid (show ∀ y ∈ L, Row.Apart y.v (Row.Ent.v ⟨xu, nu, cu, m, 0⟩) from HO5.out.fresh (fun g hg => (hou.lt g hg).1))
            have hal1 := (Below.refl w6.heap.size w6).alloc (Nat.le_refl _) (.cells #[.slice xu nu cu] 27)
            have hal2 := (Below.refl _ _).alloc (Nat.le_refl _) (.cells #[.slice xu nu cu, .int .i64 0] 44) (w := w6.alloc (.cells #[.slice xu nu cu] 27))
            have HUA := Lib.hid (show Row.Own 9 Value.string w.heap.size ((w6.alloc (.cells #[.slice xu nu cu] 27)).alloc (.cells #[.slice xu nu cu, .int .i64 0] 44)) (Row.Ent.v ⟨xu, nu, cu, m, 0⟩) m from ((hou.mono HK5.out.size).on hal1).on hal2)
            have HOA := Lib.hid ((HO6.out.on hal1).on hal2)
            have HCA := Lib.hid ((HC6.out.on hal1).on hal2)
            have HKA := Lib.hid ((HK6.out.trans (Keep.of_below (p := p) hal1)).trans (Keep.of_below (p := p) hal2))
            have HLM := Lib.hid (show (L.length + 1) * 32 ≤ 140737488355328 by rw [← HN.out]; omega)
            have HLX := Lib.hid (show L.length + 1 ≤ maxLen by rw [← HN.out]; unfold maxLen; omega)
            have hq6 := (Ret.Box.new w6 (.slice xu nu cu) 27).cell
            have hsrc := Row.holdsK_one Row.szE 44 (w6.alloc (.cells #[.slice xu nu cu] 27)) ⟨xu, nu, cu, m, 0⟩
            rw [World.size_alloc] at hsrc
            have HSRC := Lib.hid hsrc
            clear hsrc hou hal1 hal2 ho6 hb6 hm hmb hpn
            go_wp2_with (at_builtin; refine Row.wpList_appK Row.kindE (B := w.heap.size) (l := L) (m := [⟨xu, nu, cu, m, 0⟩]) rfl _ _ rfl Try.underlying24 rfl rfl HOA.out.1 HSRC.out HLM.out HLX.out HKA.out.size ?_)
            intro v7 w7 ho7 hg7
            obtain ⟨x7, n7, c7, rfl, hn7, -, ho7⟩ := ho7.shapeN
            have hn7' : n7 = n + 1 := by rw [hn7, List.length_append, ← HN.out]; rfl
            have HN7 := Lib.hid hn7
            have HNE := Lib.hid hn7'
            have HP := Lib.hid (HOA.out.push (x := ⟨xu, nu, cu, m, 0⟩) HUA.out HAP.out ho7 hg7)
            have HQ := Lib.hid (app_after h0w hpl HOA.out HCA.out HKA.out hg7)
            have HS7 := Lib.hid (show smD (Row.strip (L ++ [⟨xu, nu, cu, m, 0⟩])) by rw [Row.strip_append]; exact smD_append HS.out (smD_one hm2))
            clear ho7 hg7 hq6 hn7 hn7'
            go_wp2_with fail
            go_roundw
            case rel => exact ⟨i + 1, n7, c7, x7, _, rfl, by go_num, by rw [HNE.out]; omega, by rw [HNE.out]; omega, HN7, HS7, HP, Lib.hid HQ.out.1, Lib.hid HQ.out.2⟩
            case measure => simp [intOf]; omega
          · have HF := Lib.hid (tab_fin HO3.out (K := 40) (by rw [← HN.out]; omega) HS.out)
            go_wp2_with fail
            go_ret
            exact ⟨_, rfl, HF.out, HC3.out, HK3.out⟩
      · have h2b : ((r : Int) == 2) = false := beq_eq_false_iff_ne.2 (by omega)
        have HF := Lib.hid (tab_fin HO2.out (K := 40) (by rw [← HN.out]; omega) HS.out)
        clear h0 h1 h2
        go_wp2_with fail
        go_ret
        exact ⟨_, rfl, HF.out, HC2.out, HK2.out⟩
end Go.Proofs.Ytihcebjbkifbpaa.Draw
