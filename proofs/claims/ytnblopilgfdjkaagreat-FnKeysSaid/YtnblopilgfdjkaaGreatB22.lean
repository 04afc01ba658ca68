/- Contracts and mathematics, joined: DrawR1, KeyTop. No conditions but those that each states. -/
import Derived.Test.YtnblopilgfdjkaaGreatB21
import Derived.Test.YtnblopilgfdjkaaGreatB11
import Derived.Test.YtnblopilgfdjkaaGreatB14
import Derived.Test.YtnblopilgfdjkaaGreatB20
import Derived.Test.YtnblopilgfdjkaaGreatB15
/- Contracts of the reference model's draws of lists of keys (l9Ring, l9Any), over the cursor of Draw. What was in memory stays as it was, but for the cursor. -/
namespace Go.Proofs.YtnblopilgfdjkaaGreat.Draw
open Go.ChangeShapes Go.WideShapes Go.ChangeAt Go.RowKit Go.Instr
open Go.Proofs.YtnblopilgfdjkaaGreat.Row (bulk bulk_append bulk_one bulk_nil bulk_cons OwnK HB)
open Go.Proofs.YtnblopilgfdjkaaGreat.Row.Ring (Ent encE szE kindE strip strip_append strip_length TabH TabO TabOwn TabHolds addK smT)
open Go.Proofs.YtnblopilgfdjkaaGreat.Ret (NC Blk Box)
set_option linter.unusedVariables false
set_option maxRecDepth 100000

/-- Names are short, numbers fit. -/
def smS (T : List (List ByteArray × Int)) : Prop := ∀ t ∈ T, bulk t.1 ≤ 1000 ∧ (Lit.int .i64 t.2).wf = true
theorem smS.smT {T : List (List ByteArray × Int)} (h : smS T) : smT T := fun t ht => Nat.le_trans (h t ht).1 (by decide)
theorem smS.wf {T : List (List ByteArray × Int)} (h : smS T) : ∀ t ∈ T, (Lit.int .i64 t.2).wf = true := fun t ht => (h t ht).2
theorem smS_append {T U : List (List ByteArray × Int)} (h : smS T) (g : smS U) : smS (T ++ U) := fun t ht => (List.mem_append.1 ht).elim (h t) (g t)
theorem smS_one {n : List ByteArray} {a : Int} (h : bulk n ≤ 1000) (hw : (Lit.int .i64 a).wf = true) : smS [(n, a)] := fun t ht => by rw [List.mem_singleton.1 ht]; exact ⟨h, hw⟩
theorem smS_addK {T : List (List ByteArray × Int)} {n : List ByteArray} {a : Int} (h : smS T) (hn : bulk n ≤ 1000) (hw : (Lit.int .i64 a).wf = true) : smS (addK T (n, a)) := by
  unfold addK
  split
  · exact smS_append h (smS_one hn hw)
  · exact h
theorem addK_length (T : List (List ByteArray × Int)) (x : List ByteArray × Int) : T.length ≤ (addK T x).length ∧ (addK T x).length ≤ T.length + 1 := by
  unfold addK
  split
  · simp
  · omega
/-- A row of keys of the draw's own; their names lie in blocks of texts (two keys may share one). -/
def RO (B : Nat) (w : World) (v : Value) (L : List Ent) : Prop := OwnK 37 encE 2 B w v L ∧ ∀ x ∈ L, HB B w x.v x.ps
theorem ownk_keep {α : Type} {enc : α → List Value} {sz : Nat} {e : TypeId} {B p : Nat} {w w' : World} {x : Value} {m : List α} (h : OwnK e enc sz B w x m) (hk : Keep p w w') (hp : p < B) : OwnK e enc sz B w' x m := by
  refine ⟨h.1, ?_⟩
  rcases h.2 with h2 | ⟨g, cap, cur, hv, hB, hc, r⟩
  · exact Or.inl h2
  · exact Or.inr ⟨g, cap, cur, hv, hB, by rw [hk.block g (Array.getElem?_eq_some_iff.1 hc).1 (by omega)]; exact hc, r⟩
theorem hb_keep {B p : Nat} {w w' : World} {v : Value} {l : List ByteArray} (h : HB B w v l) (hk : Keep p w w') (hp : p < B) : HB B w' v l := h.same fun g hg ht => hk.block g ht.lt (by omega)
section
variable {B : Nat} {w w' : World} {v : Value} {L : List Ent}
theorem RO.of (h : TabO B w v L) : RO B w v L := ⟨h.1, fun x hx => HB.of (h.2.1 x hx)⟩
theorem RO.mono (h : RO B w v L) {B' : Nat} (hB : B' ≤ B) : RO B' w v L := ⟨h.1.mono hB, fun x hx => (h.2 x hx).mono hB⟩
theorem RO.on (h : RO B w v L) (hb : Below w.heap.size w w') : RO B w' v L := ⟨h.1.on hb, fun x hx => (h.2 x hx).on hb⟩
theorem RO.keep (h : RO B w v L) {p : Nat} (hk : Keep p w w') (hp : p < B) : RO B w' v L := ⟨ownk_keep h.1 hk hp, fun x hx => hb_keep (h.2 x hx) hk hp⟩
theorem RO.tab (h : RO B w v L) : TabH w v L := ⟨h.1.holds, fun x hx => (h.2 x hx).holds⟩
theorem RO.shapeN (h : RO B w v L) : ∃ x n cap, v = .slice x n cap ∧ n = L.length ∧ n ≤ cap ∧ RO B w (.slice x n cap) L := by
  obtain ⟨x, n, cap, rfl, hn, hc, ho⟩ := h.1.shapeN
  exact ⟨x, n, cap, rfl, hn, hc, ho, h.2⟩
theorem RO.push (h : RO B w v L) {x : Ent} (hx : HB B w x.v x.ps) {v' : Value} (ho : OwnK 37 encE 2 B w' v' (L ++ [x])) (hg : w.grownBy w' v.ownBlock) : RO B w' v' (L ++ [x]) := by
  refine ⟨ho, fun y hy => ?_⟩
  rcases List.mem_append.1 hy with hy | hy
  · exact (h.2 y hy).grownK h.1 (by decide) hg
  · rw [List.mem_singleton.1 hy]; exact hx.grownK h.1 (by decide) hg
end
def KeyD (B K : Nat) (x : Value) (w : World) : Prop := ∃ L, RO B w x L ∧ 2 ≤ L.length ∧ L.length ≤ K ∧ smS (strip L)
/-- Behind an append to, or a store into, a row of the draw's own. -/
theorem ro_after {w0 : World} {p : Nat} {v : Value} {l : List UInt8} {w W W' : World} {x : Value} {L : List Ent} (h0 : w0.heap.size ≤ w.heap.size) (hp : p < w.heap.size) (hO : RO w.heap.size W x L) (hc : Cur w0 p v l W) (hk : Keep p w W) (hg : W.grownBy W' x.ownBlock) : Cur w0 p v l W' ∧ Keep p w W' :=
  ⟨hc.grown hg (fun g e => by have := (hO.1.lt g e).1; exact ⟨by omega, by omega⟩), hk.grown hg (fun g e => (hO.1.lt g e).1)⟩
theorem bulk_pN (s : ByteArray) : bulk (Row.pN s) ≤ 1000 := Nat.le_trans (Row.bulk_valid (Row.valid_pN s)) (by decide)

set_option maxHeartbeats 8000000 in
theorem l9Ring (w0 : World) (p : Nat) (v : Value) (l : List UInt8) (w : World) (hc : Cur w0 p v l w) :
    Calls Tryz.prog 58 #[.pointer (some ⟨p, 0, none⟩)] w (DrawnW w0 p v l w (KeyD w.heap.size 5)) := by
  have hpl := hc.lt
  have HC0 := Lib.hid hc
  have HF := Lib.hid (Row.l4OfB ({ data := #[47, 107, 101, 121, 47, 97] } : ByteArray) w (by decide))
  clear hc
  go_enter Tryz.func58, Tryz.ntmps58
  go_wp2_with fail
  refine HF.out.mono ?_
  rintro e w1 ⟨u1, rfl, hu1, hb1⟩
  obtain ⟨x1, n1, c1, rfl, -, hu1⟩ := hu1.shapeN
  have HF2 := Lib.hid (Row.l4OfB ({ data := #[47, 107, 101, 121, 47, 98] } : ByteArray) w1 (by decide))
  have HU1 := Lib.hid hu1; have HC1 := Lib.hid (HC0.out.on hb1); have HK1 := Lib.hid (Keep.of_below (p := p) hb1); have HB1 := Lib.hid hb1
  clear hu1 hb1 HF
  go_wp2_with fail
  refine HF2.out.mono ?_
  rintro e w2 ⟨u2, rfl, hu2, hb2⟩
  obtain ⟨x2, n2, c2, rfl, -, hu2⟩ := hu2.shapeN
  have hal := (Below.refl w2.heap.size w2).alloc (Nat.le_refl _) (.cells #[.slice x1 n1 c1, .int .i64 100, .slice x2 n2 c2, .int .i64 101] 37)
  have hsz2 : w.heap.size ≤ w2.heap.size := Nat.le_trans HB1.out.size hb2.size
  have HR := Lib.hid (show RO w.heap.size (w2.alloc (.cells #[.slice x1 n1 c1, .int .i64 100, .slice x2 n2 c2, .int .i64 101] 37)) (.slice (some ⟨w2.heap.size, 0, none⟩) 2 2) [(⟨x1, n1, c1, Row.pN { data := #[47, 107, 101, 121, 47, 97] }, 100⟩ : Ent), ⟨x2, n2, c2, Row.pN { data := #[47, 107, 101, 121, 47, 98] }, 101⟩] from by
    refine ⟨World.ownsRow_lit w2 #[.slice x1 n1 c1, .int .i64 100, .slice x2 n2 c2, .int .i64 101] 2 hsz2 (by unfold maxLen; omega) rfl, fun x hx => ?_⟩
    rcases List.mem_cons.1 hx with rfl | hx
    · exact (HU1.out.on hb2).on hal
    · rw [List.mem_singleton.1 hx]; exact (hu2.mono HB1.out.size).on hal)
  have HC2 := Lib.hid ((HC1.out.on hb2).on hal)
  have HK2 := Lib.hid ((HK1.out.trans (Keep.of_below (p := p) hb2)).trans (Keep.of_below (p := p) hal))
  have HS := Lib.hid (show smS (strip [(⟨x1, n1, c1, Row.pN { data := #[47, 107, 101, 121, 47, 97] }, 100⟩ : Ent), ⟨x2, n2, c2, Row.pN { data := #[47, 107, 101, 121, 47, 98] }, 101⟩]) from by
    show smS [(Row.pN { data := #[47, 107, 101, 121, 47, 97] }, 100), (Row.pN { data := #[47, 107, 101, 121, 47, 98] }, 101)]
    exact smS_append (T := [(Row.pN { data := #[47, 107, 101, 121, 47, 97] }, 100)]) (U := [(Row.pN { data := #[47, 107, 101, 121, 47, 98] }, 101)]) (smS_one (bulk_pN _) (by decide)) (smS_one (bulk_pN _) (by decide)))
  clear hu2 hb2 hal HF2 HU1 HB1
  go_upto_region 2 with fail
  generalize w2.alloc (.cells #[.slice x1 n1 c1, .int .i64 100, .slice x2 n2 c2, .int .i64 101] 37) = W at *
  generalize w2.heap.size = g at *
  have HD := Lib.hid (below w0 p v l _ 4 HC2.out)
  go_wp2_with fail
  refine HD.out.mono ?_
  rintro e w3 ⟨y, rfl, ⟨r, rfl, hr, _⟩, hc3, hk3⟩
  have hr := hr (by omega)
  obtain ⟨r, rfl⟩ := Int.eq_ofNat_of_zero_le hr.1
  have hr3 : r ≤ 3 := by omega
  have HC3 := Lib.hid hc3
  have HK3 := Lib.hid (HK2.out.trans hk3)
  have HR3 := Lib.hid (HR.out.keep hk3 hpl)
  clear hr hc3 hk3 HD HR HC2 HK2
  go_wp2_with fail
  go_loopw [3, 4] (fun tv iv wr => ∃ (k j : Nat) (L : List Ent), k + j ≤ 3 ∧ iv = .int .i64 k ∧ 2 ≤ L.length ∧ L.length ≤ 2 + j ∧ Hid (smS (strip L)) ∧ Hid (RO w.heap.size wr tv L) ∧ Hid (Cur w0 p v l wr) ∧ Hid (Keep p w wr)) (fun _ iv _ => (intOf iv).toNat)
  case atStart => exact ⟨r, 0, _, by omega, rfl, by simp, by simp, HS, HR3, HC3, HK3⟩
  case round =>
    obtain ⟨k, j, L, hkj, rfl, h2L, hLj, hs, hO, hC, hK⟩ := hrel
    obtain ⟨x, n, c, rfl, -, -, ho⟩ := hO.out.shapeN
    have HO := Lib.hid ho
    clear ho hO
    by_cases hk0 : 0 < k
    · have hpr := hC.out.lt
      have HST := Lib.hid (strLit2 w0 p v l wr hC.out [{ data := #[47, 97, 47, 107, 101, 121] }, { data := #[47, 98, 47, 107, 101, 121] }, { data := #[47, 110, 101, 119, 115, 47, 107, 101, 121] }, { data := #[47, 107, 101, 121, 47, 99] }] _ rfl 4 rfl (by decide) (by decide) 20 (by decide))
      go_wp2_with fail
      refine HST.out.mono ?_
      rintro e w4 ⟨y, rfl, ⟨t, rfl, ht⟩, hc4, hk4⟩
      have HC4 := Lib.hid hc4; have HK4 := Lib.hid (hK.out.trans hk4); have HO4 := Lib.hid (HO.out.keep hk4 hpl)
      have HF := Lib.hid (Row.l4OfB t w4 (by omega))
      clear hc4 hk4 HST
      go_wp2_with fail
      refine HF.out.mono ?_
      rintro e w5 ⟨u5, rfl, hu5, hb5⟩
      obtain ⟨x5, n5, c5, rfl, -, hu5⟩ := hu5.shapeN
      have HC5 := Lib.hid (HC4.out.on hb5); have HK5 := Lib.hid (HK4.out.trans (Keep.of_below (p := p) hb5)); have HO5 := Lib.hid (HO4.out.on hb5)
      have HU5 := Lib.hid (hu5.mono HK4.out.size)
      have HD := Lib.hid (below w0 p v l w5 8 HC5.out)
      clear hu5 hb5 HF
      go_wp2_with fail
      refine HD.out.mono ?_
      rintro e w6 ⟨y, rfl, ⟨q, rfl, hq, _⟩, hc6, hk6⟩
      have hq := hq (by omega)
      have HO6 := Lib.hid (HO5.out.keep hk6 hpl); have HU6 := Lib.hid (hb_keep HU5.out hk6 hpl); have HC6 := Lib.hid hc6; have HK6 := Lib.hid (HK5.out.trans hk6)
      have HA := Lib.hid (Row.Ring.specAddKey (.slice x n c) (.slice x5 n5 c5) (strip L) (Row.pN t) (100 + q) w6 ⟨L, rfl, HO6.out.tab⟩ HU6.out.holds (by rw [strip_length]; omega) hs.out.smT (Nat.le_trans (bulk_pN t) (by decide)))
      have HWQ := Lib.hid (wf_of (n := 100 + q) (by omega) (by omega))
      clear hc6 hk6 HD
      go_wp2_with fail
      refine HA.out.mono ?_
      rintro e w7 ⟨v7, rfl, ⟨L7, hL7, ho7⟩, hb7⟩
      have hl7 := addK_length (strip L) (Row.pN t, 100 + q)
      rw [← hL7, strip_length, strip_length] at hl7
      have HS7 := Lib.hid (show smS (strip L7) by rw [hL7]; exact smS_addK hs.out (bulk_pN t) HWQ.out)
      have HO7 := Lib.hid ((RO.of ho7).mono HK6.out.size)
      have HC7 := Lib.hid (HC6.out.on hb7); have HK7 := Lib.hid (HK6.out.trans (Keep.of_below (p := p) hb7))
      clear ho7 hb7 hL7 HA
      go_wp2_with fail
      go_roundw
      case rel => exact ⟨k - 1, j + 1, L7, by omega, by go_num, by omega, by omega, HS7, HO7, HC7, HK7⟩
      case measure => simp [intOf]; omega
    · obtain rfl : k = 0 := by omega
      clear hk0
      go_wp2_with fail
      go_ret
      exact ⟨_, rfl, ⟨L, HO.out, h2L, by omega, hs.out⟩, hC.out, hK.out⟩

set_option maxHeartbeats 8000000 in
theorem l9Any (w0 : World) (p : Nat) (v : Value) (l : List UInt8) (w : World) (hc : Cur w0 p v l w) :
    Calls Tryz.prog 29 #[.pointer (some ⟨p, 0, none⟩)] w (DrawnW w0 p v l w (KeyD w.heap.size 6)) := by
  have hpl := hc.lt
  have h0w := hc.below.size
  have HD := Lib.hid (l9Ring w0 p v l w hc)
  clear hc
  go_enter Tryz.func29, Tryz.ntmps29
  go_wp2_with fail
  refine HD.out.mono ?_
  rintro e w1 ⟨y, rfl, ⟨L, ho, h2L, hL5, hs⟩, hc1, hk1⟩
  obtain ⟨x, n, c, rfl, hn, -, ho⟩ := ho.shapeN
  have HB := Lib.hid (below w0 p v l w1 8 hc1)
  have HN := Lib.hid hn
  have HS := Lib.hid hs
  have HO1 := Lib.hid ho
  have HK1 := Lib.hid hk1
  clear hn hs ho hc1 hk1 HD
  go_wp2_with fail
  refine HB.out.mono ?_
  rintro e w2 ⟨y, rfl, ⟨r, rfl, hr, _⟩, hc2, hk2⟩
  have hr := hr (by omega)
  obtain ⟨r, rfl⟩ := Int.eq_ofNat_of_zero_le hr.1
  have HC2 := Lib.hid hc2
  have HO2 := Lib.hid (HO1.out.keep hk2 hpl)
  have HK2 := Lib.hid (HK1.out.trans hk2)
  clear hc2 hk2 HB HO1 HK1
  have HLM := Lib.hid (show (L.length + 1) * 32 ≤ 140737488355328 by omega)
  have HLX := Lib.hid (show L.length + 1 ≤ maxLen by unfold maxLen; omega)
  by_cases h0 : r = 0
  · subst h0
    have HA := Lib.hid (l4Any w0 p v l w2 HC2.out)
    go_wp2_with fail
    refine HA.out.mono ?_
    rintro e w3 ⟨y, rfl, ⟨u, m, rfl, hou, hm⟩, hc3, hk3⟩
    obtain ⟨xu, nu, cu, rfl, -, -, hou⟩ := hou.shapeN
    have HW := Lib.hid (word w0 p v l w3 hc3)
    have HO3 := Lib.hid (HO2.out.keep hk3 hpl)
    have HU3 := Lib.hid ((HB.of hou).mono HK2.out.size)
    have HK3 := Lib.hid (HK2.out.trans hk3)
    clear hou hc3 hk3 HA
    go_wp2_with fail
    refine HW.out.mono ?_
    rintro e w4 ⟨y, rfl, ⟨a, rfl, ha⟩, hc4, hk4⟩
    have hal := (Below.refl w4.heap.size w4).alloc (Nat.le_refl _) (.cells #[.slice xu nu cu, .int .i64 a] 37)
    have HOA := Lib.hid ((HO3.out.keep hk4 hpl).on hal)
    have HUA := Lib.hid (show HB w.heap.size (w4.alloc (.cells #[.slice xu nu cu, .int .i64 a] 37)) (Ent.v ⟨xu, nu, cu, m, a⟩) m from (hb_keep HU3.out hk4 hpl).on hal)
    have HCA := Lib.hid (hc4.on hal)
    have HKA := Lib.hid ((HK3.out.trans hk4).trans (Keep.of_below (p := p) hal))
    have HWA := Lib.hid ha
    clear hal hc4 hk4 HW ha
    go_wp2_with (at_builtin; refine Row.wpList_appK kindE (B := w.heap.size) (l := L) (m := [(⟨xu, nu, cu, m, a⟩ : Ent)]) rfl _ _ rfl Tryz.underlying24 rfl rfl HOA.out.1 (Row.holdsK_one szE 37 w4 (⟨xu, nu, cu, m, a⟩ : Ent)) HLM.out HLX.out HKA.out.size ?_)
    intro v5 w5 ho5 hg5
    obtain ⟨x5, n5, c5, rfl, -, -, ho5⟩ := ho5.shapeN
    have HP := Lib.hid (HOA.out.push (x := ⟨xu, nu, cu, m, a⟩) HUA.out ho5 hg5)
    have HQ := Lib.hid (ro_after h0w hpl HOA.out HCA.out HKA.out hg5)
    have HF := Lib.hid (show KeyD w.heap.size 6 (.slice x5 n5 c5) w5 from ⟨_, HP.out, by rw [List.length_append]; simp; omega, by rw [List.length_append]; simp; omega, by rw [strip_append]; exact smS_append HS.out (smS_one hm HWA.out)⟩)
    clear ho5 hg5
    go_wp2_with fail
    go_ret
    exact ⟨_, rfl, HF.out, HQ.out.1, HQ.out.2⟩
  · have h0b : ((r : Int) == 0) = false := by simpa using h0
    obtain ⟨b, off, rfl, q0, q1, hnm⟩ := HO2.out.tab.at (k := 0) (by omega)
    have hb0 : off = 0 := by
      rcases HO2.out.1.2 with ⟨h5, _⟩ | ⟨g5, cap5, cur5, h5, _⟩
      · cases h5
      · cases h5; rfl
    subst hb0
    have hfz := Row.ownK_cell szE HO2.out.1 (Row.HoldsK.lenEq HO2.out.1.holds) (j := 0) (i := 1) (by omega) (by decide)
    simp only [Nat.zero_mul, Nat.zero_add] at q0 q1 hfz
    have HNM := Lib.hid (HO2.out.2 _ (Row.nth_mem (L := L) (k := 0) (by omega)))
    have HFZ := Lib.hid hfz
    have HSM := Lib.hid (HS.out _ (Row.Ring.strip_mem (Row.nth_mem (L := L) (k := 0) (by omega))))
    clear hnm hfz
    by_cases h1 : r = 1
    · subst h1
      have hal := (Below.refl w2.heap.size w2).alloc (Nat.le_refl _) (.cells #[.slice (Row.nth L 0).ad (Row.nth L 0).n (Row.nth L 0).cap, .int .i64 (Row.nth L 0).val] 37)
      have HOA := Lib.hid (HO2.out.on hal)
      have HUA := Lib.hid (show HB w.heap.size (w2.alloc (.cells #[.slice (Row.nth L 0).ad (Row.nth L 0).n (Row.nth L 0).cap, .int .i64 (Row.nth L 0).val] 37)) (Ent.v ⟨(Row.nth L 0).ad, (Row.nth L 0).n, (Row.nth L 0).cap, (Row.nth L 0).ps, (Row.nth L 0).val⟩) (Row.nth L 0).ps from HNM.out.on hal)
      have HCA := Lib.hid (HC2.out.on hal)
      have HKA := Lib.hid (HK2.out.trans (Keep.of_below (p := p) hal))
      have hn0 : (0 : Int) < (n : Int) := by have := HN.out; omega
      clear hal h0 h0b
      go_wp2_with (at_builtin; refine Row.wpList_appK kindE (B := w.heap.size) (l := L) (m := [(⟨(Row.nth L 0).ad, (Row.nth L 0).n, (Row.nth L 0).cap, (Row.nth L 0).ps, (Row.nth L 0).val⟩ : Ent)]) rfl _ _ rfl Tryz.underlying24 rfl rfl HOA.out.1 (Row.holdsK_one szE 37 w2 (⟨(Row.nth L 0).ad, (Row.nth L 0).n, (Row.nth L 0).cap, (Row.nth L 0).ps, (Row.nth L 0).val⟩ : Ent)) HLM.out HLX.out HKA.out.size ?_)
      intro v5 w5 ho5 hg5
      obtain ⟨x5, n5, c5, rfl, -, -, ho5⟩ := ho5.shapeN
      have HP := Lib.hid (HOA.out.push (x := ⟨(Row.nth L 0).ad, (Row.nth L 0).n, (Row.nth L 0).cap, (Row.nth L 0).ps, (Row.nth L 0).val⟩) HUA.out ho5 hg5)
      have HQ := Lib.hid (ro_after h0w hpl HOA.out HCA.out HKA.out hg5)
      have HF := Lib.hid (show KeyD w.heap.size 6 (.slice x5 n5 c5) w5 from ⟨_, HP.out, by rw [List.length_append]; simp; omega, by rw [List.length_append]; simp; omega, by rw [strip_append]; exact smS_append HS.out (smS_one HSM.out.1 HSM.out.2)⟩)
      clear ho5 hg5 q0 q1
      go_wp2_with fail
      go_ret
      exact ⟨_, rfl, HF.out, HQ.out.1, HQ.out.2⟩
    · have h1b : ((r : Int) == 1) = false := beq_eq_false_iff_ne.2 (by omega)
      by_cases h2 : r = 2
      · subst h2
        have HI := Lib.hid (intLit2 w0 p v l w2 HC2.out [0, 101, 2147483647] _ rfl 3 rfl (by decide) (by decide) 0 2147483647 (by decide))
        have hn0 : (0 : Int) < (n : Int) := by have := HN.out; omega
        clear h0 h0b h1 h1b q0 q1
        go_wp2_with fail
        refine HI.out.mono ?_
        rintro e w3 ⟨y, rfl, ⟨a, rfl, ha0, ha1⟩, hc3, hk3⟩
        have HO3 := Lib.hid (HO2.out.keep hk3 hpl); have HC3 := Lib.hid hc3; have HK3 := Lib.hid (HK2.out.trans hk3)
        have hfz := Row.ownK_cell szE HO3.out.1 (Row.HoldsK.lenEq HO3.out.1.holds) (j := 0) (i := 1) (by omega) (by decide)
        simp only [Nat.zero_mul, Nat.zero_add] at hfz
        obtain ⟨q1, q2⟩ := hfz
        obtain ⟨p1, p2⟩ := Row.ownK_store szE HO3.out.1 (Row.HoldsK.lenEq HO3.out.1.holds) (j := 0) (by omega) (i := 1) (by decide) (y := (Row.nth L 0).setVal a) (u := .int .i64 a) rfl
        simp only [Nat.zero_mul, Nat.zero_add] at p1 p2
        have HP := Lib.hid (show RO w.heap.size (w3.setCell ⟨b, 1, none⟩ (.int .i64 a)) (.slice (some ⟨b, 0, none⟩) n c) (L.set 0 ((Row.nth L 0).setVal a)) from ⟨p1, fun y hy => by
          rcases List.mem_or_eq_of_mem_set hy with hy | hy
          · exact (HO3.out.2 y hy).grownK HO3.out.1 (by decide) p2
          · rw [hy]; exact (hb_keep HNM.out hk3 hpl).grownK HO3.out.1 (by decide) p2⟩)
        have HQ := Lib.hid (ro_after h0w hpl HO3.out HC3.out HK3.out p2)
        have HF := Lib.hid (show KeyD w.heap.size 6 (.slice (some ⟨b, 0, none⟩) n c) (w3.setCell ⟨b, 1, none⟩ (.int .i64 a)) from ⟨_, HP.out, by rw [List.length_set]; exact h2L, by rw [List.length_set]; omega, fun t ht => by
          obtain ⟨y, hy, rfl⟩ := List.mem_map.1 ht
          rcases List.mem_or_eq_of_mem_set hy with hy | hy
          · exact HS.out _ (Row.Ring.strip_mem hy)
          · rw [hy]; exact ⟨HSM.out.1, show (Lit.int .i64 a).wf = true from wf_of (by omega) (by omega)⟩⟩)
        clear hc3 hk3 p1 p2 HI
        go_wp2_with fail
        go_ret
        exact ⟨_, rfl, HF.out, HQ.out.1, HQ.out.2⟩
      · have h2b : ((r : Int) == 2) = false := beq_eq_false_iff_ne.2 (by omega)
        clear q0 q1
        go_wp2_with fail
        go_ret
        exact ⟨_, rfl, ⟨L, HO2.out, h2L, by omega, HS.out⟩, HC2.out, HK2.out⟩
end Go.Proofs.YtnblopilgfdjkaaGreat.Draw
/- What FnKeys uses besides the contracts: what a signed packet and an added key hold; contracts with letters. No conditions but that lengths fit. -/
namespace Go.Proofs.YtnblopilgfdjkaaGreat.Row.Ring
open Go.ChangeShapes Go.WideShapes Go.ChangeAt Go.RowKit Go.Instr
set_option linter.unusedVariables false
set_option maxRecDepth 100000

/-! ### mathematics -/
theorem lkN_snoc : ∀ (T : Kt) (x : K1), (∀ t ∈ T, t.1 ≠ x.1) → lkN (T ++ [x]) x.1 = x.2
  | [], x, _ => by rw [List.nil_append, lkN_cons, if_pos rfl]
  | t :: T, x, h => by
    rw [List.cons_append, lkN_cons, if_neg (h t (by simp))]
    exact lkN_snoc T x fun y hy => h y (by simp [hy])
theorem lkN_mem {T : Kt} {n : List ByteArray} (h : lkN T n ≠ 0) : ∃ k, k < T.length ∧ (nth T k).2 = lkN T n := by
  by_cases h2 : T.findIdx (isN n) < T.length
  · refine ⟨_, h2, ?_⟩
    unfold lkN
    rw [if_pos h2]
  · exact absurd (by unfold lkN; rw [if_neg h2]) h
theorem snoc_new {T : Kt} {x : K1} (h : validK (T ++ [x]) = true) : ∀ t ∈ T, t.1 ≠ x.1 := by
  have hn := (validK_iff.1 h).2.1
  intro t ht e
  rw [List.map_append] at hn
  have h3 := List.nodup_append.1 hn
  exact h3.2.2 t.1 (List.mem_map_of_mem ht) x.1 (by simp) e
theorem addK_yes {T : Kt} {x : K1} (h : validK (T ++ [x]) = true) : addK T x = T ++ [x] := by unfold addK; rw [if_pos h]
theorem may_lk {T : Kt} {x : K1} (h : validK (T ++ [x]) = true) : lkN (addK T x) x.1 = x.2 := by rw [addK_yes h]; exact lkN_snoc T x (snoc_new h)
theorem may_val {T : Kt} {x : K1} (h : validK (T ++ [x]) = true) : validK (addK T x) = true := by rw [addK_yes h]; exact h
theorem vkey_in {x : K1} (h : vkey x = true) : Num.inB x.2 1 2147483646 = true := by
  unfold vkey at h
  simp only [Bool.and_eq_true] at h
  exact h.2
section
variable {T : Kt} {key n : List ByteArray} {b : List Int} {u : Int}
theorem sgOk_parts (h : sgOk T key n b u = true) : lkN T key ≠ 0 ∧ validD (sgX T key n b u) = true := by
  unfold sgOk at h
  simp only [Bool.and_eq_true, Bool.not_eq_true', beq_eq_false_iff_ne] at h
  exact h
theorem sgOk_in (h : sgOk T key n b u = true) (hv : validK T = true) : Num.inB (lkN T key) 1 2147483646 = true := by
  obtain ⟨k, hk, e⟩ := lkN_mem (sgOk_parts h).1
  rw [← e]
  exact vkey_in ((validK_iff.1 hv).1 _ (nth_mem hk))
theorem sgK_ver (h : sgOk T key n b u = true) (hv : validK T = true) : verD (lkN T (sgK T key n b u).2.2.1) (sgK T key n b u) = true := by
  rw [sgK_yes h]
  show verD (lkN T key) (sgD (lkN T key) (n, b, key, u, 0)) = true
  rw [verD_sg]
  exact sgOk_in h hv
theorem sgK_mat (h : sgOk T key n b u = true) (hv : validK T = true) : 1 ≤ (matK T (sgK T key n b u)).length := by
  obtain ⟨k, hk, e⟩ := lkN_mem (sgOk_parts h).1
  have hver : verD (nth T k).2 (sgK T key n b u) = true := by
    rw [e, sgK_yes h]
    show verD (lkN T key) (sgD (lkN T key) (n, b, key, u, 0)) = true
    rw [verD_sg]
    exact sgOk_in h hv
  have hm : ((k : Nat) : Int) ∈ matK T (sgK T key n b u) := by
    unfold matK matTo
    refine List.mem_map.2 ⟨k, List.mem_filter.2 ⟨List.mem_range.2 hk, hver⟩, rfl⟩
  exact List.length_pos_of_mem hm
theorem sgK_val (h : sgOk T key n b u = true) : validD (sgK T key n b u) = true := by rw [sgK_yes h]; exact (sgOk_parts h).2
theorem sgK_con (h : sgOk T key n b u = true) : (sgK T key n b u).2.1 = b := by rw [sgK_yes h]; rfl
theorem sgK_bulk (h1 : bulk key ≤ 1000) (h2 : bulk n ≤ 1000) (h3 : b.length ≤ 4) : bulkD (sgK T key n b u) ≤ 3000 := by
  by_cases h : sgOk T key n b u = true
  · rw [sgK_yes h]
    show bulk n + b.length + bulk key ≤ 3000
    omega
  · rw [sgK_no (by simpa using h)]
    decide
theorem sgK_byt (hB : Sl.Byt b) : Sl.Byt (sgK T key n b u).2.1 := by
  by_cases h : sgOk T key n b u = true
  · rw [sgK_con h]; exact hB
  · rw [sgK_no (by simpa using h)]
    intro x hx
    simp [zD] at hx
theorem big_mem {l : List ByteArray} (h : bulk l ≤ 9000000) : ∀ y ∈ l, y.size ≤ maxLen := fun x hx => by
  obtain ⟨k, hk, rfl⟩ := List.getElem_of_mem hx
  have := size_bulk hk
  rw [nth_eq hk] at this
  unfold maxLen
  omega
theorem val_wf {x : Dt} (h : validD x = true) (hB : Sl.Byt x.2.1) (hl : bulkD x ≤ 3000) : WfD x := by
  have hv := validD_iff.1 h
  unfold bulkD at hl
  exact ⟨big_mem (by omega), Draw.wfB hB, big_mem (by omega), Draw.wf_of (by omega) (by omega), Draw.wf_of (by omega) (by omega)⟩
end
/-! ### lists that are drawn -/
def KL (T : Kt) : Prop := T.length ≤ 7 ∧ Draw.smS T
theorem KL.of {T : Kt} (h : T.length ≤ 6) (g : Draw.smS T) : KL T := ⟨by omega, g⟩
theorem KL.add {T : Kt} {x : K1} (h : T.length ≤ 6) (g : Draw.smS T) (hx : bulk x.1 ≤ 1000) (hw : (Lit.int .i64 x.2).wf = true) : KL (addK T x) := by
  obtain ⟨n, a⟩ := x
  exact ⟨by have := (Draw.addK_length T (n, a)).2; omega, Draw.smS_addK g hx hw⟩
theorem sum_le : ∀ (T : Kt) (m : Nat), (∀ t ∈ T, bulk t.1 ≤ m) → (T.map (fun x => bulk x.1)).sum ≤ T.length * m
  | [], _, _ => by simp
  | t :: T, m, h => by
    have h1 := sum_le T m fun y hy => h y (by simp [hy])
    have h2 := h t (by simp)
    simp only [List.map_cons, List.sum_cons, List.length_cons, Nat.add_mul]
    omega
theorem KL.bulk {T : Kt} (h : KL T) : bulkT T ≤ 1200000 := by
  have h1 := sum_le T 1000 fun t ht => (h.2 t ht).1
  have h2 := h.1
  unfold bulkT bulkTTo
  rw [List.take_length]
  omega
theorem KL.fits {T : Kt} (h : KL T) : ∀ t ∈ T, t.1.length ≤ 9223372036854775807 ∧ (∀ x ∈ t.1, x.size ≤ maxLen) ∧ (Lit.int .i64 t.2).wf = true := fun t ht => by
  have h1 := (h.2 t ht).1
  have h2 := bulk_len t.1
  exact ⟨by omega, big_mem (by omega), (h.2 t ht).2⟩
theorem KL.sm {T : Kt} (h : KL T) : smT T := h.2.smT
section
variable {w : World} {V U : Value} {T : Kt} {x : Dt} {m : List ByteArray} {k : K1}
theorem iVsV (q : Bool) (hq : verD (lkN T x.2.2.1) x = q) (h : kK.At w V T) (g : kD.At w U x) (gn : WfD x) (hk : KL T) (hx : bulkD x ≤ 3000) :
    Calls Tryz.prog 14 #[V, U] w fun e w' => e = .returned (.bool q) ∧ Below w.heap.size w w' := hq ▸ implVerifySignatureK V U T x w h g gn hk.bulk (Nat.le_trans hx (by decide))
theorem sVsV (q : Bool) (hq : verD (lkN T x.2.2.1) x = q) (h : kK.At w V T) (g : kD.At w U x) (gn : WfD x) (hk : KL T) (hx : bulkD x ≤ 3000) :
    Calls Tryz.prog 15 #[V, U] w fun e w' => e = .returned (.bool q) ∧ Below w.heap.size w w' := hq ▸ specVerifySignatureK V U T x w h g gn hk.bulk (Nat.le_trans hx (by decide))
theorem iMkV (l : List Int) (hq : matK T x = l) (h : kK.At w V T) (g : kD.At w U x) (gn : WfD x) (hk : KL T) (hx : bulkD x ≤ 3000) :
    Calls Tryz.prog 17 #[V, U] w fun e w' => ∃ U, e = .returned U ∧ kI.In w.heap.size w'.heap.size w' U l ∧ Below w.heap.size w w' := hq ▸ implMatchingKeysK V U T x w h g gn hk.bulk (Nat.le_trans hx (by decide))
theorem sMkV (l : List Int) (hq : matK T x = l) (h : kK.At w V T) (g : kD.At w U x) (gn : WfD x) (hk : KL T) (hx : bulkD x ≤ 3000) :
    Calls Tryz.prog 18 #[V, U] w fun e w' => ∃ U, e = .returned U ∧ kI.In w.heap.size w'.heap.size w' U l ∧ Below w.heap.size w w' := hq ▸ specMatchingKeysK V U T x w h g gn hk.bulk (Nat.le_trans hx (by decide))
theorem mat_small {l : List Int} (hq : matK T x = l) (hk : KL T) : l.length ≤ 9000000 := by
  rw [← hq]
  have h1 : (matK T x).length ≤ T.length := matTo_le T x _
  have h2 := hk.1
  omega
theorem iSoV (q : Int) (hq : lkN T m = q) (h : kK.At w V T) (g : kN.At w U m) (hk : KL T) (hm : bulk m ≤ 1000) :
    Calls Tryz.prog 20 #[V, U] w fun e w' => e = .returned (.int .i64 q) ∧ Below w.heap.size w w' := hq ▸ implSecretOfK V U T m w h g hk.bulk (Nat.le_trans hm (by decide))
theorem sSoV (q : Int) (hq : lkN T m = q) (h : kK.At w V T) (g : kN.At w U m) (hk : KL T) (hm : bulk m ≤ 1000) :
    Calls Tryz.prog 21 #[V, U] w fun e w' => e = .returned (.int .i64 q) ∧ Below w.heap.size w w' := hq ▸ specSecretOfK V U T m w h g hk.bulk (Nat.le_trans hm (by decide))
theorem iVkV (q : Bool) (hq : validK T = q) (h : kK.At w V T) (hk : KL T) :
    Calls Tryz.prog 22 #[V] w fun e w' => e = .returned (.bool q) ∧ Below w.heap.size w w' := hq ▸ implValidKeysK V T w h hk.fits hk.bulk
theorem sVkV (q : Bool) (hq : validK T = q) (h : kK.At w V T) (hk : KL T) :
    Calls Tryz.prog 23 #[V] w fun e w' => e = .returned (.bool q) ∧ Below w.heap.size w w' := hq ▸ specValidKeysK V T w h hk.bulk
theorem iFkV (q : ByteArray) (hq : fmtK T = q) (h : kK.At w V T) (hk : KL T) :
    Calls Tryz.prog 24 #[V] w fun e w' => e = .returned (.string q) ∧ Below w.heap.size w w' := hq ▸ implFormatKeysK V T w h hk.bulk
theorem sFkV (q : ByteArray) (hq : fmtK T = q) (h : kK.At w V T) (hk : KL T) :
    Calls Tryz.prog 25 #[V] w fun e w' => e = .returned (.string q) ∧ Below w.heap.size w w' := hq ▸ specFormatKeysK V T w h hk.bulk
theorem sameKV (h : kK.At w V T) (g : kK.At w U T) (hk : KL T) :
    Calls Tryz.prog 19 #[V, U] w fun e w' => e = .returned (.bool true) ∧ Below w.heap.size w w' := by
  have h2 := hk.1
  have := sameKeys V U T T w h g (by omega) (by omega) hk.sm hk.sm
  rwa [eqT_self] at this
theorem wfk1 (hx : bulk k.1 ≤ 1000) (hw : (Lit.int .i64 k.2).wf = true) : WfK1 k := ⟨big_mem (by omega), hw⟩
theorem kn1 {v : Value} {a : Int} (h : k1.At w (.agg #[v, .int .i64 a]) k) : kN.At w (.agg #[v]) k.1 := by
  obtain ⟨u, e, h⟩ := h
  injection e with e
  have e1 := congrArg (fun z : Array Value => z[0]?) e
  simp at e1
  subst e1
  exact kN_of h
end
end Go.Proofs.YtnblopilgfdjkaaGreat.Row.Ring
