/- Contracts and mathematics, joined: DrawU2. No conditions but those that each states. -/
import Derived.Deep.Cut
import Derived.Test.YtkojeajjappchaaGreatB13
/- The model's draws of rules (l10One), of lists of rules (l10Any), of two names (l10Names). What was in memory stays as it was, but for the cursor. -/
namespace Go.Proofs.YtkojeajjappchaaGreat.Draw
open Go.ChangeShapes Go.WideShapes Go.ChangeAt Go.RowKit Go.Instr
open Go.Proofs.YtkojeajjappchaaGreat.Row (bulk bulk_append bulk_one bulk_nil bulk_cons HB Rlt Rlm kRl kLRl OwnK HoldsK wtRl)
open Go.Proofs.YtkojeajjappchaaGreat.Ret (NC Blk Box)
set_option linter.unusedVariables false
set_option maxRecDepth 100000

theorem endU {w0 : World} {p : Nat} {v : Value} {l : List UInt8} {w W : World} {x0 x1 : Option Addr} {n0 c0 n1 c1 g : Nat} {x : Rlt} {a b : Value} (h0w : w0.heap.size ≤ w.heap.size) (hg : w.heap.size ≤ g) (hgp : g ≠ p) (HR : Blk W g #[a, b] 28) (HX : RH w.heap.size W x0 n0 c0 x1 n1 c1 x) (HC : Cur w0 p v l W) (HK : Keep p w W) :
    Blk ((W.setCell ⟨g, 0, none⟩ (.slice x0 n0 c0)).setCell ⟨g, 1, none⟩ (.slice x1 n1 c1)) g #[.slice x0 n0 c0, .slice x1 n1 c1] 28 ∧ RH w.heap.size ((W.setCell ⟨g, 0, none⟩ (.slice x0 n0 c0)).setCell ⟨g, 1, none⟩ (.slice x1 n1 c1)) x0 n0 c0 x1 n1 c1 x ∧ Cur w0 p v l ((W.setCell ⟨g, 0, none⟩ (.slice x0 n0 c0)).setCell ⟨g, 1, none⟩ (.slice x1 n1 c1)) ∧ Keep p w ((W.setCell ⟨g, 0, none⟩ (.slice x0 n0 c0)).setCell ⟨g, 1, none⟩ (.slice x1 n1 c1)) :=
  ⟨(HR.set 0 (.slice x0 n0 c0)).set 1 (.slice x1 n1 c1), HX.set2 HR (by decide), cur_two HC (by omega) hgp, keep_two HK hg⟩

set_option maxHeartbeats 4000000 in
theorem l10One (w0 : World) (p : Nat) (v : Value) (l : List UInt8) (w : World) (hc : Cur w0 p v l w) :
    Calls Tryz.prog 27 #[.pointer (some ⟨p, 0, none⟩)] w (DrawnW w0 p v l w (RuleD w.heap.size)) := by
  have hpl := hc.lt
  have h0w := hc.below.size
  have hal := (Below.refl w.heap.size w).alloc (Nat.le_refl _) (.cells #[.slice none 0 0, .slice none 0 0] 28)
  have HR := Lib.hid (Blk.new w #[.slice none 0 0, .slice none 0 0] 28)
  have HK := Lib.hid (Keep.of_below (p := p) hal)
  have HD := Lib.hid (once w0 p v l _ 3 (hc.on hal))
  clear hc hal
  go_enter Tryz.func27, Tryz.ntmps27
  go_wp2_with fail
  refine HD.out.mono ?_
  rintro e w1 ⟨y, rfl, ⟨b, rfl⟩, hc1, hk1⟩
  replace HR := Lib.hid (blk_keep HR.out hk1 (by omega)); replace HK := Lib.hid (HK.out.trans hk1); have HC := Lib.hid hc1
  clear hc1 hk1 HD
  cases b
  · have HE := Lib.hid (l10Rule w0 p v l w1 HC.out)
    go_wp2_with fail
    refine HE.out.mono ?_
    rintro e w2 ⟨y, rfl, ⟨x0, x1, n0, c0, n1, c1, x, rfl, hx, q1, q2⟩, hc2, hk2⟩
    replace HR := Lib.hid (blk_keep HR.out hk2 (by omega)); have HX := Lib.hid (hx.mono (B' := w.heap.size) HK.out.size); replace HK := Lib.hid (HK.out.trans hk2); replace HC := Lib.hid hc2
    clear hx hc2 hk2 HE
    have HZ := Lib.hid (endU h0w (Nat.le_refl _) (show w.heap.size ≠ p by omega) HR.out HX.out HC.out HK.out)
    have r0 : w2.cell? ⟨w.heap.size, 0, none⟩ = some (.slice none 0 0) := HR.out.cell 0
    have r1 : w2.cell? ⟨w.heap.size, 1, none⟩ = some (.slice none 0 0) := HR.out.cell 1
    have z0 := HR.out.frozen 0; have z1 := HR.out.frozen 1
    go_wp2_with fail
    refine bodyPost_ret (Ret.results_c rfl _ _ w.heap.size [.slice x0 n0 c0, .slice x1 n1 c1] rfl Row.aggRl HZ.out.1.cells) rfl ?_
    exact ⟨_, rfl, ⟨_, _, _, _, _, _, x, rfl, HZ.out.2.1, q1, q2⟩, HZ.out.2.2.1, HZ.out.2.2.2⟩
  · have HE := Lib.hid (l5Any w0 p v l w1 HC.out)
    go_wp2_with fail
    refine HE.out.mono ?_
    rintro e w2 ⟨y, rfl, ⟨u, m, rfl, hou, hm⟩, hc2, hk2⟩
    obtain ⟨x0, n0, c0, rfl, -, -, hou⟩ := hou.shapeN
    replace HR := Lib.hid (blk_keep HR.out hk2 (by omega)); have HU := Lib.hid ((HB.of hou).mono (B' := w.heap.size) HK.out.size); replace HK := Lib.hid (HK.out.trans hk2); replace HC := Lib.hid hc2
    have HE2 := Lib.hid (l5Any w0 p v l w2 HC.out)
    clear hou hc2 hk2 HE
    go_wp2_with fail
    refine HE2.out.mono ?_
    rintro e w3 ⟨y, rfl, ⟨u, m2, rfl, hou, hm2⟩, hc2, hk2⟩
    obtain ⟨x1, n1, c1, rfl, -, -, hou⟩ := hou.shapeN
    replace HR := Lib.hid (blk_keep HR.out hk2 (by omega)); have HX := Lib.hid (RH.mk (x := (m, m2)) (Row.hb_keep' HU.out hk2 hpl) ((HB.of hou).mono (B' := w.heap.size) HK.out.size)); replace HK := Lib.hid (HK.out.trans hk2); replace HC := Lib.hid hc2
    clear hou hc2 hk2 HE2 HU
    have HZ := Lib.hid (endU h0w (Nat.le_refl _) (show w.heap.size ≠ p by omega) HR.out HX.out HC.out HK.out)
    have r0 : w3.cell? ⟨w.heap.size, 0, none⟩ = some (.slice none 0 0) := HR.out.cell 0
    have r1 : w3.cell? ⟨w.heap.size, 1, none⟩ = some (.slice none 0 0) := HR.out.cell 1
    have z0 := HR.out.frozen 0; have z1 := HR.out.frozen 1
    go_wp2_with fail
    refine bodyPost_ret (Ret.results_c rfl _ _ w.heap.size [.slice x0 n0 c0, .slice x1 n1 c1] rfl Row.aggRl HZ.out.1.cells) rfl ?_
    exact ⟨_, rfl, ⟨_, _, _, _, _, _, (m, m2), rfl, HZ.out.2.1, hm, hm2⟩, HZ.out.2.2.1, HZ.out.2.2.2⟩

def lenV : Value → Nat
  | .slice _ n _ => n
  | _ => 0
set_option maxHeartbeats 8000000 in
theorem l10Any (w0 : World) (p : Nat) (v : Value) (l : List UInt8) (w : World) (hc : Cur w0 p v l w) :
    Calls Tryz.prog 54 #[.pointer (some ⟨p, 0, none⟩)] w (DrawnW w0 p v l w (RulesD w.heap.size 9)) := by
  have hpl := hc.lt
  have h0w := hc.below.size
  have HD := Lib.hid (l10Rules w0 p v l w hc)
  clear hc
  go_enter Tryz.func54, Tryz.ntmps54
  go_wp2_with fail
  refine HD.out.mono ?_
  rintro e w1 ⟨y, rfl, ⟨L, ho, hL5, hs⟩, hc1, hk1⟩
  obtain ⟨x, n, c, rfl, hn, -, ho⟩ := ho.shapeN
  have HB1 := Lib.hid (below w0 p v l w1 8 hc1)
  have HS := Lib.hid hs; have HO := Lib.hid ho; have HK := Lib.hid hk1
  clear hn hs ho hc1 hk1 HD
  go_wp2_with fail
  refine HB1.out.mono ?_
  rintro e w2 ⟨y, rfl, ⟨r, rfl, hr, _⟩, hc2, hk2⟩
  have hr := hr (by omega)
  obtain ⟨r, rfl⟩ := Int.eq_ofNat_of_zero_le hr.1
  have HC := Lib.hid hc2; replace HO := Lib.hid (HO.out.keep hk2 hpl); replace HK := Lib.hid (HK.out.trans hk2)
  clear hc2 hk2 HB1
  by_cases h0 : r = 0
  · subst h0
    have HLM := Lib.hid (show (L.length + 1) * 48 ≤ 140737488355328 by omega)
    have HLX := Lib.hid (show L.length + 1 ≤ maxLen by unfold maxLen; omega)
    have HE := Lib.hid (l5Any w0 p v l w2 HC.out)
    go_wp2_with fail
    refine HE.out.mono ?_
    rintro e w3 ⟨y, rfl, ⟨u, m, rfl, hou, hm⟩, hc2, hk2⟩
    obtain ⟨x0, n0, c0, rfl, -, -, hou⟩ := hou.shapeN
    have HU := Lib.hid ((HB.of hou).mono (B' := w.heap.size) HK.out.size); replace HO := Lib.hid (HO.out.keep hk2 hpl); replace HK := Lib.hid (HK.out.trans hk2); replace HC := Lib.hid hc2
    have HE2 := Lib.hid (l5Any w0 p v l w3 HC.out)
    clear hou hc2 hk2 HE
    go_wp2_with fail
    refine HE2.out.mono ?_
    rintro e w4 ⟨y, rfl, ⟨u, m2, rfl, hou, hm2⟩, hc2, hk2⟩
    obtain ⟨x1, n1, c1, rfl, -, -, hou⟩ := hou.shapeN
    have HX := Lib.hid (RH.mk (x := (m, m2)) (Row.hb_keep' HU.out hk2 hpl) ((HB.of hou).mono (B' := w.heap.size) HK.out.size)); replace HO := Lib.hid (HO.out.keep hk2 hpl); replace HK := Lib.hid (HK.out.trans hk2); replace HC := Lib.hid hc2
    clear hou hc2 hk2 HE2 HU
    have hal := (Below.refl w4.heap.size w4).alloc (Nat.le_refl _) (.cells #[.slice x0 n0 c0, .slice x1 n1 c1] 28)
    have HOA := Lib.hid (HO.out.on hal)
    have HXA := Lib.hid (HX.out.on hal)
    have HCA := Lib.hid (HC.out.on hal)
    have HKA := Lib.hid (HK.out.trans (Keep.of_below (p := p) hal))
    have HSN := Lib.hid (smR_push (m := ((⟨x0, n0, c0, m⟩, ⟨x1, n1, c1, m2⟩) : Rlm)) HS.out hm hm2)
    clear hal HO HX HC HK
    go_wp2_with (at_builtin; refine Row.wpList_appK Row.kindRl (B := w.heap.size) (l := L) (m := [((⟨x0, n0, c0, m⟩, ⟨x1, n1, c1, m2⟩) : Rlm)]) rfl _ _ rfl Tryz.underlying32 rfl rfl HOA.out.1 (holdsK_one' Row.szRl_cells 28 w4 ((⟨x0, n0, c0, m⟩, ⟨x1, n1, c1, m2⟩) : Rlm) rfl) HLM.out HLX.out HKA.out.size ?_)
    intro v5 w5 ho5 hg5
    have HP := Lib.hid (HOA.out.push (m := ((⟨x0, n0, c0, m⟩, ⟨x1, n1, c1, m2⟩) : Rlm)) HXA.out.1 HXA.out.2 ho5 hg5)
    have HQ := Lib.hid (rl_after h0w hpl HOA.out HCA.out HKA.out hg5)
    clear ho5 hg5
    go_wp2_with fail
    go_ret
    exact ⟨_, rfl, ⟨_, HP.out, by rw [List.length_append]; simp; omega, HSN.out⟩, HQ.out.1, HQ.out.2⟩
  · have h0b : ((r : Int) == 0) = false := by simpa using h0
    by_cases h1 : r = 1
    · subst h1
      clear h0 h0b
      go_wp2_with fail
      go_loopw [3] (fun tv wr => ∃ L : List Rlm, L.length ≤ 9 ∧ Hid (smR L) ∧ Hid (RL w.heap.size wr tv L) ∧ Hid (Cur w0 p v l wr) ∧ Hid (Keep p w wr)) (fun tv _ => 10 - lenV tv)
      case atStart => exact ⟨L, by omega, HS, HO, HC, HK⟩
      case round =>
        clear HS HO HC HK
        obtain ⟨L, hL9, HS, ho, HC, HK⟩ := hrel
        obtain ⟨x, n, c, rfl, hn, -, ho⟩ := ho.out.shapeN
        have HO := Lib.hid ho
        have HN := Lib.hid hn
        have HB1 := Lib.hid (below w0 p v l wr 3 HC.out)
        have hn9 : n ≤ 9 := by omega
        clear ho hn
        go_wp2_with fail
        refine HB1.out.mono ?_
        rintro e w3 ⟨y, rfl, ⟨r3, rfl, hr3, _⟩, hc2, hk2⟩
        have hr3 := hr3 (by omega)
        obtain ⟨r3, rfl⟩ := Int.eq_ofNat_of_zero_le hr3.1
        replace HC := Lib.hid hc2; replace HO := Lib.hid (HO.out.keep hk2 hpl); replace HK := Lib.hid (HK.out.trans hk2)
        clear hc2 hk2 HB1
        by_cases hlt : n < 7 + r3
        · have HLM := Lib.hid (show (L.length + 1) * 48 ≤ 140737488355328 by have := HN.out; omega)
          have HLX := Lib.hid (show L.length + 1 ≤ maxLen by unfold maxLen; have := HN.out; omega)
          have HE := Lib.hid (l10Rule w0 p v l w3 HC.out)
          have hli : (n : Int) < 7 + (r3 : Int) := by omega
          go_wp2_with fail
          refine HE.out.mono ?_
          rintro e w4 ⟨y, rfl, ⟨x0, x1, n0, c0, n1, c1, z, rfl, hx, q1, q2⟩, hc2, hk2⟩
          have HX := Lib.hid (hx.mono (B' := w.heap.size) HK.out.size); replace HO := Lib.hid (HO.out.keep hk2 hpl); replace HK := Lib.hid (HK.out.trans hk2); replace HC := Lib.hid hc2
          clear hx hc2 hk2 HE
          have hal := (Below.refl w4.heap.size w4).alloc (Nat.le_refl _) (.cells #[.slice x0 n0 c0, .slice x1 n1 c1] 28)
          have HOA := Lib.hid (HO.out.on hal)
          have HXA := Lib.hid (HX.out.on hal)
          have HCA := Lib.hid (HC.out.on hal)
          have HKA := Lib.hid (HK.out.trans (Keep.of_below (p := p) hal))
          have HSN := Lib.hid (smR_push (m := ((⟨x0, n0, c0, z.1⟩, ⟨x1, n1, c1, z.2⟩) : Rlm)) HS.out q1 q2)
          clear hal HO HX HC HK
          go_wp2_with (at_builtin; refine Row.wpList_appK Row.kindRl (B := w.heap.size) (l := L) (m := [((⟨x0, n0, c0, z.1⟩, ⟨x1, n1, c1, z.2⟩) : Rlm)]) rfl _ _ rfl Tryz.underlying32 rfl rfl HOA.out.1 (holdsK_one' Row.szRl_cells 28 w4 ((⟨x0, n0, c0, z.1⟩, ⟨x1, n1, c1, z.2⟩) : Rlm) rfl) HLM.out HLX.out HKA.out.size ?_)
          intro v5 w5 ho5 hg5
          have HP := Lib.hid (HOA.out.push (m := ((⟨x0, n0, c0, z.1⟩, ⟨x1, n1, c1, z.2⟩) : Rlm)) HXA.out.1 HXA.out.2 ho5 hg5)
          have HQ := Lib.hid (rl_after h0w hpl HOA.out HCA.out HKA.out hg5)
          clear ho5 hg5
          obtain ⟨x5, n5, c5, rfl, hn5, -, hp5⟩ := HP.out.shapeN
          have HP5 := Lib.hid hp5
          have hn6 : n5 = n + 1 := by rw [hn5, List.length_append, HN.out]; rfl
          clear hp5 HP hn5
          go_wp2_with fail
          go_roundw
          case rel => exact ⟨_, by rw [List.length_append]; simp; have := HN.out; omega, HSN, HP5, Lib.hid HQ.out.1, Lib.hid HQ.out.2⟩
          case measure => simp [lenV]; omega
        · have hli : ¬ (n : Int) < 7 + (r3 : Int) := by omega
          go_wp2_with fail
          go_ret
          exact ⟨_, rfl, ⟨L, HO.out, hL9, HS.out⟩, HC.out, HK.out⟩
    · have h1b : ((r : Int) == 1) = false := beq_eq_false_iff_ne.2 (by omega)
      go_wp2_with fail
      go_ret
      exact ⟨_, rfl, ⟨L, HO.out, by omega, HS.out⟩, HC.out, HK.out⟩

/-- Two drawn names. -/
def NamesD (B : Nat) (V : Value) (w : World) : Prop := ∃ (x0 x1 : Option Addr) (n0 c0 n1 c1 : Nat) (a b : List ByteArray), V = .tuple #[.agg #[.slice x0 n0 c0], .agg #[.slice x1 n1 c1]] ∧ HB B w (.slice x0 n0 c0) a ∧ HB B w (.slice x1 n1 c1) b ∧ bulk a ≤ 1000 ∧ bulk b ≤ 1000
theorem bulk_pN9 (s : ByteArray) : bulk (Row.pN s) ≤ 1000 := Nat.le_trans (Row.bulk_valid (Row.valid_pN s)) (by decide)
theorem hb_two {B g h : Nat} {W : World} {x : Value} {m : List ByteArray} {u1 u2 a b : Value} (hx : HB B W x m) (h1 : Box W g a 29) (h2 : Box W h b 29) (hne : g ≠ h) : HB B ((W.setCell ⟨g, 0, none⟩ u1).setCell ⟨h, 0, none⟩ u2) x m :=
  (hx.setT (g := g) (i := 0) (u := u1) (show Blk W g #[a] 29 from h1) (by decide)).setT (g := h) (i := 0) (u := u2) (show Blk _ h #[b] 29 from h2.grown (Ret.grownBy_set W ⟨g, 0, none⟩ u1) (fun e => hne (by cases e; rfl))) (by decide)
theorem box_two {g h : Nat} {W : World} {u1 u2 a b : Value} (h1 : Box W g a 29) (h2 : Box W h b 29) (hne : g ≠ h) : Box ((W.setCell ⟨g, 0, none⟩ u1).setCell ⟨h, 0, none⟩ u2) g u1 29 ∧ Box ((W.setCell ⟨g, 0, none⟩ u1).setCell ⟨h, 0, none⟩ u2) h u2 29 :=
  ⟨(h1.set u1).grown (Ret.grownBy_set _ ⟨h, 0, none⟩ u2) (fun e => hne (by cases e; rfl)), (h2.grown (Ret.grownBy_set W ⟨g, 0, none⟩ u1) (fun e => hne (by cases e; rfl))).set u2⟩
set_option maxHeartbeats 8000000 in
theorem l10Names (w0 : World) (p : Nat) (v : Value) (l : List UInt8) (w : World) (hc : Cur w0 p v l w) :
    Calls Tryz.prog 28 #[.pointer (some ⟨p, 0, none⟩)] w (DrawnW w0 p v l w (NamesD w.heap.size)) := by
  have hpl := hc.lt
  have h0w := hc.below.size
  have ha1 := (Below.refl w.heap.size w).alloc (Nat.le_refl _) (.cells #[.slice none 0 0] 29)
  have ha2 := (Below.refl (w.alloc (.cells #[.slice none 0 0] 29)).heap.size (w.alloc (.cells #[.slice none 0 0] 29))).alloc (Nat.le_refl _) (.cells #[.slice none 0 0] 29)
  have HR := Lib.hid ((Box.new w (.slice none 0 0) 29).on ha2)
  have HS := Lib.hid (Ret.Box.new' (w := w.alloc (.cells #[.slice none 0 0] 29)) (n := w.heap.size + 1) (.slice none 0 0) 29 (by simp))
  have HK := Lib.hid ((Keep.of_below (p := p) ha1).trans (Keep.of_below (p := p) ha2))
  have hst := strLit2 w0 p v l _ ((hc.on ha1).on ha2) [{ data := #[47, 97, 47, 49] }, { data := #[47, 98, 47, 120, 45, 49] }, { data := #[47, 110, 101, 119, 115, 47, 107, 101, 121] }, { data := #[47, 97, 47, 107, 101, 121] }, { data := #[47, 110, 101, 119, 115, 47, 49] }, { data := #[47, 107, 101, 121, 47, 98] }] _ rfl 6 rfl (by decide) (by decide) 20 (by decide)
  simp only [World.size_alloc] at hst
  have HST := Lib.hid hst
  clear hst hc ha1 ha2
  go_enter Tryz.func28, Tryz.ntmps28
  go_wp2_with fail
  refine HST.out.mono ?_
  rintro e w1 ⟨y, rfl, ⟨t, rfl, ht⟩, hc1, hk1⟩
  replace HR := Lib.hid (box_keep HR.out hk1 (by omega)); replace HS := Lib.hid (box_keep HS.out hk1 (by omega)); replace HK := Lib.hid (HK.out.trans hk1); have HC := Lib.hid hc1
  have hs1 := hk1.size
  simp only [World.size_alloc] at hs1
  clear hc1 hk1 HST
  go_wp2_with fail
  refine (Row.l4OfB t _ (by omega)).mono ?_
  rintro e w2 ⟨u, rfl, hu, hb2⟩
  obtain ⟨x0, n0, c0, rfl, -, hu⟩ := hu.shapeN
  have hal := (Below.refl w2.heap.size w2).alloc (Nat.le_refl _) (.cells #[.slice x0 n0 c0] 29)
  have HU := Lib.hid ((hu.mono (B' := w.heap.size) HK.out.size).on hal)
  have hs2 := hb2.size
  replace HR := Lib.hid ((HR.out.on hb2).on hal); replace HS := Lib.hid ((HS.out.on hb2).on hal); replace HK := Lib.hid ((HK.out.trans (Keep.of_below (p := p) hb2)).trans (Keep.of_below (p := p) hal)); replace HC := Lib.hid ((HC.out.on hb2).on hal)
  have HX := Lib.hid (Box.new w2 (.slice x0 n0 c0) 29)
  have hst := strLit2 w0 p v l _ HC.out [{ data := #[47, 107, 101, 121, 47, 97] }, { data := #[47, 107, 101, 121, 47, 98] }, { data := #[47, 97, 47, 107, 101, 121] }, { data := #[47, 110, 101, 119, 115, 47, 107, 101, 121] }, { data := #[47, 107, 101, 121, 47, 49] }] _ rfl 5 rfl (by decide) (by decide) 20 (by decide)
  simp only [World.size_alloc] at hst
  have HST := Lib.hid hst
  have hbk := bulk_pN9 t
  obtain ⟨a, ha⟩ : ∃ a, Row.pN t = a := ⟨_, rfl⟩
  rw [ha] at hbk HU
  clear hst hu hb2 hal ha
  go_wp2_with fail
  refine HST.out.mono ?_
  rintro e w3 ⟨y, rfl, ⟨t2, rfl, ht2⟩, hc1, hk1⟩
  have hp2 : p < w2.heap.size := by omega
  replace HR := Lib.hid (box_keep HR.out hk1 (by omega)); replace HS := Lib.hid (box_keep HS.out hk1 (by omega)); replace HX := Lib.hid (box_keep HX.out hk1 (by omega)); replace HU := Lib.hid (Row.hb_keep' HU.out hk1 hpl); replace HK := Lib.hid (HK.out.trans hk1); replace HC := Lib.hid hc1
  have hs3 := hk1.size
  simp only [World.size_alloc] at hs3
  clear hc1 hk1 HST
  go_wp2_with fail
  refine (Row.l4OfB t2 _ (by omega)).mono ?_
  rintro e w4 ⟨u, rfl, hu, hb2⟩
  obtain ⟨x1, n1, c1, rfl, -, hu⟩ := hu.shapeN
  have hal := (Below.refl w4.heap.size w4).alloc (Nat.le_refl _) (.cells #[.slice x1 n1 c1] 29)
  have HV := Lib.hid ((hu.mono (B' := w.heap.size) HK.out.size).on hal)
  have hs4 := hb2.size
  replace HR := Lib.hid ((HR.out.on hb2).on hal); replace HS := Lib.hid ((HS.out.on hb2).on hal); replace HX := Lib.hid ((HX.out.on hb2).on hal); replace HU := Lib.hid ((HU.out.on hb2).on hal); replace HK := Lib.hid ((HK.out.trans (Keep.of_below (p := p) hb2)).trans (Keep.of_below (p := p) hal)); replace HC := Lib.hid ((HC.out.on hb2).on hal)
  have HY := Lib.hid (Box.new w4 (.slice x1 n1 c1) 29)
  have hbk2 := bulk_pN9 t2
  obtain ⟨b, hb9⟩ : ∃ b, Row.pN t2 = b := ⟨_, rfl⟩
  rw [hb9] at hbk2 HV
  have HD := Lib.hid (once w0 p v l _ 5 HC.out)
  clear hu hb2 hal hb9
  go_wp2_with fail
  refine HD.out.mono ?_
  rintro e w5 ⟨y, rfl, ⟨o, rfl⟩, hc1, hk1⟩
  have hp4 : p < w4.heap.size := by omega
  replace HR := Lib.hid (box_keep HR.out hk1 (by omega)); replace HS := Lib.hid (box_keep HS.out hk1 (by omega)); replace HX := Lib.hid (box_keep HX.out hk1 (by omega)); replace HY := Lib.hid (box_keep HY.out hk1 (by omega)); replace HU := Lib.hid (Row.hb_keep' HU.out hk1 hpl); replace HV := Lib.hid (Row.hb_keep' HV.out hk1 hpl); replace HK := Lib.hid (HK.out.trans hk1); replace HC := Lib.hid hc1
  have hs5 := hk1.size
  simp only [World.size_alloc] at hs5
  clear hc1 hk1 HD
  have FIN : ∀ (W : World) (x0 : Option Addr) (n0 c0 : Nat) (a : List ByteArray), Hid (Box W w.heap.size (.slice none 0 0) 29) → Hid (Box W (w.heap.size + 1) (.slice none 0 0) 29) → Hid (HB w.heap.size W (.slice x0 n0 c0) a) → Hid (HB w.heap.size W (.slice x1 n1 c1) b) → Hid (Keep p w W) → Hid (Cur w0 p v l W) →
      (∀ j v, ([.slice x0 n0 c0] : List Value)[j]? = some v → (((W.setCell ⟨w.heap.size, 0, none⟩ (.slice x0 n0 c0)).setCell ⟨w.heap.size + 1, 0, none⟩ (.slice x1 n1 c1))).cell? ⟨w.heap.size, j, none⟩ = some v) ∧ (∀ j v, ([.slice x1 n1 c1] : List Value)[j]? = some v → (((W.setCell ⟨w.heap.size, 0, none⟩ (.slice x0 n0 c0)).setCell ⟨w.heap.size + 1, 0, none⟩ (.slice x1 n1 c1))).cell? ⟨w.heap.size + 1, j, none⟩ = some v) ∧ HB w.heap.size ((W.setCell ⟨w.heap.size, 0, none⟩ (.slice x0 n0 c0)).setCell ⟨w.heap.size + 1, 0, none⟩ (.slice x1 n1 c1)) (.slice x0 n0 c0) a ∧ HB w.heap.size ((W.setCell ⟨w.heap.size, 0, none⟩ (.slice x0 n0 c0)).setCell ⟨w.heap.size + 1, 0, none⟩ (.slice x1 n1 c1)) (.slice x1 n1 c1) b ∧ Cur w0 p v l ((W.setCell ⟨w.heap.size, 0, none⟩ (.slice x0 n0 c0)).setCell ⟨w.heap.size + 1, 0, none⟩ (.slice x1 n1 c1)) ∧ Keep p w ((W.setCell ⟨w.heap.size, 0, none⟩ (.slice x0 n0 c0)).setCell ⟨w.heap.size + 1, 0, none⟩ (.slice x1 n1 c1)) := fun W x0 n0 c0 a hR hS hU hV hK hC => by
    obtain ⟨k1, k2⟩ := box_two (u1 := .slice x0 n0 c0) (u2 := .slice x1 n1 c1) hR.out hS.out (by omega)
    exact ⟨Ret.one k1.cell, Ret.one k2.cell, hb_two hU.out hR.out hS.out (by omega), hb_two hV.out hR.out hS.out (by omega), (hC.out.setI 0 h0w (by omega) _).setI 0 (by omega) (by omega) _, (hK.out.setI 0 (Nat.le_refl _) _).setI 0 (by omega) _⟩
  have hdw : ∀ w' : World, Below w'.heap.size w' w'.drew := fun w' => (Below.refl _ _).drew
  have HDW := Lib.hid hdw
  have HFIN := Lib.hid FIN
  clear hdw FIN
  cases o
  · have HQ := Lib.hid (HFIN.out w5 x0 n0 c0 a HR HS HU HV HK HC)
    have l1 := HX.out.cell; have l2 := HY.out.cell
    have r1 := HR.out.cell; have r2 := HS.out.cell; have z1 := HR.out.frozen; have z2 := HS.out.frozen
    go_wp2_with fail
    go_region
    all_goals
      clear l1 l2
      go_wp2_with fail
      refine bodyPost_ret (Ret.results_cc rfl _ _ w.heap.size (w.heap.size + 1) [_] [_] rfl rfl Row.aggN Row.aggN HQ.out.1 HQ.out.2.1) rfl ?_
      exact ⟨_, rfl, ⟨_, _, _, _, _, _, a, b, rfl, HQ.out.2.2.1.on (HDW.out _), HQ.out.2.2.2.1.on (HDW.out _), hbk, hbk2⟩, HQ.out.2.2.2.2.1.on (HDW.out _), HQ.out.2.2.2.2.2.trans (Keep.of_below (HDW.out _))⟩
  · have HE := Lib.hid (l4Any w0 p v l w5 HC.out)
    go_wp2_with fail
    refine HE.out.mono ?_
    rintro e w6 ⟨y, rfl, ⟨u, m, rfl, hou, hm⟩, hc1, hk1⟩
    obtain ⟨x2, n2, c2, rfl, -, -, hou⟩ := hou.shapeN
    have HW := Lib.hid ((HB.of hou).mono (B' := w.heap.size) HK.out.size)
    replace HR := Lib.hid (box_keep HR.out hk1 (by omega)); replace HS := Lib.hid (box_keep HS.out hk1 (by omega)); replace HX := Lib.hid (box_keep HX.out hk1 (by omega)); replace HY := Lib.hid (box_keep HY.out hk1 (by omega)); replace HV := Lib.hid (Row.hb_keep' HV.out hk1 hpl); replace HK := Lib.hid (HK.out.trans hk1); replace HC := Lib.hid hc1
    have hs6 := hk1.size
    have hxb := HX.out
    have g1 := Ret.grownBy_set w6 ⟨w2.heap.size, 0, none⟩ (.slice x2 n2 c2)
    have HR6 := Lib.hid (HR.out.grown g1 (fun e => by have e1 : w.heap.size = w2.heap.size := Option.some.inj e; omega))
    have HS6 := Lib.hid (HS.out.grown g1 (fun e => by have e1 : w.heap.size + 1 = w2.heap.size := Option.some.inj e; omega))
    have HY6 := Lib.hid (HY.out.grown g1 (fun e => by have e1 : w4.heap.size = w2.heap.size := Option.some.inj e; omega))
    have HX6 := Lib.hid (HX.out.set (.slice x2 n2 c2))
    have HW6 := Lib.hid (HW.out.setT (g := w2.heap.size) (i := 0) (u := .slice x2 n2 c2) (show Blk w6 w2.heap.size #[.slice x0 n0 c0] 29 from hxb) (by decide))
    have HV6 := Lib.hid (HV.out.setT (g := w2.heap.size) (i := 0) (u := .slice x2 n2 c2) (show Blk w6 w2.heap.size #[.slice x0 n0 c0] 29 from hxb) (by decide))
    have HK6 := Lib.hid (HK.out.setI (g := w2.heap.size) 0 (by omega) (.slice x2 n2 c2))
    have HC6 := Lib.hid (HC.out.setI (g := w2.heap.size) 0 (by omega) (by omega) (.slice x2 n2 c2))
    have l0 := HX.out.cell; have z0 := HX.out.frozen
    clear hou hc1 hk1 HE hxb g1
    obtain ⟨W, hW⟩ : ∃ W, w6.setCell ⟨w2.heap.size, 0, none⟩ (.slice x2 n2 c2) = W := ⟨_, rfl⟩
    rw [hW] at HR6 HS6 HY6 HX6 HW6 HV6 HK6 HC6
    have HWW := Lib.hid hW
    clear hW
    go_upto_region 5 with fail
    rw [HWW.out]
    have HQ := Lib.hid (HFIN.out W x2 n2 c2 m HR6 HS6 HW6 HV6 HK6 HC6)
    have l1 := HX6.out.cell; have l2 := HY6.out.cell
    have r1 := HR6.out.cell; have r2 := HS6.out.cell; have z1 := HR6.out.frozen; have z2 := HS6.out.frozen
    clear l0 z0
    go_region
    all_goals
      clear l1 l2
      go_wp2_with fail
      refine bodyPost_ret (Ret.results_cc rfl _ _ w.heap.size (w.heap.size + 1) [_] [_] rfl rfl Row.aggN Row.aggN HQ.out.1 HQ.out.2.1) rfl ?_
      exact ⟨_, rfl, ⟨_, _, _, _, _, _, m, b, rfl, HQ.out.2.2.1.on (HDW.out _), HQ.out.2.2.2.1.on (HDW.out _), hm, hbk2⟩, HQ.out.2.2.2.2.1.on (HDW.out _), HQ.out.2.2.2.2.2.trans (Keep.of_below (HDW.out _))⟩
end Go.Proofs.YtkojeajjappchaaGreat.Draw
