/- Contracts and mathematics, joined: DrawAny, NameMath, Split, ParseN, DrawH, HB. No conditions but those that each states. -/
import Derived.Test.YtfglcmanmfenpaaGreatB20
import Derived.Test.YtfglcmanmfenpaaGreatB1
import Derived.Deep.RegionLaw
import Derived.Test.YtfglcmanmfenpaaGreatB3
import Derived.Lib.Join
import Derived.Lib.OthersKept
import Derived.Test.YtfglcmanmfenpaaGreatB4
import Derived.Test.YtfglcmanmfenpaaGreatB2
/- Contracts of the reference model's draws of names that may be wrong: what is drawn lies in memory of the call's own; all else but the cursor is as it was. -/
namespace Go.Proofs.YtfglcmanmfenpaaGreat.Draw
open Go.ChangeShapes Go.WideShapes Go.ChangeAt Go.RowKit Go.Instr
open Go.Proofs.YtfglcmanmfenpaaGreat.Row (bulk bulk_append bulk_one bulk_nil elemSTR oneStr)
open Go.Proofs.YtfglcmanmfenpaaGreat.Ret (NC)
set_option linter.unusedVariables false
set_option maxRecDepth 100000
theorem step_app {P : Program} {ops : Array Oper} {o : Oper} {a : Act} {w : World} {K : Act → World → Prop} {Q : Exit → Act → World → Prop} {E : Prop} {α : Type} [Inhabited α] {enc : α → Value} {e t : TypeId} {bytes : Nat} {z : Value}
    (hg : o.guard = none) (s x : Operand) (hop : o.op = Op.call { callee := Callee.builtin Builtin.append, args := #[s, x], argTypes := #[t, t] }) (ht : P.underlying t = some (.slice e)) (hi : Row.Elem P e z bytes) (hz : z.cells.size = 1)
    {B : Nat} {v : Value} {ad : Addr} {n c : Nat} {l m : List α} (hs : a.eval s = v) (hx : a.eval x = .slice (some ad) n c) (hown : Row.Own e enc B w v l) (hsrc : Row.Holds enc w (.slice (some ad) n c) m) (h1c : ∀ x, (enc x).oneCell' = true) (hlen : (l.length + m.length) * bytes ≤ 140737488355328) (hmx : l.length + m.length ≤ maxLen) (hB : B ≤ w.heap.size)
    (hK : ∀ v' w', Row.Own e enc B w' v' (l ++ m) → w.grownBy w' v.ownBlock → K (a.put o.dst v') w') :
    if Region.wanted o (yielded ops a.tmps) = true then Oper.wp P o a w K Q else E := by
  have hw : Region.wanted o (yielded ops a.tmps) = true := by simp [Region.wanted, hg]
  rw [if_pos hw]
  obtain ⟨i, h1, h2, h3, h4⟩ := info_parts hi
  obtain rfl := hsrc.lenEq
  obtain ⟨v', w', hrun, r1, r2, _⟩ := run_append_own (P := P) w B t o.type e i z 1 bytes ht h1 h2 h3 h4 hz (by decide) v l.length (l.map enc) hown ad m.length c (m.map enc) (by simp) hsrc.cells (Row.oneCell h1c m) hmx hlen hB
  unfold Oper.wp
  simp [execOp, hop, resolve, invoke, builtin, hs, hx, hrun, Result.andThen]
  refine hK v' w' ?_ r2
  unfold Row.Own
  rw [List.length_append, List.map_append]; exact r1
def lenAt (w : World) (g : Nat) : Nat := match w.cell? ⟨g, 0, none⟩ with
  | some (.slice _ n _) => n
  | _ => 0
theorem lenAt_of {w : World} {g : Nat} {x : Option Addr} {n c : Nat} (h : w.cell? ⟨g, 0, none⟩ = some (.slice x n c)) : lenAt w g = n := by simp [lenAt, h]
theorem box_keep {w w' : World} {g p : Nat} {u : Value} {t : TypeId} (h : Ret.Box w g u t) (hk : Keep p w w') (hne : g ≠ p) : Ret.Box w' g u t := (hk.block g h.lt hne).trans h
theorem endA {w0 : World} {p : Nat} {v : Value} {l : List UInt8} {w W : World} {g : Nat} {s : Value} {m : List ByteArray} (hc0 : Cur w0 p v l w) (hgw : w.heap.size < g) (hwp : w.heap.size ≠ p)
    (ho : Row.Own 9 Value.string (w.heap.size + 1) W s m) (hc : Cur w0 p v l W) (hk : Keep p w W) (hr : NC W w.heap.size (.slice none 0 0)) :
    (W.setCell ⟨w.heap.size, 0, none⟩ s).cell? ⟨w.heap.size, 0, none⟩ = some s ∧ Row.Own 9 Value.string w.heap.size (W.setCell ⟨w.heap.size, 0, none⟩ s) s m ∧ Cur w0 p v l (W.setCell ⟨w.heap.size, 0, none⟩ s) ∧ Keep p w (W.setCell ⟨w.heap.size, 0, none⟩ s) :=
  ⟨Ret.set_same hr.1, (ho.grown (Ret.grownBy_set W ⟨w.heap.size, 0, none⟩ s) (Row.nb ho (b := w.heap.size) (by omega))).mono (by omega), hc.set hc0.below.size hwp _, hk.set (Nat.le_refl _) _⟩
theorem storeA {w0 : World} {p : Nat} {v : Value} {l : List UInt8} {w w3 w4 : World} {g : Nat} {s s4 u : Value} {m m4 : List ByteArray} (hc0 : Cur w0 p v l w) (hgw : w.heap.size < g) (hgp : g ≠ p) (hwp : w.heap.size ≠ p) (hpw : p < w.heap.size + 1)
    (ho3 : Row.Own 9 Value.string (w.heap.size + 1) w3 s m) (hc : Cur w0 p v l w3) (hk : Keep p w w3) (hr : NC w3 w.heap.size (.slice none 0 0)) (hg : w3.grownBy w4 s.ownBlock) (ho : Row.Own 9 Value.string (w.heap.size + 1) w4 s4 m4) (hx : Ret.Box w4 g u 29) :
    Row.Own 9 Value.string (w.heap.size + 1) (w4.setCell ⟨g, 0, none⟩ s4) s4 m4 ∧ Cur w0 p v l (w4.setCell ⟨g, 0, none⟩ s4) ∧ Keep p w (w4.setCell ⟨g, 0, none⟩ s4) ∧ NC (w4.setCell ⟨g, 0, none⟩ s4) w.heap.size (.slice none 0 0) ∧ Ret.Box (w4.setCell ⟨g, 0, none⟩ s4) g s4 29 := by
  have hlt := fun q hq => (ho3.lt q hq).1
  have h0 := hc0.below.size
  refine ⟨ho.grown (Ret.grownBy_set w4 ⟨g, 0, none⟩ s4) (Or.inr fun e => Row.Own.notBox ho hx (by decide) e.symm), (hc.grown hg (fun q hq => ⟨by have := hlt q hq; omega, by have := hlt q hq; omega⟩)).set (by omega) hgp _, (hk.grown hg (fun q hq => by have := hlt q hq; omega)).set (by omega) _, ?_, hx.set s4⟩
  exact (hr.grown hg (fun e => by have := hlt _ e.symm; omega)).other (a := ⟨g, 0, none⟩) (by show g ≠ w.heap.size; omega) _
set_option maxRecDepth 100000 in
set_option maxHeartbeats 4000000 in
theorem l4Any (w0 : World) (p : Nat) (v : Value) (l : List UInt8) (w : World) (hc : Cur w0 p v l w) :
    Calls Tryz.prog 66 #[.pointer (some ⟨p, 0, none⟩)] w (DrawnW w0 p v l w (NameIn w.heap.size 1000)) := by
  have hpl := hc.lt
  have HB := Lib.hid (l4Name w0 p v l _ (hc.alloc (.cells #[.slice none 0 0] 29)))
  have HK0 := Lib.hid (keep_alloc p w (.cells #[.slice none 0 0] 29))
  have HR0 := Lib.hid (NC.new' (w := w) (.slice none 0 0) 29 rfl)
  have HC0 := Lib.hid hc
  have hwp : w.heap.size ≠ p := by omega
  clear hc
  go_enter Tryz.func66, Tryz.ntmps66
  go_wp2_with fail
  refine HB.out.mono ?_
  rintro e w1 ⟨y, rfl, ⟨u, m, rfl, ho, hm⟩, hc1, hk1⟩
  obtain ⟨x, n, c, rfl, hn, hcap, ho⟩ := ho.shapeN
  have hz1 := hk1.size
  simp only [World.size_alloc] at hz1 ho
  have hal : Below w1.heap.size w1 (w1.alloc (.cells #[.slice x n c] 29)) := (Below.refl _ _).alloc (Nat.le_refl _) _
  have HC1 := Lib.hid (hc1.on hal)
  have HK1 := Lib.hid ((HK0.out.trans hk1).trans (Keep.of_below (p := p) hal))
  have HR1 := Lib.hid ((NC.keep HR0.out hk1 hwp).on hal)
  have HX1 := Lib.hid (Ret.Box.new' (w := w1) (.slice x n c) 29 rfl)
  have HO1 := Lib.hid (ho.on hal)
  have hb := below w0 p v l _ 8 HC1.out
  have HB2 := Lib.hid hb
  obtain ⟨g, hg⟩ : ∃ g, g = w1.heap.size := ⟨_, rfl⟩
  have hgp : g ≠ p := by have := hc1.lt; omega
  have hgw : w.heap.size < g := by omega
  have hpw : p < w.heap.size + 1 := by omega
  have hnm : n ≤ 100 := by have := Row.bigLen hm; omega
  have HN := Lib.hid hn
  clear hc1 hk1 ho hal hb HB hn
  go_wp2_with fail
  rw [← hg] at HX1 ⊢
  refine HB2.out.mono ?_
  rintro e w2 ⟨y, rfl, ⟨r, rfl, hr, _⟩, hc2, hk2⟩
  have hr := hr (by omega)
  obtain ⟨r, rfl⟩ := Int.eq_ofNat_of_zero_le hr.1
  have HC2 := Lib.hid hc2
  have HK2 := Lib.hid (HK1.out.trans hk2)
  have HR2 := Lib.hid (NC.keep HR1.out hk2 hwp)
  have HX2 := Lib.hid (box_keep HX1.out hk2 hgp)
  have HO2 := Lib.hid (rown_keep HO1.out hk2 hpw)
  clear hc2 hk2 HB2 HC1 HK1 HR1 HX1 HO1 hg
  by_cases h0 : r = 0
  · subst h0
    have hx2 := HX2.out.cell
    have hx3 := HX2.out.frozen
    have hal : Below w2.heap.size w2 (w2.alloc (.cells #[.string { data := #[] }, .string { data := #[65] }, .string { data := #[116, 111, 111, 108, 111, 110, 103, 120, 120] }, .string { data := #[97, 47, 98] }, .string { data := #[32] }, .string { data := #[101, 105, 103, 104, 116, 56, 56, 56] }] 9)).drew := ((Below.refl _ _).alloc (Nat.le_refl _) _).drew
    have HCA := Lib.hid (HC2.out.on hal)
    have HKA := Lib.hid (HK2.out.trans (Keep.of_below (p := p) hal))
    have HRA := Lib.hid (HR2.out.on hal)
    have HXA := Lib.hid (HX2.out.on hal)
    have HOA := Lib.hid (HO2.out.on hal)
    have hxA : (w2.alloc (.cells #[.string { data := #[] }, .string { data := #[65] }, .string { data := #[116, 111, 111, 108, 111, 110, 103, 120, 120] }, .string { data := #[97, 47, 98] }, .string { data := #[32] }, .string { data := #[101, 105, 103, 104, 116, 56, 56, 56] }] 9)).cell? ⟨g, 0, none⟩ = some (.slice x n c) := HXA.out.cell
    have hpr := HC2.out.lt
    have HLM := Lib.hid (show (m.length + 1) * 16 ≤ 140737488355328 by rw [← HN.out]; omega)
    have HLX := Lib.hid (show m.length + 1 ≤ maxLen by rw [← HN.out]; unfold maxLen; omega)
    clear hal
    go_wp2_with fail
    go_region_law (first | (refine step_app (enc := Value.string) (B := w.heap.size + 1) (l := m) (m := [t3]) rfl _ _ (by rfl) Tryz.underlying27 elemSTR rfl (by rfl) (by rfl) HO3A.out (Row.holds_one Value.string 9 w3 t3) oneStr HLM.out HLX.out hB3 ?_; intro v4 w4 ho4 hg4; obtain ⟨x4, n4, c4, rfl, hn4, hcc4, ho4⟩ := ho4.shapeN; have HO4 := Lib.hid ho4; have HG4 := Lib.hid hg4; have HX4 := Lib.hid ((HX3.out.on ((Below.refl _ _).alloc (Nat.le_refl _) (.cells #[.string t3] 9))).grown hg4 (Row.Own.notBox HO3A.out (HX3.out.on ((Below.refl _ _).alloc (Nat.le_refl _) (.cells #[.string t3] 9))) (by decide))); have hx4 := HX4.out.cell; have hx5 := HX4.out.frozen; clear ho4 hg4 hn4) | (go_simp; go_at_call 88; refine (strAt w0 p v l (w2.alloc (.cells #[.string { data := #[] }, .string { data := #[65] }, .string { data := #[116, 111, 111, 108, 111, 110, 103, 120, 120] }, .string { data := #[97, 47, 98] }, .string { data := #[32] }, .string { data := #[101, 105, 103, 104, 116, 56, 56, 56] }] 9)).drew HCA.out w2.heap.size (by omega) [{ data := #[] }, { data := #[65] }, { data := #[116, 111, 111, 108, 111, 110, 103, 120, 120] }, { data := #[97, 47, 98] }, { data := #[32] }, { data := #[101, 105, 103, 104, 116, 56, 56, 56] }] 6 rfl (by decide) (by decide) 20 (by decide) (fun j h => lits_at rfl rfl j h)).mono ?_; rintro e w3 ⟨y3, rfl, ⟨t3, rfl, ht3⟩, hc3, hk3⟩; have HC3 := Lib.hid hc3; have HK3 := Lib.hid (HKA.out.trans hk3); have HR3 := Lib.hid (NC.keep HRA.out hk3 hwp); have HX3 := Lib.hid (box_keep HXA.out hk3 hgp); have HO3 := Lib.hid (rown_keep HOA.out hk3 hpw); have HO3A := Lib.hid (HO3.out.on ((Below.refl _ _).alloc (Nat.le_refl _) (.cells #[.string t3] 9))); have hxc3 := HX3.out.cell; have hxa3 := (HX3.out.on ((Below.refl _ _).alloc (Nat.le_refl _) (.cells #[.string t3] 9))).cell; have hB3 : w.heap.size + 1 ≤ (w3.alloc (.cells #[.string t3] 9)).heap.size := (by have := HX3.out.lt; simp; omega); clear hc3 hk3))
    all_goals
      have HZ5 := Lib.hid (storeA HC0.out hgw hgp hwp hpw HO3A.out (HC3.out.on ((Below.refl _ _).alloc (Nat.le_refl _) _)) (HK3.out.trans (keep_alloc p w3 _)) (HR3.out.alloc _) HG4.out HO4.out HX4.out)
      have HO5 := Lib.hid HZ5.out.1
      have HC5 := Lib.hid HZ5.out.2.1
      have HK5 := Lib.hid HZ5.out.2.2.1
      have HR5 := Lib.hid HZ5.out.2.2.2.1
      have HX5 := Lib.hid HZ5.out.2.2.2.2
      clear hx2 hx3 hxA hxc3 hxa3 hx4 hx5 HZ5
      obtain ⟨hk8, hf8⟩ := HR5.out
      have hx8 := HX5.out.cell
      have HZ := Lib.hid (endA HC0.out hgw hwp HO5.out HC5.out HK5.out HR5.out)
      go_wp2_with fail
      refine bodyPost_ret (Ret.results_c rfl _ _ w.heap.size [_] rfl Row.aggN (Ret.one HZ.out.1)) rfl ?_
      exact ⟨_, rfl, ⟨_, _, rfl, HZ.out.2.1, by first | omega | (rw [bulk_append, bulk_one]; omega)⟩, HZ.out.2.2.1, HZ.out.2.2.2⟩
  · have h0b : ((r : Int) == 0) = false := by simpa using h0
    by_cases h1 : r = 1
    · subst h1
      have hx2 := HX2.out.cell
      have hbn : bulk m ≤ 100 + 2 * n := by omega
      have hnm2 : n ≤ 107 := by omega
      have HI := Lib.hid HX2.out.cell
      clear hx2 hm hnm
      go_wp2_with fail
      go_loopw [] (fun wr => ∃ (x : Option Addr) (n c : Nat) (m : List ByteArray), n ≤ 107 ∧ bulk m ≤ 100 + 2 * n ∧ lenAt wr g = n ∧ Hid (n = m.length) ∧ Hid (NC wr w.heap.size (.slice none 0 0)) ∧ Hid (Ret.Box wr g (.slice x n c) 29) ∧ Hid (Row.Own 9 Value.string (w.heap.size + 1) wr (.slice x n c) m) ∧ Hid (Cur w0 p v l wr) ∧ Hid (Keep p w wr)) (fun wr => 200 - lenAt wr g)
      case atStart => exact ⟨x, n, c, m, hnm2, hbn, lenAt_of HI.out, HN, HR2, HX2, HO2, HC2, HK2⟩
      case round =>
        obtain ⟨x, n, c, m, hn7, hbn, hla, HN, HR, HX, HO, HC, HK⟩ := hrel
        have HLA := Lib.hid hla
        have hx := HX.out.cell
        have hdr : Below wr.heap.size wr wr.drew := (Below.refl _ _).drew
        have HCD := Lib.hid (HC.out.on hdr)
        have HKD := Lib.hid (HK.out.trans (Keep.of_below (p := p) hdr))
        have HRD := Lib.hid (HR.out.on hdr)
        have HXD := Lib.hid (HX.out.on hdr)
        have HOD := Lib.hid (HO.out.on hdr)
        clear hla hdr
        go_wp2_with fail
        go_region_held3 (fun w' => w'.cell? ⟨g, 0, none⟩ = some (.slice x n c)) (first | exact HXD.out.cell | exact hxc3) ((go_at_call 33; refine (below w0 p v l wr.drew 3 HCD.out).mono ?_; rintro e w3 ⟨y, rfl, ⟨q, rfl, hq, hq2⟩, hc3, hk3⟩; have hxc3 := (box_keep HXD.out hk3 hgp).cell))
        have hq := hq (by omega)
        have HC3 := Lib.hid hc3
        have HK3 := Lib.hid (HKD.out.trans hk3)
        have HR3 := Lib.hid (NC.keep HRD.out hk3 hwp)
        have HX3 := Lib.hid (box_keep HXD.out hk3 hgp)
        have HO3 := Lib.hid (rown_keep HOD.out hk3 hpw)
        have hwq : IntKind.i64.wrap (5 + q) = 5 + q := by rw [IntKind.wrap_i64]; omega
        obtain ⟨q0, q1⟩ := hq
        clear hc3 hk3 hq2 hx
        rw [hwq]
        clear hwq
        by_cases hlt : (n : Int) < 5 + q
        · have HO3A := Lib.hid (HO3.out.on ((Below.refl _ _).alloc (Nat.le_refl _) (.cells #[.string { data := #[109] }] 9)))
          have HX3A := Lib.hid (HX3.out.on ((Below.refl _ _).alloc (Nat.le_refl _) (.cells #[.string { data := #[109] }] 9)))
          have HLM := Lib.hid (show (m.length + ([{ data := #[109] }] : List ByteArray).length) * 16 ≤ 140737488355328 by rw [← HN.out]; simp; omega)
          have HLX := Lib.hid (show m.length + ([{ data := #[109] }] : List ByteArray).length ≤ maxLen by rw [← HN.out]; unfold maxLen; simp; omega)
          have hB3 : w.heap.size + 1 ≤ (w3.alloc (.cells #[.string { data := #[109] }] 9)).heap.size := by have := HX3.out.lt; simp; omega
          go_wp2_with (at_builtin; refine Row.wpList_app (enc := Value.string) (B := w.heap.size + 1) (l := m) (m := [{ data := #[109] }]) rfl _ _ rfl Tryz.underlying27 elemSTR rfl rfl rfl HO3A.out (Row.holds_one Value.string 9 w3 _) oneStr HLM.out HLX.out hB3 ?_)
          intro v4 w4 ho4 hg4
          obtain ⟨x4, n4, c4, rfl, hn4, hcc4, ho4⟩ := ho4.shapeN
          have HX4 := Lib.hid (HX3A.out.grown hg4 (Row.Own.notBox HO3A.out HX3A.out (by decide)))
          have hx4 := HX4.out.cell
          have hx5 := HX4.out.frozen
          have HZ5 := Lib.hid (storeA HC0.out hgw hgp hwp hpw HO3A.out (HC3.out.on ((Below.refl _ _).alloc (Nat.le_refl _) _)) (HK3.out.trans (keep_alloc p w3 _)) (HR3.out.alloc _) hg4 ho4 HX4.out)
          have hn4' : n4 = n + 1 := by rw [hn4, List.length_append, HN.out]; rfl
          have HN4 := Lib.hid hn4
          have HNE := Lib.hid hn4'
          have hbk : bulk (m ++ [{ data := #[109] }]) ≤ 100 + 2 * (n + 1) := by
            rw [bulk_append, bulk_one]
            have : (ByteArray.mk #[109]).size = 1 := rfl
            omega
          clear ho4 hg4 hn4 hxc3 hn4'
          go_wp2_with fail
          go_roundw
          case rel => exact ⟨x4, n4, c4, _, by rw [HNE.out]; omega, by rw [HNE.out]; exact hbk, lenAt_of HZ5.out.2.2.2.2.cell, HN4, Lib.hid HZ5.out.2.2.2.1, Lib.hid HZ5.out.2.2.2.2, Lib.hid HZ5.out.1, Lib.hid HZ5.out.2.1, Lib.hid HZ5.out.2.2.1⟩
          case measure => rw [lenAt_of HZ5.out.2.2.2.2.cell, HLA.out, HNE.out]; omega
        · clear hxc3
          obtain ⟨hk8, hf8⟩ := HR3.out
          have hx8 := HX3.out.cell
          have HZ := Lib.hid (endA HC0.out hgw hwp HO3.out HC3.out HK3.out HR3.out)
          go_wp2_with fail
          refine bodyPost_ret (Ret.results_c rfl _ _ w.heap.size [_] rfl Row.aggN (Ret.one HZ.out.1)) rfl ?_
          exact ⟨_, rfl, ⟨_, _, rfl, HZ.out.2.1, by first | omega | (rw [bulk_append, bulk_one]; omega)⟩, HZ.out.2.2.1, HZ.out.2.2.2⟩
    · have h1b : ((r : Int) == 1) = false := beq_eq_false_iff_ne.2 (by omega)
      clear h0 h1
      obtain ⟨hk8, hf8⟩ := HR2.out
      have hx8 := HX2.out.cell
      have HZ := Lib.hid (endA HC0.out hgw hwp HO2.out HC2.out HK2.out HR2.out)
      go_wp2_with fail
      refine bodyPost_ret (Ret.results_c rfl _ _ w.heap.size [_] rfl Row.aggN (Ret.one HZ.out.1)) rfl ?_
      exact ⟨_, rfl, ⟨_, _, rfl, HZ.out.2.1, by omega⟩, HZ.out.2.2.1, HZ.out.2.2.2⟩
end Go.Proofs.YtfglcmanmfenpaaGreat.Draw
/- Plain mathematics of names and their texts, no program in sight: a text is split at its slashes; joined again it is the text; a joined list of parts without slashes is split into the parts; runes and bytes. No conditions. -/
namespace Go.Proofs.YtfglcmanmfenpaaGreat.Row
open Go.ChangeShapes Go.WideShapes Go.ChangeAt Go.RowKit Go.Instr
set_option linter.unusedVariables false
set_option maxRecDepth 100000
def bl (s : ByteArray) : List UInt8 := s.data.toList
def mk (l : List UInt8) : ByteArray := ⟨l.toArray⟩
theorem mk_bl (s : ByteArray) : mk (bl s) = s := by
  show ByteArray.mk (s.data.toList.toArray) = s
  rw [Array.toArray_toList]
theorem bl_mk (l : List UInt8) : bl (mk l) = l := by
  show (l.toArray).toList = l
  rfl
theorem bl_length (s : ByteArray) : (bl s).length = s.size := by
  show s.data.toList.length = s.data.size
  exact Array.length_toList
theorem bl_inj {a b : ByteArray} (h : bl a = bl b) : a = b := by rw [← mk_bl a, ← mk_bl b, h]
theorem bl_get (s : ByteArray) (i : Nat) (h : i < s.size) : (bl s)[i]'(by rw [bl_length]; exact h) = s[i]'h := by
  simp [bl]; rfl
theorem mk_size (l : List UInt8) : (mk l).size = l.length := by
  show l.toArray.size = l.length
  exact List.size_toArray
def goS (cur : List UInt8) : List UInt8 → List (List UInt8)
  | [] => [cur]
  | c :: t => if c = 47 then cur :: goS [] t else goS (cur ++ [c]) t
theorem goS_ne : ∀ (t cur : List UInt8), goS cur t ≠ []
  | [], cur => by simp [goS]
  | c :: t, cur => by
    unfold goS; split
    · simp
    · exact goS_ne t _
theorem goS_free : ∀ (p cur rest : List UInt8), (∀ c ∈ p, c ≠ 47) → goS cur (p ++ rest) = goS (cur ++ p) rest
  | [], cur, rest, _ => by simp
  | c :: p, cur, rest, h => by
    have hc := h c (by simp)
    rw [List.cons_append, goS, if_neg hc, goS_free p _ rest (fun d hd => h d (by simp [hd]))]
    simp
theorem join_cons2 (x y : List UInt8) (r : List (List UInt8)) : Lib.join (x :: y :: r) [47] = x ++ 47 :: Lib.join (y :: r) [47] := by
  rw [Lib.join_cons, Lib.join_cons]
  simp [Lib.joinTail]
theorem join_goS : ∀ (t cur : List UInt8), Lib.join (goS cur t) [47] = cur ++ t
  | [], cur => by simp [goS, Lib.join_one]
  | c :: t, cur => by
    unfold goS; split
    · rename_i h
      obtain ⟨y, r, hy⟩ : ∃ y r, goS [] t = y :: r := by
        cases hg : goS [] t with
        | nil => exact absurd hg (goS_ne t [])
        | cons y r => exact ⟨y, r, rfl⟩
      have := join_goS t []
      rw [hy] at this ⊢
      rw [join_cons2, this, h]; simp
    · rw [join_goS t]; simp
theorem goS_join : ∀ (P : List (List UInt8)), P ≠ [] → (∀ p ∈ P, ∀ c ∈ p, c ≠ 47) → goS [] (Lib.join P [47]) = P
  | [], h, _ => absurd rfl h
  | [x], _, hf => by
    have := goS_free x [] [] (hf x (by simp))
    rw [List.append_nil] at this
    rw [Lib.join_one, this]; simp [goS]
  | x :: y :: r, _, hf => by
    rw [join_cons2, goS_free x [] _ (hf x (by simp)), goS, if_pos rfl, goS_join (y :: r) (by simp) (fun p hp => hf p (by simp [hp]))]
    simp
def fmtL (l : List ByteArray) : List UInt8 := 47 :: Lib.join (l.map bl) [47]
def fmtS (l : List ByteArray) : ByteArray := mk (fmtL l)
def splitB (s : ByteArray) : List ByteArray := (goS [] (bl s)).map mk
def fullB (s : ByteArray) : Bool := decide (s.size ≠ 0)
def partsB (s : ByteArray) : List ByteArray := (splitB s).filter fullB
def pOk (s : ByteArray) : Bool := validN (partsB s) && decide (fmtS (partsB s) = s)
def pN (s : ByteArray) : List ByteArray := if pOk s = true then partsB s else []
theorem map_bl_mk (L : List (List UInt8)) : (L.map mk).map bl = L := by
  rw [List.map_map]
  have : (bl ∘ mk) = id := funext fun l => bl_mk l
  rw [this, List.map_id]
theorem map_mk_bl (L : List ByteArray) : (L.map bl).map mk = L := by
  rw [List.map_map]
  have : (mk ∘ bl) = id := funext fun l => mk_bl l
  rw [this, List.map_id]
theorem valid_free {p : ByteArray} (h : validP p = true) : ∀ c ∈ bl p, c ≠ 47 := by
  intro c hc e
  obtain ⟨i, hi, rfl⟩ := List.getElem_of_mem hc
  rw [bl_length] at hi
  have h1 := (validP_iff.1 h).2.2 i hi hi
  rw [bl_get p i hi] at e
  rw [e] at h1
  simp [okR] at h1
theorem valid_full {p : ByteArray} (h : validP p = true) : fullB p = true := by
  have := (validP_iff.1 h).1
  unfold fullB; exact decide_eq_true (by omega)
theorem filter_valid {l : List ByteArray} (h : validN l = true) : l.filter fullB = l := by
  rw [List.filter_eq_self]
  exact fun p hp => valid_full ((validN_iff.1 h).2 p hp)
theorem free_of_valid {l : List ByteArray} (h : validN l = true) : ∀ p ∈ l.map bl, ∀ c ∈ p, c ≠ 47 := by
  intro p hp
  obtain ⟨q, hq, rfl⟩ := List.mem_map.1 hp
  exact valid_free ((validN_iff.1 h).2 q hq)
theorem fmtS_nil : fmtS [] = mk [47] := by simp [fmtS, fmtL, Lib.join_nil]
theorem split_fmt {l : List ByteArray} (h : validN l = true) (hl : l ≠ []) : splitB (fmtS l) = mk [] :: l := by
  unfold splitB fmtS fmtL
  rw [bl_mk, goS, if_pos rfl, goS_join (l.map bl) (by simpa using hl) (free_of_valid h), List.map_cons, map_mk_bl]
theorem parts_fmt {l : List ByteArray} (h : validN l = true) : partsB (fmtS l) = l := by
  by_cases hl : l = []
  · subst hl
    rw [fmtS_nil]
    unfold partsB splitB
    rw [bl_mk]
    simp [goS, fullB, mk_size]
  · unfold partsB
    rw [split_fmt h hl, List.filter_cons_of_neg (by simp [fullB, mk_size]), filter_valid h]
theorem pOk_fmt {l : List ByteArray} (h : validN l = true) : pOk (fmtS l) = true := by
  unfold pOk; rw [parts_fmt h, h]; simp
theorem pN_fmt {l : List ByteArray} (h : validN l = true) : pN (fmtS l) = l := by
  unfold pN; rw [if_pos (pOk_fmt h), parts_fmt h]
theorem pOk_iff {s : ByteArray} : pOk s = true ↔ validN (partsB s) = true ∧ fmtS (partsB s) = s := by unfold pOk; simp
theorem pN_yes {s : ByteArray} (h : pOk s = true) : pN s = partsB s := if_pos h
theorem pN_no {s : ByteArray} (h : pOk s = false) : pN s = [] := if_neg (by simp [h])
theorem valid_pN (s : ByteArray) : validN (pN s) = true := by
  cases h : pOk s with
  | true => rw [pN_yes h]; exact (pOk_iff.1 h).1
  | false => rw [pN_no h]; decide
theorem pOk_slash : pOk (mk [47]) = true ∧ pN (mk [47]) = [] := by
  have h : validN [] = true := by decide
  rw [← fmtS_nil]
  exact ⟨pOk_fmt h, pN_fmt h⟩
theorem split_yes {s : ByteArray} {rest : List ByteArray} (h : splitB s = mk [] :: rest) (hr : rest ≠ []) (hv : validN rest = true) : pOk s = true ∧ pN s = rest := by
  have hs : fmtS rest = s := by
    apply bl_inj
    have h1 : goS [] (bl s) = [] :: rest.map bl := by
      have := congrArg (List.map bl) h
      unfold splitB at this
      rw [map_bl_mk, List.map_cons, bl_mk] at this
      exact this
    have h2 := join_goS (bl s) []
    rw [h1] at h2
    obtain ⟨y, r, rfl⟩ : ∃ y r, rest = y :: r := by
      cases rest with
      | nil => exact absurd rfl hr
      | cons y r => exact ⟨y, r, rfl⟩
    rw [List.map_cons, join_cons2, ← List.map_cons] at h2
    unfold fmtS fmtL
    rw [bl_mk]
    exact h2
  rw [← hs]
  exact ⟨pOk_fmt hv, pN_fmt hv⟩
theorem split_no {s : ByteArray} (h47 : s ≠ mk [47]) (h : ∀ rest, splitB s = mk [] :: rest → rest ≠ [] → validN rest = false) : pOk s = false := by
  cases hp : pOk s with
  | false => rfl
  | true =>
    obtain ⟨h1, h2⟩ := pOk_iff.1 hp
    by_cases he : partsB s = []
    · rw [he, fmtS_nil] at h2
      exact absurd h2.symm h47
    · have h3 := split_fmt h1 he
      rw [h2] at h3
      have h4 := h _ h3 he
      rw [h1] at h4; cases h4
def seg (s : ByteArray) (f i : Nat) : List UInt8 := ((bl s).drop f).take (i - f)
def rest (s : ByteArray) (i : Nat) : List UInt8 := (bl s).drop i
theorem rest_end (s : ByteArray) : rest s s.size = [] := by unfold rest; rw [← bl_length]; simp
theorem rest_cons (s : ByteArray) {i : Nat} (h : i < s.size) : rest s i = s[i]'h :: rest s (i + 1) := by
  unfold rest
  rw [List.drop_eq_getElem_cons (by rw [bl_length]; exact h), bl_get s i h]
theorem seg_self (s : ByteArray) (i : Nat) : seg s i i = [] := by simp [seg]
theorem seg_succ (s : ByteArray) {f i : Nat} (hf : f ≤ i) (h : i < s.size) : seg s f (i + 1) = seg s f i ++ [s[i]'h] := by
  unfold seg
  have e : i + 1 - f = (i - f) + 1 := by omega
  rw [e, List.take_add_one, List.getElem?_drop, show f + (i - f) = i by omega, List.getElem?_eq_getElem (by rw [bl_length]; exact h), bl_get s i h]
  rfl
theorem seg_length (s : ByteArray) {f i : Nat} (hf : f ≤ i) (h : i ≤ s.size) : (seg s f i).length = i - f := by
  unfold seg; rw [List.length_take, List.length_drop, bl_length]; omega
theorem extract_seg (s : ByteArray) (f i : Nat) : s.extract f i = mk (seg s f i) := by
  conv => lhs; rw [← mk_bl s]
  exact ByteArray.extract_mk (bl s) f i
theorem goS_slash (s : ByteArray) {f i : Nat} (h : i < s.size) (hc : s[i]'h = 47) : goS (seg s f i) (rest s i) = seg s f i :: goS (seg s (i + 1) (i + 1)) (rest s (i + 1)) := by
  rw [rest_cons s h, goS, if_pos hc, seg_self]
theorem goS_byte (s : ByteArray) {f i : Nat} (hf : f ≤ i) (h : i < s.size) (hc : s[i]'h ≠ 47) : goS (seg s f i) (rest s i) = goS (seg s f (i + 1)) (rest s (i + 1)) := by
  rw [rest_cons s h, goS, if_neg hc, seg_succ s hf h]
theorem goS_end (s : ByteArray) (f : Nat) : goS (seg s f s.size) (rest s s.size) = [seg s f s.size] := by rw [rest_end]; rfl
theorem goS_bytes (s : ByteArray) {f i : Nat} (hf : f ≤ i) : ∀ m, (hm : i + m ≤ s.size) → (∀ j (hj : j < m), s[i + j]'(by omega) ≠ 47) → goS (seg s f i) (rest s i) = goS (seg s f (i + m)) (rest s (i + m))
  | 0, _, _ => rfl
  | m + 1, hm, hc => by
    rw [goS_bytes s hf m (by omega) (fun j hj => hc j (by omega)), goS_byte s (by omega) (by omega) (hc m (by omega))]
    rfl
end Go.Proofs.YtfglcmanmfenpaaGreat.Row
/- Contracts of the functions that split a text at its slashes, the program's (without the empty pieces, rune by rune) and the reference model's (all pieces, byte by byte). No conditions but that lengths fit. -/
namespace Go.Proofs.YtfglcmanmfenpaaGreat.Row
open Go.ChangeShapes Go.WideShapes Go.ChangeAt Go.RowKit Go.Instr
set_option linter.unusedVariables false
set_option maxRecDepth 100000
theorem natne {a b : Nat} (h : a ≠ b) : ((a : Int) == (b : Int)) = false := beq_eq_false_iff_ne.2 (by omega)
theorem nat47 {x : Nat} (h : x ≠ 47) : ((x : Int) == 47) = false := beq_eq_false_iff_ne.2 (by omega)
theorem byte47 {c : UInt8} : c = 47 ↔ c.toNat = 47 := by
  constructor
  · rintro rfl; rfl
  · intro h; apply UInt8.toNat_inj.1; rw [h]; rfl
def SpI (s : ByteArray) (k f : Nat) (L : List ByteArray) : Prop :=
  (k ≤ s.size → splitB s = L ++ (goS (seg s f k) (rest s k)).map mk) ∧ (k = s.size + 1 → splitB s = L)
theorem SpI.start (s : ByteArray) : SpI s 0 0 [] := ⟨fun _ => by unfold splitB; rw [seg_self]; rfl, fun h => by omega⟩
theorem SpI.cut {s : ByteArray} {k f : Nat} {L : List ByteArray} (h : SpI s k f L) (hk : k ≤ s.size) (hf : f ≤ k) (hc : ∀ h : k < s.size, s[k]'h = 47) : SpI s (k + 1) (k + 1) (L ++ [s.extract f k]) := by
  have h1 := h.1 hk
  by_cases hl : k < s.size
  · rw [goS_slash s hl (hc hl)] at h1
    refine ⟨fun _ => ?_, fun e => by omega⟩
    rw [h1, extract_seg]; simp
  · obtain rfl : k = s.size := by omega
    rw [goS_end] at h1
    refine ⟨fun e => by omega, fun _ => ?_⟩
    rw [h1, extract_seg]; simp
theorem SpI.on {s : ByteArray} {k f : Nat} {L : List ByteArray} (h : SpI s k f L) (hf : f ≤ k) (hl : k < s.size) (hc : s[k]'hl ≠ 47) : SpI s (k + 1) f L := by
  have h1 := h.1 (by omega)
  rw [goS_byte s hf hl hc] at h1
  exact ⟨fun _ => h1, fun e => by omega⟩
set_option maxHeartbeats 2000000 in
theorem l4Split (s : ByteArray) (w : World) (hs : s.size ≤ 10000000) :
    Calls Tryz.prog 103 #[.string s, .int .u8 47] w (GivesS w (splitB s)) := by
  have H0 := Lib.hid (own_empty Value.string 9 w)
  have B0 := Lib.hid ((Below.refl w.heap.size w).alloc (Nat.le_refl _) (.cells #[] 9))
  go_enter Tryz.func103, Tryz.ntmps103
  go_wp2_with fail
  go_loopw [5, 6, 7] (fun rv fv iv wr => ∃ (k f m : Nat) (L : List ByteArray), k ≤ s.size + 1 ∧ f ≤ k ∧ m ≤ k ∧ iv = .int .i64 k ∧ fv = .int .i64 f ∧ Hid (L.length = m) ∧ Hid (Own 9 Value.string w.heap.size wr rv L) ∧ Hid (Below w.heap.size w wr) ∧ Hid (SpI s k f L)) (fun _ _ iv _ => s.size + 1 - (intOf iv).toNat)
  case atStart => exact ⟨0, 0, 0, [], by omega, Nat.le_refl _, Nat.le_refl _, rfl, rfl, Lib.hid rfl, H0, B0, Lib.hid (SpI.start s)⟩
  case round =>
    obtain ⟨k, f, m, L, hk, hf, hm, rfl, rfl, hL, ho, hb, hI⟩ := hrel
    by_cases hle : k ≤ s.size
    · by_cases hcut : ∀ h : k < s.size, s[k]'h = 47
      · have HI2 := Lib.hid (hI.out.cut hle hf hcut)
        have HO := Lib.hid (ho.out.on ((Below.refl _ _).alloc (Nat.le_refl _) (.cells #[.string (s.extract f k)] 9)))
        have HL2 := Lib.hid (show (L ++ [s.extract f k]).length = m + 1 by rw [List.length_append, hL.out]; rfl)
        have hlm : (L.length + [s.extract f k].length) * 16 ≤ 140737488355328 := by rw [hL.out]; simp; omega
        have hlx : L.length + [s.extract f k].length ≤ maxLen := by rw [hL.out]; unfold maxLen; simp; omega
        have HLM := Lib.hid hlm; have HLX := Lib.hid hlx
        clear hlm hlx
        by_cases hlt : k < s.size
        · have hne : ((k : Int) == (s.size : Int)) = false := natne (Nat.ne_of_lt hlt)
          have hb47 : (((s[k]'hlt).toNat : Int) == 47) = true := by
            have := byte47.1 (hcut hlt)
            rw [this]; rfl
          clear hcut
          go_wp2_with (at_builtin; refine wpList_app (enc := Value.string) (B := w.heap.size) (l := L) (m := [s.extract f k]) rfl _ _ rfl Tryz.underlying27 elemSTR rfl rfl rfl HO.out (holds_one Value.string 9 _ _) oneStr HLM.out HLX.out (Nat.le_trans hb.out.size (by simp)) ?_)
          intro v2 w2 ho2 hg2
          have HO2 := Lib.hid ho2
          have HB2 := Lib.hid ((hb.out.alloc hb.out.size (.cells #[.string (s.extract f k)] 9)).grown hg2 (Nat.le_trans hb.out.size (by simp)) (fun g hh => (HO.out.lt g hh).1))
          clear ho2 hg2
          go_wp2_with fail
          go_roundw
          case rel => exact ⟨k + 1, k + 1, m + 1, _, by omega, Nat.le_refl _, by omega, by go_num, by go_num, HL2, HO2, HB2, HI2⟩
          case measure => simp [intOf]; omega
        · obtain rfl : k = s.size := by omega
          clear hcut
          go_wp2_with (at_builtin; refine wpList_app (enc := Value.string) (B := w.heap.size) (l := L) (m := [s.extract f s.size]) rfl _ _ rfl Tryz.underlying27 elemSTR rfl rfl rfl HO.out (holds_one Value.string 9 _ _) oneStr HLM.out HLX.out (Nat.le_trans hb.out.size (by simp)) ?_)
          intro v2 w2 ho2 hg2
          have HO2 := Lib.hid ho2
          have HB2 := Lib.hid ((hb.out.alloc hb.out.size (.cells #[.string (s.extract f s.size)] 9)).grown hg2 (Nat.le_trans hb.out.size (by simp)) (fun g hh => (HO.out.lt g hh).1))
          clear ho2 hg2
          go_wp2_with fail
          go_roundw
          case rel => exact ⟨s.size + 1, s.size + 1, m + 1, _, by omega, Nat.le_refl _, by omega, by go_num, by go_num, HL2, HO2, HB2, HI2⟩
          case measure => simp [intOf]
      · have hlt : k < s.size := by
          by_cases h : k < s.size
          · exact h
          · exact absurd (fun h2 => absurd h2 h) hcut
        have hc : s[k]'hlt ≠ 47 := fun e => hcut (fun _ => e)
        have HI2 := Lib.hid (hI.out.on hf hlt hc)
        have hne : ((k : Int) == (s.size : Int)) = false := natne (Nat.ne_of_lt hlt)
        have hb47 : (((s[k]'hlt).toNat : Int) == 47) = false := nat47 (fun e => hc (byte47.2 e))
        clear hcut hc
        go_wp2_with fail
        go_roundw
        case rel => exact ⟨k + 1, f, m, L, by omega, by omega, by omega, by go_num, rfl, hL, ho, hb, HI2⟩
        case measure => simp [intOf]; omega
    · obtain rfl : k = s.size + 1 := by omega
      have HE := Lib.hid (hI.out.2 rfl)
      clear hle
      go_wp2_with fail
      go_ret
      exact ⟨_, rfl, by rw [HE.out]; exact ho.out, hb.out⟩
def SpN (s : ByteArray) (k f : Nat) (L : List ByteArray) : Prop :=
  (k ≤ s.size → partsB s = L ++ ((goS (seg s f k) (rest s k)).map mk).filter fullB) ∧ (k = s.size + 1 → partsB s = L)
theorem SpN.start (s : ByteArray) : SpN s 0 0 [] := ⟨fun _ => by unfold partsB splitB; rw [seg_self]; rfl, fun h => by omega⟩
theorem seg_full {s : ByteArray} {f k : Nat} (hf : f ≤ k) (hk : k ≤ s.size) : fullB (mk (seg s f k)) = decide (f < k) := by
  unfold fullB
  rw [mk_size, seg_length s hf hk]
  congr 1
  apply propext; omega
theorem SpN.cut {s : ByteArray} {k f : Nat} {L : List ByteArray} (h : SpN s k f L) (hk : k ≤ s.size) (hf : f ≤ k) (hc : ∀ h : k < s.size, s[k]'h = 47) : SpN s (k + 1) (k + 1) (if f < k then L ++ [s.extract f k] else L) := by
  have h1 := h.1 hk
  have hfull := seg_full (s := s) hf hk
  by_cases hl : k < s.size
  · rw [goS_slash s hl (hc hl), List.map_cons, List.filter_cons, hfull] at h1
    refine ⟨fun _ => ?_, fun e => by omega⟩
    rw [h1, extract_seg]
    by_cases hfk : f < k
    · simp [hfk]
    · simp [hfk]
  · obtain rfl : k = s.size := by omega
    rw [goS_end, List.map_cons, List.filter_cons, hfull] at h1
    refine ⟨fun e => by omega, fun _ => ?_⟩
    rw [h1, extract_seg]
    by_cases hfk : f < s.size
    · simp [hfk]
    · simp [hfk]
theorem SpN.on {s : ByteArray} {k f : Nat} {L : List ByteArray} (h : SpN s k f L) (hf : f ≤ k) {m : Nat} (h0 : 1 ≤ m) (hm : k + m ≤ s.size) (hc : ∀ j (hj : j < m), s[k + j]'(by omega) ≠ 47) : SpN s (k + m) f L := by
  have h1 := h.1 (by omega)
  rw [goS_bytes s hf m hm hc] at h1
  exact ⟨fun _ => h1, fun e => by omega⟩
end Go.Proofs.YtfglcmanmfenpaaGreat.Row
/- Contracts of ParseName, the program's and the reference model's. No conditions but that lengths fit. -/
namespace Go.Proofs.YtfglcmanmfenpaaGreat.Row
open Go.ChangeShapes Go.WideShapes Go.ChangeAt Go.RowKit Go.Instr
set_option linter.unusedVariables false
set_option maxRecDepth 100000
theorem bulk_goS : ∀ (t cur : List UInt8), bulk ((goS cur t).map mk) = cur.length + t.length + 1
  | [], cur => by simp [goS, bulk_one, mk_size]; omega
  | c :: t, cur => by
    unfold goS
    split
    · rw [List.map_cons, bulk_cons, bulk_goS t, mk_size]; simp; omega
    · rw [bulk_goS t]; simp; omega
theorem bulk_split (s : ByteArray) : bulk (splitB s) = s.size + 1 := by
  unfold splitB; rw [bulk_goS, bl_length]; simp
theorem split_pos (s : ByteArray) : 0 < (splitB s).length := by
  unfold splitB; rw [List.length_map]
  exact List.length_pos_iff.2 (goS_ne _ _)
theorem tl47 : (mk [47]).toList = [47] := ByteArray.toList_mk [47]
theorem tl0 : (mk []).toList = [] := ByteArray.toList_mk []
set_option maxHeartbeats 2000000 in
theorem specParseName (s : ByteArray) (w : World) (hs : s.size ≤ 10000000) :
    Calls Tryz.prog 98 #[.string s] w (GivesHB w (pN s) (pOk s)) := by
  have HB0 := Lib.hid ((Below.refl w.heap.size w).alloc (Nat.le_refl _) (.cells #[.slice none 0 0] 29))
  have HR := Lib.hid (Ret.NC.new' (w := w) (.slice none 0 0) 29 rfl)
  by_cases h47 : s = mk [47]
  · obtain ⟨p1, p2⟩ := pOk_slash
    rw [← h47] at p1 p2
    have HP := Lib.hid p1; have HPN := Lib.hid p2
    have hq : (s.toList == [47]) = true := by rw [h47, tl47]; rfl
    clear p1 p2 h47
    go_enter Tryz.func98, Tryz.ntmps98
    go_wp2
    refine bodyPost_ret (Ret.results_ct rfl _ _ w.heap.size [_] rfl aggN (Ret.one HR.out.1)) rfl ?_
    exact ⟨_, ret_nb HP.out.symm, by rw [HPN.out]; exact Holds.nil _ _, HB0.out⟩
  · have h47l : s.toList ≠ [47] := fun e => h47 (toList_inj (e.trans tl47.symm))
    have hq : (s.toList == [47]) = false := by simpa using h47l
    have H47 := Lib.hid h47
    have hpos := split_pos s
    have hbk := bulk_split s
    have hlb := bulk_len (splitB s)
    obtain ⟨n, hn⟩ : ∃ n, n = (splitB s).length := ⟨_, rfl⟩
    rw [← hn] at hpos hlb
    have hnb : n ≤ 10000001 := by omega
    have HN := Lib.hid hn
    have HBK := Lib.hid hbk
    clear h47 h47l hn hbk hlb
    go_enter Tryz.func98, Tryz.ntmps98
    go_wp2_with fail
    refine (l4Split s _ hs).mono ?_
    rintro e w1 ⟨v1, rfl, ho1, hb1⟩
    have HB1 := Lib.hid (HB0.out.trans (hb1.mono HB0.out.size))
    have HR1 := Lib.hid (HR.out.on hb1)
    obtain ⟨g, c1, rfl, hg1, hg2, hc1⟩ : ∃ g c1, v1 = .slice (some ⟨g, 0, none⟩) n c1 ∧ w.heap.size + 1 ≤ g ∧ g < w1.heap.size ∧ n ≤ c1 := by
      rcases ho1.form with ⟨_, h2⟩ | ⟨g, c1, h1, h2, h3, h4, h5⟩
      · exact absurd (congrArg List.length h2) (by rw [← HN.out]; simp; omega)
      · exact ⟨g, c1, by rw [h1, HN.out], by simpa using h2, h3, by rw [HN.out]; exact h4⟩
    have HH1 := Lib.hid ho1.holds
    clear ho1 hb1
    by_cases h2 : n = 1
    · subst h2
      have HP := Lib.hid (split_no H47.out (fun rest h hr => by
        have h3 := HN.out
        rw [h] at h3
        simp at h3
        exact absurd h3 hr))
      have HPN := Lib.hid (pN_no HP.out)
      by_cases hc : c1 = 1
      · subst hc
        obtain ⟨hk2, hf2⟩ := HR1.out.alloc (.cells #[.slice (some ⟨g, 0, none⟩) 0 0] 29)
        obtain ⟨q1, q2, q3⟩ := endN (w := w) (g := w.heap.size) (B := w.heap.size + 1) (v := .slice none 0 0) (l := []) (by omega) (by omega) (Own.nil _ _ _ _) hk2 (HB1.out.alloc HB1.out.size (.cells #[.slice (some ⟨g, 0, none⟩) 0 0] 29))
        have HQ1 := Lib.hid q1; have HQ2 := Lib.hid q2; have HQ3 := Lib.hid q3
        clear q1 q2 q3
        go_wp2
        refine bodyPost_ret (Ret.results_ct rfl _ _ w.heap.size [_] rfl aggN (Ret.one HQ1.out)) rfl ?_
        exact ⟨_, ret_nb HP.out.symm, by rw [HPN.out]; exact HQ2.out.holds, HQ3.out⟩
      · have hc2 : ¬ c1 - 1 = 0 := by omega
        obtain ⟨hk2, hf2⟩ := HR1.out.alloc (.cells #[.slice (some ⟨g, 1, none⟩) 0 (c1 - 1)] 29)
        obtain ⟨q1, q2, q3⟩ := endN (w := w) (g := w.heap.size) (B := w.heap.size + 1) (v := .slice none 0 0) (l := []) (by omega) (by omega) (Own.nil _ _ _ _) hk2 (HB1.out.alloc HB1.out.size (.cells #[.slice (some ⟨g, 1, none⟩) 0 (c1 - 1)] 29))
        have HQ1 := Lib.hid q1; have HQ2 := Lib.hid q2; have HQ3 := Lib.hid q3
        clear q1 q2 q3
        go_wp2
        refine bodyPost_ret (Ret.results_ct rfl _ _ w.heap.size [_] rfl aggN (Ret.one HQ1.out)) rfl ?_
        exact ⟨_, ret_nb HP.out.symm, by rw [HPN.out]; exact HQ2.out.holds, HQ3.out⟩
    · have hn2 : 2 ≤ n := by omega
      have hn3 : decide ((n : Int) < 2) = false := by simp; omega
      have hc2 : ¬ c1 = 1 := by omega
      obtain ⟨b0, off0, he0, hcell⟩ := HH1.out.at (j := 0) (by rw [← HN.out]; omega)
      cases he0
      have HD := Lib.hid ((HH1.out.drop (j := 1) (by rw [← HN.out]; omega)).on ((Below.refl _ _).alloc (Nat.le_refl _) (.cells #[.slice (some ⟨g, 1, none⟩) (n - 1) (c1 - 1)] 29)))
      have HL := Lib.hid (show splitB s = nth (splitB s) 0 :: (splitB s).drop 1 by
        have := drop_nth (l := splitB s) (k := 0) (by rw [← HN.out]; omega)
        rw [List.drop_zero] at this
        exact this)
      have HDN := Lib.hid (show (splitB s).drop 1 ≠ [] by
        intro e
        have := congrArg List.length e
        rw [List.length_drop, ← HN.out] at this
        simp at this; omega)
      have HBD := Lib.hid (show bulk ((splitB s).drop 1) ≤ 100000000 by
        have h3 := HBK.out
        rw [HL.out, bulk_cons] at h3
        omega)
      have HR2 := Lib.hid (HR1.out.alloc (.cells #[.slice (some ⟨g, 1, none⟩) (n - 1) (c1 - 1)] 29))
      have HT2 := Lib.hid (Ret.NC.new' (w := w1) (.slice (some ⟨g, 1, none⟩) (n - 1) (c1 - 1)) 29 rfl)
      have HB2 := Lib.hid (HB1.out.alloc HB1.out.size (.cells #[.slice (some ⟨g, 1, none⟩) (n - 1) (c1 - 1)] 29))
      rw [Nat.add_zero] at hcell
      by_cases hx : nth (splitB s) 0 = mk []
      · have hxe : (nth (splitB s) 0).toList.isEmpty = true := by rw [hx, tl0]; rfl
        have HX := Lib.hid hx
        clear hx
        go_wp2_with fail
        refine (specValidName _ _ _ HD.out HBD.out).mono ?_
        rintro e w3 ⟨rfl, hb3⟩
        have HR3 := Lib.hid (HR2.out.on hb3)
        have HT3 := Lib.hid (HT2.out.on hb3)
        have HD3 := Lib.hid (HD.out.on hb3)
        have HB3 := Lib.hid (HB2.out.trans (hb3.mono HB2.out.size))
        clear hb3
        cases hv : validN ((splitB s).drop 1) with
        | true =>
          obtain ⟨p1, p2⟩ := split_yes (by have := HL.out; rw [HX.out] at this; exact this) HDN.out hv
          have HP := Lib.hid p1; have HPN := Lib.hid p2
          obtain ⟨hk2, hf2⟩ := HR3.out
          obtain ⟨hk3, -⟩ := HT3.out
          have HQ1 := Lib.hid (Ret.set_same (v := .slice (some ⟨g, 1, none⟩) (n - 1) (c1 - 1)) hk2)
          have HQ2 := Lib.hid (HD3.out.grown (Ret.grownBy_set w3 ⟨w.heap.size, 0, none⟩ (.slice (some ⟨g, 1, none⟩) (n - 1) (c1 - 1))) (fun g1 h1 e1 => by simp [Value.ownBlock] at h1 e1; omega))
          have HQ3 := Lib.hid (HB3.out.setCell (p := ⟨w.heap.size, 0, none⟩) (Nat.le_refl _) (.slice (some ⟨g, 1, none⟩) (n - 1) (c1 - 1)))
          clear p1 p2 hv
          go_wp2
          refine bodyPost_ret (Ret.results_ct rfl _ _ w.heap.size [_] rfl aggN (Ret.one HQ1.out)) rfl ?_
          exact ⟨_, ret_nb HP.out.symm, by rw [HPN.out]; exact HQ2.out, HQ3.out⟩
        | false =>
          have HP := Lib.hid (split_no H47.out (fun rest h hr => by
            have h3 := HL.out
            rw [h] at h3
            have h4 := (List.cons.inj h3).2
            rw [h4, ← h]; exact hv))
          have HPN := Lib.hid (pN_no HP.out)
          obtain ⟨hk2, hf2⟩ := HR3.out
          obtain ⟨q1, q2, q3⟩ := endN (w := w) (g := w.heap.size) (B := w.heap.size + 1) (v := .slice none 0 0) (l := []) (by omega) (by omega) (Own.nil _ _ _ _) hk2 HB3.out
          have HQ1 := Lib.hid q1; have HQ2 := Lib.hid q2; have HQ3 := Lib.hid q3
          clear q1 q2 q3 hv
          go_wp2
          refine bodyPost_ret (Ret.results_ct rfl _ _ w.heap.size [_] rfl aggN (Ret.one HQ1.out)) rfl ?_
          exact ⟨_, ret_nb HP.out.symm, by rw [HPN.out]; exact HQ2.out.holds, HQ3.out⟩
      · have hxe : (nth (splitB s) 0).toList.isEmpty = false := by
          have : (nth (splitB s) 0).toList ≠ [] := fun e => hx (toList_inj (e.trans tl0.symm))
          simpa using this
        have HP := Lib.hid (split_no H47.out (fun rest h hr => by
          have h3 := HL.out
          rw [h] at h3
          exact absurd (by rw [h]; exact (List.cons.inj h3).1.symm) hx))
        have HPN := Lib.hid (pN_no HP.out)
        clear hx
        obtain ⟨hk2, hf2⟩ := HR2.out
        obtain ⟨q1, q2, q3⟩ := endN (w := w) (g := w.heap.size) (B := w.heap.size + 1) (v := .slice none 0 0) (l := []) (by omega) (by omega) (Own.nil _ _ _ _) hk2 HB2.out
        have HQ1 := Lib.hid q1; have HQ2 := Lib.hid q2; have HQ3 := Lib.hid q3
        clear q1 q2 q3
        go_wp2
        refine bodyPost_ret (Ret.results_ct rfl _ _ w.heap.size [_] rfl aggN (Ret.one HQ1.out)) rfl ?_
        exact ⟨_, ret_nb HP.out.symm, by rw [HPN.out]; exact HQ2.out.holds, HQ3.out⟩
end Go.Proofs.YtfglcmanmfenpaaGreat.Row
/- Helpers for the model's draws of structs of names: slices of texts that lie in blocks which hold texts alone (holdS_set, holdS_keep), names out of texts. What was in memory stays as it was, but for the cursor. -/
namespace Go.Proofs.YtfglcmanmfenpaaGreat.Draw
open Go.ChangeShapes Go.WideShapes Go.ChangeAt Go.RowKit Go.Instr
open Go.Proofs.YtfglcmanmfenpaaGreat.Row (bulk bulk_append bulk_one bulk_nil bulk_cons)
open Go.Proofs.YtfglcmanmfenpaaGreat.Ret (NC Blk Box)
set_option linter.unusedVariables false
set_option maxRecDepth 100000
theorem Cur.setI {w0 : World} {p : Nat} {v : Value} {l : List UInt8} {w : World} (hc : Cur w0 p v l w) {g : Nat} (i : Nat) (hg : w0.heap.size ≤ g) (hp : g ≠ p) (u : Value) : Cur w0 p v l (w.setCell ⟨g, i, none⟩ u) :=
  hc.grown (Ret.grownBy_set w ⟨g, i, none⟩ u) (fun q hq => by
    have : q = g := by simpa using hq.symm
    exact ⟨by omega, by omega⟩)
theorem Keep.setI {p : Nat} {w w1 : World} (hk : Keep p w w1) {g : Nat} (i : Nat) (hg : w.heap.size ≤ g) (u : Value) : Keep p w (w1.setCell ⟨g, i, none⟩ u) :=
  hk.grown (Ret.grownBy_set w1 ⟨g, i, none⟩ u) (fun q hq => by
    have : q = g := by simpa using hq.symm
    omega)
theorem blk_keep {w w' : World} {g p : Nat} {cs : Array Value} {t : TypeId} (h : Blk w g cs t) (hk : Keep p w w') (hne : g ≠ p) : Blk w' g cs t := (hk.block g h.lt hne).trans h
theorem own_ne_blk {α : Type} [Inhabited α] {enc : α → Value} {e t : TypeId} {B g : Nat} {w : World} {v : Value} {l : List α} {cs : Array Value} (h : Row.Own e enc B w v l) (hb : Blk w g cs t) (hne : e ≠ t) : ∀ q, v.ownBlock = some q → q ≠ g := by
  intro q hq e1
  subst e1
  rcases h.2 with h2 | ⟨g2, cap, cur, hv, hg, hh, r⟩
  · rw [h2.1] at hq; cases hq
  · rw [hv] at hq
    obtain rfl : g2 = q := Option.some.inj hq
    have h3 : w.heap[g2]? = some (.cells cs t) := hb
    rw [hh] at h3
    have h4 := Option.some.inj h3
    injection h4 with h5 h6 h7
    exact hne h6
theorem rown_setT {α : Type} [Inhabited α] {enc : α → Value} {e t : TypeId} {B g i : Nat} {w : World} {v u : Value} {l : List α} {cs : Array Value} (h : Row.Own e enc B w v l) (hb : Blk w g cs t) (hne : e ≠ t) : Row.Own e enc B (w.setCell ⟨g, i, none⟩ u) v l :=
  h.grown (Ret.grownBy_set w ⟨g, i, none⟩ u) (by
    cases hv : v.ownBlock with
    | none => exact Or.inl rfl
    | some q => exact Or.inr fun e => own_ne_blk h hb hne q hv (Option.some.inj e))
def NoStr (cs : Array Value) : Prop := ∀ (i : Nat) (s : ByteArray), cs[i]? ≠ some (.string s)
theorem noStr1 (x : Option Addr) (n c : Nat) : NoStr #[.slice x n c] := fun i s h => by
  rcases i with _ | i
  · cases h
  · simp at h
theorem holdS_ne {w : World} {x : Option Addr} {n c g : Nat} {l : List ByteArray} {cs : Array Value} {t : TypeId} (h : Row.Holds Value.string w (.slice x n c) l) (hb : Blk w g cs t) (hn : NoStr cs) : l = [] ∨ ∀ q, (Value.slice x n c).ownBlock = some q → q ≠ g := by
  obtain ⟨x', cap, hv, hc, hh⟩ := h
  cases hv
  rcases hh with h1 | ⟨b, off, rfl, h2⟩
  · exact Or.inl h1
  · by_cases hl : l = []
    · exact Or.inl hl
    · refine Or.inr fun q hq e => ?_
      have h0 : 0 < l.length := List.length_pos_iff.2 hl
      have h3 := h2 0 h0
      have h4 : b = q := by simpa [Value.ownBlock] using hq
      subst h4
      subst e
      rw [hb.cell] at h3
      exact hn _ _ h3
theorem holdS_set {w : World} {x : Option Addr} {n c g i : Nat} {l : List ByteArray} {cs : Array Value} {t : TypeId} {u : Value} (h : Row.Holds Value.string w (.slice x n c) l) (hb : Blk w g cs t) (hn : NoStr cs) : Row.Holds Value.string (w.setCell ⟨g, i, none⟩ u) (.slice x n c) l := by
  have h9 := holdS_ne h hb hn
  obtain ⟨x', cap, hv, hc, hh⟩ := h
  cases hv
  refine ⟨x, _, rfl, hc, ?_⟩
  rcases h9 with h9 | h9
  · exact Or.inl h9
  rcases hh with h1 | ⟨b, off, rfl, h2⟩
  · exact Or.inl h1
  · refine Or.inr ⟨b, off, rfl, fun j hj => ?_⟩
    have h3 : b ≠ g := h9 b rfl
    exact (World.cell?_of_block (w := w) (Go.RowKit.Below.heap_setCell _ _ _ _ h3)).trans (h2 j hj)
theorem holdS_keep {w0 : World} {p : Nat} {v : Value} {l0 : List UInt8} {w w' : World} {x : Option Addr} {n c : Nat} {l : List ByteArray} (h : Row.Holds Value.string w (.slice x n c) l) (hc : Cur w0 p v l0 w) (hk : Keep p w w') : Row.Holds Value.string w' (.slice x n c) l := by
  obtain ⟨i, k, h0, h1, hrow⟩ := hc.row
  obtain ⟨bx, bn, bv⟩ := bytes_at hc.bytes
  obtain ⟨x', cap, hv, hcap, hh⟩ := h
  cases hv
  refine ⟨x, _, rfl, hcap, ?_⟩
  rcases hh with h2 | ⟨b, off, rfl, h2⟩
  · exact Or.inl h2
  by_cases hl : l = []
  · exact Or.inl hl
  · refine Or.inr ⟨b, off, rfl, fun j hj => hk.cell (h2 j hj) ?_⟩
    intro e
    have e2 : b = p := e
    subst e2
    have h3 := h2 0 (List.length_pos_iff.2 hl)
    have h4 : Blk w b _ _ := hrow
    rw [h4.cell] at h3
    obtain ⟨rfl, -⟩ := bv
    obtain ⟨m, hm⟩ : ∃ m, m = off + 0 := ⟨_, rfl⟩
    rw [← hm] at h3
    clear hm
    rcases m with _ | _ | _ | m
    · cases h3
    · cases h3
    · cases h3
    · simp at h3
set_option maxHeartbeats 1000000 in
theorem l4OfO (s : ByteArray) (w : World) (hs : s.size ≤ 10000000) :
    Calls Tryz.prog 87 #[.string s] w fun e w' => ∃ u, e = .returned (.agg #[u]) ∧ Row.Holds Value.string w' u (Row.pN s) ∧ Below w.heap.size w w' := by
  have HB0 := Lib.hid ((Below.refl w.heap.size w).alloc (Nat.le_refl _) (.cells #[.slice none 0 0] 29))
  have HX0 := Lib.hid (Box.new w (.slice none 0 0) 29)
  have HP := Lib.hid (Row.specParseName s (w.alloc (.cells #[.slice none 0 0] 29)) hs)
  go_enter Tryz.func87, Tryz.ntmps87
  go_wp2_with fail
  refine HP.out.mono ?_
  rintro e w1 ⟨u, rfl, ho, hb⟩
  obtain ⟨x, n, c, rfl, -, -, ho⟩ := ho.shapeN
  have ha := (Below.refl w1.heap.size w1).alloc (Nat.le_refl _) (.cells #[.slice x n c] 29)
  have HX1 := Lib.hid ((HX0.out.on hb).on ha)
  have HO1 := Lib.hid (ho.on ha)
  have hq := (Box.new w1 (.slice x n c) 29).cell
  have hz := HX1.out.cell
  have hf := HX1.out.frozen
  have HBF := Lib.hid ((HB0.out.trans (hb.mono HB0.out.size)).trans (ha.mono (Nat.le_trans HB0.out.size hb.size)))
  have HW := Lib.hid (HBF.out.grown (Ret.grownBy_set _ ⟨w.heap.size, 0, none⟩ (.slice x n c)) HBF.out.size (fun g hg => by cases hg; exact Nat.le_refl _))
  have HH := Lib.hid (holdS_set (i := 0) (u := .slice x n c) HO1.out HX1.out (noStr1 _ _ _))
  have HC := Lib.hid (Ret.set_same (v := .slice x n c) HX1.out.cell)
  clear ha ho hb
  go_wp2_with fail
  refine bodyPost_ret (Ret.results_c rfl _ _ w.heap.size [_] rfl Row.aggN (Ret.one HC.out)) rfl ?_
  exact ⟨_, rfl, HH.out, HW.out⟩
end Go.Proofs.YtfglcmanmfenpaaGreat.Draw
/- Names that lie in blocks of texts: what keeps them; the reference model's ParseName and l4Of in these words. No conditions but that lengths fit. -/
namespace Go.Proofs.YtfglcmanmfenpaaGreat.Row
open Go.ChangeShapes Go.WideShapes Go.ChangeAt Go.RowKit Go.Instr
set_option linter.unusedVariables false
set_option maxRecDepth 100000
def TY (w : World) (g : Nat) : Prop := ∃ cur, w.heap[g]? = some (.cells cur 9 (0, 0))
theorem TY.lt {w : World} {g : Nat} (h : TY w g) : g < w.heap.size := by
  obtain ⟨cur, h⟩ := h
  exact (Array.getElem?_eq_some_iff.1 h).1
theorem TY.on {w w' : World} {g : Nat} (h : TY w g) (hb : Below w.heap.size w w') : TY w' g := by
  have hl := h.lt
  obtain ⟨cur, h⟩ := h
  exact ⟨cur, (hb.block g hl).trans h⟩
theorem TY.set {w : World} {g b i : Nat} {u : Value} (h : TY w g) (hne : b ≠ g) : TY (w.setCell ⟨b, i, none⟩ u) g := by
  obtain ⟨cur, h⟩ := h
  exact ⟨cur, (Go.RowKit.Below.heap_setCell w ⟨b, i, none⟩ u g (fun e => hne e.symm)).trans h⟩
def HB (B : Nat) (w : World) (v : Value) (l : List ByteArray) : Prop := Holds Value.string w v l ∧ ∀ b off n c, v = .slice (some ⟨b, off, none⟩) n c → B ≤ b ∧ TY w b
section
variable {B : Nat} {w w' : World} {v : Value} {l : List ByteArray}
theorem HB.holds (h : HB B w v l) : Holds Value.string w v l := h.1
theorem HB.nil (B : Nat) (w : World) : HB B w (.slice none 0 0) [] := ⟨Holds.nil _ _, fun b off n c e => by cases e⟩
theorem HB.of (h : Own 9 Value.string B w v l) : HB B w v l := ⟨h.holds, fun b off n c e => by
  rcases h.2 with ⟨h2, _⟩ | ⟨g, cap, cur, hv, hB, hc, _⟩
  · rw [h2] at e; cases e
  · rw [hv] at e
    cases e
    exact ⟨hB, cur, hc⟩⟩
theorem HB.mono (h : HB B w v l) {B' : Nat} (hB : B' ≤ B) : HB B' w v l := ⟨h.1, fun b off n c e => ⟨Nat.le_trans hB (h.2 b off n c e).1, (h.2 b off n c e).2⟩⟩
theorem HB.on (h : HB B w v l) (hb : Below w.heap.size w w') : HB B w' v l := ⟨h.1.on hb, fun b off n c e => ⟨(h.2 b off n c e).1, (h.2 b off n c e).2.on hb⟩⟩
theorem HB.same (h : HB B w v l) (hg : ∀ g, B ≤ g → TY w g → w'.heap[g]? = w.heap[g]?) : HB B w' v l := by
  have hty := h.2
  obtain ⟨x, cap, hv, hc, hh⟩ := h.1
  refine ⟨⟨x, cap, hv, hc, ?_⟩, fun b off n c e => ?_⟩
  · rcases hh with h0 | ⟨b, off, rfl, hcell⟩
    · exact Or.inl h0
    · refine Or.inr ⟨b, off, rfl, fun j hj => ?_⟩
      obtain ⟨h1, h2⟩ := hty b off _ _ hv
      rw [World.cell?_of_block (w := w) (hg b h1 h2)]
      exact hcell j hj
  · obtain ⟨h1, h2⟩ := hty b off n c e
    refine ⟨h1, ?_⟩
    have := hg b h1 h2
    obtain ⟨cur, h2⟩ := h2
    exact ⟨cur, this.trans h2⟩
theorem HB.setT (h : HB B w v l) {g i : Nat} {cs : Array Value} {t : TypeId} {u : Value} (hb : Ret.Blk w g cs t) (hne : t ≠ 9) : HB B (w.setCell ⟨g, i, none⟩ u) v l :=
  h.same fun q _ ⟨cur, hq⟩ => Go.RowKit.Below.heap_setCell w ⟨g, i, none⟩ u q (fun e => by
    have e1 : q = g := e
    rw [e1, show w.heap[g]? = some (.cells cs t) from hb] at hq
    cases hq
    exact hne rfl)
theorem HB.shapeN (h : HB B w v l) : ∃ x n cap, v = .slice x n cap ∧ n = l.length ∧ HB B w (.slice x n cap) l := by
  obtain ⟨x, n, cap, rfl, hn, -, -⟩ := h.1.shapeN
  exact ⟨x, n, cap, rfl, hn, h⟩
end
def GivesN9 (w : World) (l : List ByteArray) (b : Bool) (e : Ending) (w' : World) : Prop := ∃ v, e = .returned (.tuple #[.agg #[v], .bool b]) ∧ HB w.heap.size w' v l ∧ Below w.heap.size w w'
end Go.Proofs.YtfglcmanmfenpaaGreat.Row
