/- Contracts and mathematics, joined: DrawAny, DrawB, NameMath, Split, Shelf, Form. No conditions but those that each states. -/
import Derived.Test.YtnblopilgfdjkaaGreatB10
import Derived.Test.YtnblopilgfdjkaaGreatB1
import Derived.Deep.RegionLaw
import Derived.Test.YtnblopilgfdjkaaGreatB2
import Derived.Test.YtnblopilgfdjkaaGreatB3
import Derived.Lib.Join
import Derived.Lib.OthersKept
import Derived.Shelf.Strings.Builder1
import Derived.Shelf.Strings.Builder2
import Derived.Shelf.Strings.OnBuilder
import Derived.Ground.Names2Prog
import Derived.Shelf.Slices.Clone
import Derived.Ground.SlgnProg
import Derived.Shelf.SlicesE.Clone
import Derived.Test.YtnblopilgfdjkaaGreatProg
/- Contracts of the reference model's draws of names that may be wrong: what is drawn lies in memory of the call's own; all else but the cursor is as it was. -/
namespace Go.Proofs.YtnblopilgfdjkaaGreat.Draw
open Go.ChangeShapes Go.WideShapes Go.ChangeAt Go.RowKit Go.Instr
open Go.Proofs.YtnblopilgfdjkaaGreat.Row (bulk bulk_append bulk_one bulk_nil elemSTR oneStr)
open Go.Proofs.YtnblopilgfdjkaaGreat.Ret (NC)
set_option linter.unusedVariables false
set_option maxRecDepth 100000

/-- append to a slice of strings of the call's own, as a step of a statement that draws its order. -/
theorem step_app {P : Program} {ops : Array Oper} {o : Oper} {a : Act} {w : World} {K : Act → World → Prop} {Q : Exit → Act → World → Prop} {E : Prop} {α : Type} [Inhabited α] {enc : α → Value} {e t : TypeId} {bytes : Nat} {z : Value}
    (hg : o.guard = none) (s x : Operand) (hop : o.op = Op.call { callee := Callee.builtin Builtin.append, args := #[s, x], argTypes := #[t, t] }) (ht : P.underlying t = some (.slice e)) (hi : Row.Elem P e z bytes) (hz : z.cells.size = 1)
    {B : Nat} {v : Value} {ad : Addr} {n c : Nat} {l m : List α} (hs : a.eval s = v) (hx : a.eval x = .slice (some ad) n c) (hown : Row.Own e enc B w v l) (hsrc : Row.Holds enc w (.slice (some ad) n c) m) (h1c : ∀ x, (enc x).oneCell' = true) (hlen : (l.length + m.length) * bytes ≤ 140737488355328) (hmx : l.length + m.length ≤ maxLen) (hB : B ≤ w.heap.size)
    (hK : ∀ v' w', Row.Own e enc B w' v' (l ++ m) → w.grownBy w' v.ownBlock → K (a.put o.dst v') w') :
    if Region.wanted o (yielded ops a.tmps) = true then Oper.wp P o a w K Q else E := by
  have hw : Region.wanted o (yielded ops a.tmps) = true := by simp [Region.wanted, hg]
  rw [if_pos hw]
  obtain ⟨i, h1, h2, h3, h4⟩ := info_parts hi
  obtain rfl := hsrc.lenEq
  obtain ⟨v', w', hrun, r1, r2, _⟩ := run_append_own (P := P) w B t o.type e i z 1 bytes ht h1 h2 h3 h4 hz (by decide) v l.length (l.map enc) hown ad m.length c (m.map enc) (by simp) hsrc.cells (Row.oneCell h1c m) hmx hlen hB
  unfold Oper.wp
  simp [execOp, hop, resolve, invoke, builtin, hs, hx, hrun, Result.andThen]
  refine hK v' w' ?_ r2
  unfold Row.Own
  rw [List.length_append, List.map_append]; exact r1

/-- The length of the slice that lies in block g. -/
def lenAt (w : World) (g : Nat) : Nat := match w.cell? ⟨g, 0, none⟩ with
  | some (.slice _ n _) => n
  | _ => 0
theorem lenAt_of {w : World} {g : Nat} {x : Option Addr} {n c : Nat} (h : w.cell? ⟨g, 0, none⟩ = some (.slice x n c)) : lenAt w g = n := by simp [lenAt, h]

theorem box_keep {w w' : World} {g p : Nat} {u : Value} {t : TypeId} (h : Ret.Box w g u t) (hk : Keep p w w') (hne : g ≠ p) : Ret.Box w' g u t := (hk.block g h.lt hne).trans h
/-- The last store of a draw that gives a name. -/
theorem endA {w0 : World} {p : Nat} {v : Value} {l : List UInt8} {w W : World} {g : Nat} {s : Value} {m : List ByteArray} (hc0 : Cur w0 p v l w) (hgw : w.heap.size < g) (hwp : w.heap.size ≠ p)
    (ho : Row.Own 9 Value.string (w.heap.size + 1) W s m) (hc : Cur w0 p v l W) (hk : Keep p w W) (hr : NC W w.heap.size (.slice none 0 0)) :
    (W.setCell ⟨w.heap.size, 0, none⟩ s).cell? ⟨w.heap.size, 0, none⟩ = some s ∧ Row.Own 9 Value.string w.heap.size (W.setCell ⟨w.heap.size, 0, none⟩ s) s m ∧ Cur w0 p v l (W.setCell ⟨w.heap.size, 0, none⟩ s) ∧ Keep p w (W.setCell ⟨w.heap.size, 0, none⟩ s) :=
  ⟨Ret.set_same hr.1, (ho.grown (Ret.grownBy_set W ⟨w.heap.size, 0, none⟩ s) (Row.nb ho (b := w.heap.size) (by omega))).mono (by omega), hc.set hc0.below.size hwp _, hk.set (Nat.le_refl _) _⟩

/-- Behind an append whose slice is stored back into the variable g. -/
theorem storeA {w0 : World} {p : Nat} {v : Value} {l : List UInt8} {w w3 w4 : World} {g : Nat} {s s4 u : Value} {m m4 : List ByteArray} (hc0 : Cur w0 p v l w) (hgw : w.heap.size < g) (hgp : g ≠ p) (hwp : w.heap.size ≠ p) (hpw : p < w.heap.size + 1)
    (ho3 : Row.Own 9 Value.string (w.heap.size + 1) w3 s m) (hc : Cur w0 p v l w3) (hk : Keep p w w3) (hr : NC w3 w.heap.size (.slice none 0 0)) (hg : w3.grownBy w4 s.ownBlock) (ho : Row.Own 9 Value.string (w.heap.size + 1) w4 s4 m4) (hx : Ret.Box w4 g u 27) :
    Row.Own 9 Value.string (w.heap.size + 1) (w4.setCell ⟨g, 0, none⟩ s4) s4 m4 ∧ Cur w0 p v l (w4.setCell ⟨g, 0, none⟩ s4) ∧ Keep p w (w4.setCell ⟨g, 0, none⟩ s4) ∧ NC (w4.setCell ⟨g, 0, none⟩ s4) w.heap.size (.slice none 0 0) ∧ Ret.Box (w4.setCell ⟨g, 0, none⟩ s4) g s4 27 := by
  have hlt := fun q hq => (ho3.lt q hq).1
  have h0 := hc0.below.size
  refine ⟨ho.grown (Ret.grownBy_set w4 ⟨g, 0, none⟩ s4) (Or.inr fun e => Row.Own.notBox ho hx (by decide) e.symm), (hc.grown hg (fun q hq => ⟨by have := hlt q hq; omega, by have := hlt q hq; omega⟩)).set (by omega) hgp _, (hk.grown hg (fun q hq => by have := hlt q hq; omega)).set (by omega) _, ?_, hx.set s4⟩
  exact (hr.grown hg (fun e => by have := hlt _ e.symm; omega)).other (a := ⟨g, 0, none⟩) (by show g ≠ w.heap.size; omega) _

set_option maxRecDepth 100000 in
set_option maxHeartbeats 4000000 in
theorem l4Any (w0 : World) (p : Nat) (v : Value) (l : List UInt8) (w : World) (hc : Cur w0 p v l w) :
    Calls Tryz.prog 32 #[.pointer (some ⟨p, 0, none⟩)] w (DrawnW w0 p v l w (NameIn w.heap.size 1000)) := by
  have hpl := hc.lt
  have HB := Lib.hid (l4Name w0 p v l _ (hc.alloc (.cells #[.slice none 0 0] 27)))
  have HK0 := Lib.hid (keep_alloc p w (.cells #[.slice none 0 0] 27))
  have HR0 := Lib.hid (NC.new' (w := w) (.slice none 0 0) 27 rfl)
  have HC0 := Lib.hid hc
  have hwp : w.heap.size ≠ p := by omega
  clear hc
  go_enter Tryz.func32, Tryz.ntmps32
  go_wp2_with fail
  refine HB.out.mono ?_
  rintro e w1 ⟨y, rfl, ⟨u, m, rfl, ho, hm⟩, hc1, hk1⟩
  obtain ⟨x, n, c, rfl, hn, hcap, ho⟩ := ho.shapeN
  have hz1 := hk1.size
  simp only [World.size_alloc] at hz1 ho
  have hal : Below w1.heap.size w1 (w1.alloc (.cells #[.slice x n c] 27)) := (Below.refl _ _).alloc (Nat.le_refl _) _
  have HC1 := Lib.hid (hc1.on hal)
  have HK1 := Lib.hid ((HK0.out.trans hk1).trans (Keep.of_below (p := p) hal))
  have HR1 := Lib.hid ((NC.keep HR0.out hk1 hwp).on hal)
  have HX1 := Lib.hid (Ret.Box.new' (w := w1) (.slice x n c) 27 rfl)
  have HO1 := Lib.hid (ho.on hal)
  have hb := below w0 p v l _ 8 HC1.out
  have HB2 := Lib.hid hb
  obtain ⟨g, hg⟩ : ∃ g, g = w1.heap.size := ⟨_, rfl⟩
  have hgp : g ≠ p := by have := hc1.lt; omega
  have hgw : w.heap.size < g := by omega
  have hpw : p < w.heap.size + 1 := by omega
  have hnm : n ≤ 100 := by have := Row.bigLen hm; omega
  have HN := Lib.hid hn
  clear hc1 hk1 ho hal hb HB hn
  go_wp2_with fail
  rw [← hg] at HX1 ⊢
  refine HB2.out.mono ?_
  rintro e w2 ⟨y, rfl, ⟨r, rfl, hr, _⟩, hc2, hk2⟩
  have hr := hr (by omega)
  obtain ⟨r, rfl⟩ := Int.eq_ofNat_of_zero_le hr.1
  have HC2 := Lib.hid hc2
  have HK2 := Lib.hid (HK1.out.trans hk2)
  have HR2 := Lib.hid (NC.keep HR1.out hk2 hwp)
  have HX2 := Lib.hid (box_keep HX1.out hk2 hgp)
  have HO2 := Lib.hid (rown_keep HO1.out hk2 hpw)
  clear hc2 hk2 HB2 HC1 HK1 HR1 HX1 HO1 hg
  by_cases h0 : r = 0
  · subst h0
    have hx2 := HX2.out.cell
    have hx3 := HX2.out.frozen
    have hal : Below w2.heap.size w2 (w2.alloc (.cells #[.string { data := #[] }, .string { data := #[65] }, .string { data := #[116, 111, 111, 108, 111, 110, 103, 120, 120] }, .string { data := #[97, 47, 98] }, .string { data := #[32] }, .string { data := #[101, 105, 103, 104, 116, 56, 56, 56] }] 9)).drew := ((Below.refl _ _).alloc (Nat.le_refl _) _).drew
    have HCA := Lib.hid (HC2.out.on hal)
    have HKA := Lib.hid (HK2.out.trans (Keep.of_below (p := p) hal))
    have HRA := Lib.hid (HR2.out.on hal)
    have HXA := Lib.hid (HX2.out.on hal)
    have HOA := Lib.hid (HO2.out.on hal)
    have hxA : (w2.alloc (.cells #[.string { data := #[] }, .string { data := #[65] }, .string { data := #[116, 111, 111, 108, 111, 110, 103, 120, 120] }, .string { data := #[97, 47, 98] }, .string { data := #[32] }, .string { data := #[101, 105, 103, 104, 116, 56, 56, 56] }] 9)).cell? ⟨g, 0, none⟩ = some (.slice x n c) := HXA.out.cell
    have hpr := HC2.out.lt
    have HLM := Lib.hid (show (m.length + 1) * 16 ≤ 140737488355328 by rw [← HN.out]; omega)
    have HLX := Lib.hid (show m.length + 1 ≤ maxLen by rw [← HN.out]; unfold maxLen; omega)
    clear hal
    go_wp2_with fail
    go_region_law (first | (refine step_app (enc := Value.string) (B := w.heap.size + 1) (l := m) (m := [t3]) rfl _ _ (by rfl) Tryz.underlying25 elemSTR rfl (by rfl) (by rfl) HO3A.out (Row.holds_one Value.string 9 w3 t3) oneStr HLM.out HLX.out hB3 ?_; intro v4 w4 ho4 hg4; obtain ⟨x4, n4, c4, rfl, hn4, hcc4, ho4⟩ := ho4.shapeN; have HO4 := Lib.hid ho4; have HG4 := Lib.hid hg4; have HX4 := Lib.hid ((HX3.out.on ((Below.refl _ _).alloc (Nat.le_refl _) (.cells #[.string t3] 9))).grown hg4 (Row.Own.notBox HO3A.out (HX3.out.on ((Below.refl _ _).alloc (Nat.le_refl _) (.cells #[.string t3] 9))) (by decide))); have hx4 := HX4.out.cell; have hx5 := HX4.out.frozen; clear ho4 hg4 hn4) | (go_simp; go_at_call 31; refine (strAt w0 p v l (w2.alloc (.cells #[.string { data := #[] }, .string { data := #[65] }, .string { data := #[116, 111, 111, 108, 111, 110, 103, 120, 120] }, .string { data := #[97, 47, 98] }, .string { data := #[32] }, .string { data := #[101, 105, 103, 104, 116, 56, 56, 56] }] 9)).drew HCA.out w2.heap.size (by omega) [{ data := #[] }, { data := #[65] }, { data := #[116, 111, 111, 108, 111, 110, 103, 120, 120] }, { data := #[97, 47, 98] }, { data := #[32] }, { data := #[101, 105, 103, 104, 116, 56, 56, 56] }] 6 rfl (by decide) (by decide) 20 (by decide) (fun j h => lits_at rfl rfl j h)).mono ?_; rintro e w3 ⟨y3, rfl, ⟨t3, rfl, ht3⟩, hc3, hk3⟩; have HC3 := Lib.hid hc3; have HK3 := Lib.hid (HKA.out.trans hk3); have HR3 := Lib.hid (NC.keep HRA.out hk3 hwp); have HX3 := Lib.hid (box_keep HXA.out hk3 hgp); have HO3 := Lib.hid (rown_keep HOA.out hk3 hpw); have HO3A := Lib.hid (HO3.out.on ((Below.refl _ _).alloc (Nat.le_refl _) (.cells #[.string t3] 9))); have hxc3 := HX3.out.cell; have hxa3 := (HX3.out.on ((Below.refl _ _).alloc (Nat.le_refl _) (.cells #[.string t3] 9))).cell; have hB3 : w.heap.size + 1 ≤ (w3.alloc (.cells #[.string t3] 9)).heap.size := (by have := HX3.out.lt; simp; omega); clear hc3 hk3))
    all_goals
      have HZ5 := Lib.hid (storeA HC0.out hgw hgp hwp hpw HO3A.out (HC3.out.on ((Below.refl _ _).alloc (Nat.le_refl _) _)) (HK3.out.trans (keep_alloc p w3 _)) (HR3.out.alloc _) HG4.out HO4.out HX4.out)
      have HO5 := Lib.hid HZ5.out.1
      have HC5 := Lib.hid HZ5.out.2.1
      have HK5 := Lib.hid HZ5.out.2.2.1
      have HR5 := Lib.hid HZ5.out.2.2.2.1
      have HX5 := Lib.hid HZ5.out.2.2.2.2
      clear hx2 hx3 hxA hxc3 hxa3 hx4 hx5 HZ5
      obtain ⟨hk8, hf8⟩ := HR5.out
      have hx8 := HX5.out.cell
      have HZ := Lib.hid (endA HC0.out hgw hwp HO5.out HC5.out HK5.out HR5.out)
      go_wp2_with fail
      refine bodyPost_ret (Ret.results_c rfl _ _ w.heap.size [_] rfl Row.aggN (Ret.one HZ.out.1)) rfl ?_
      exact ⟨_, rfl, ⟨_, _, rfl, HZ.out.2.1, by first | omega | (rw [bulk_append, bulk_one]; omega)⟩, HZ.out.2.2.1, HZ.out.2.2.2⟩
  · have h0b : ((r : Int) == 0) = false := by simpa using h0
    by_cases h1 : r = 1
    · subst h1
      have hx2 := HX2.out.cell
      have hbn : bulk m ≤ 100 + 2 * n := by omega
      have hnm2 : n ≤ 107 := by omega
      have HI := Lib.hid HX2.out.cell
      clear hx2 hm hnm
      go_wp2_with fail
      go_loopw [] (fun wr => ∃ (x : Option Addr) (n c : Nat) (m : List ByteArray), n ≤ 107 ∧ bulk m ≤ 100 + 2 * n ∧ lenAt wr g = n ∧ Hid (n = m.length) ∧ Hid (NC wr w.heap.size (.slice none 0 0)) ∧ Hid (Ret.Box wr g (.slice x n c) 27) ∧ Hid (Row.Own 9 Value.string (w.heap.size + 1) wr (.slice x n c) m) ∧ Hid (Cur w0 p v l wr) ∧ Hid (Keep p w wr)) (fun wr => 200 - lenAt wr g)
      case atStart => exact ⟨x, n, c, m, hnm2, hbn, lenAt_of HI.out, HN, HR2, HX2, HO2, HC2, HK2⟩
      case round =>
        obtain ⟨x, n, c, m, hn7, hbn, hla, HN, HR, HX, HO, HC, HK⟩ := hrel
        have HLA := Lib.hid hla
        have hx := HX.out.cell
        have hdr : Below wr.heap.size wr wr.drew := (Below.refl _ _).drew
        have HCD := Lib.hid (HC.out.on hdr)
        have HKD := Lib.hid (HK.out.trans (Keep.of_below (p := p) hdr))
        have HRD := Lib.hid (HR.out.on hdr)
        have HXD := Lib.hid (HX.out.on hdr)
        have HOD := Lib.hid (HO.out.on hdr)
        clear hla hdr
        go_wp2_with fail
        go_region_held3 (fun w' => w'.cell? ⟨g, 0, none⟩ = some (.slice x n c)) (first | exact HXD.out.cell | exact hxc3) ((go_at_call 34; refine (below w0 p v l wr.drew 3 HCD.out).mono ?_; rintro e w3 ⟨y, rfl, ⟨q, rfl, hq, hq2⟩, hc3, hk3⟩; have hxc3 := (box_keep HXD.out hk3 hgp).cell))
        have hq := hq (by omega)
        have HC3 := Lib.hid hc3
        have HK3 := Lib.hid (HKD.out.trans hk3)
        have HR3 := Lib.hid (NC.keep HRD.out hk3 hwp)
        have HX3 := Lib.hid (box_keep HXD.out hk3 hgp)
        have HO3 := Lib.hid (rown_keep HOD.out hk3 hpw)
        have hwq : IntKind.i64.wrap (5 + q) = 5 + q := by rw [IntKind.wrap_i64]; omega
        obtain ⟨q0, q1⟩ := hq
        clear hc3 hk3 hq2 hx
        rw [hwq]
        clear hwq
        by_cases hlt : (n : Int) < 5 + q
        · have HO3A := Lib.hid (HO3.out.on ((Below.refl _ _).alloc (Nat.le_refl _) (.cells #[.string { data := #[109] }] 9)))
          have HX3A := Lib.hid (HX3.out.on ((Below.refl _ _).alloc (Nat.le_refl _) (.cells #[.string { data := #[109] }] 9)))
          have HLM := Lib.hid (show (m.length + ([{ data := #[109] }] : List ByteArray).length) * 16 ≤ 140737488355328 by rw [← HN.out]; simp; omega)
          have HLX := Lib.hid (show m.length + ([{ data := #[109] }] : List ByteArray).length ≤ maxLen by rw [← HN.out]; unfold maxLen; simp; omega)
          have hB3 : w.heap.size + 1 ≤ (w3.alloc (.cells #[.string { data := #[109] }] 9)).heap.size := by have := HX3.out.lt; simp; omega
          go_wp2_with (at_builtin; refine Row.wpList_app (enc := Value.string) (B := w.heap.size + 1) (l := m) (m := [{ data := #[109] }]) rfl _ _ rfl Tryz.underlying25 elemSTR rfl rfl rfl HO3A.out (Row.holds_one Value.string 9 w3 _) oneStr HLM.out HLX.out hB3 ?_)
          intro v4 w4 ho4 hg4
          obtain ⟨x4, n4, c4, rfl, hn4, hcc4, ho4⟩ := ho4.shapeN
          have HX4 := Lib.hid (HX3A.out.grown hg4 (Row.Own.notBox HO3A.out HX3A.out (by decide)))
          have hx4 := HX4.out.cell
          have hx5 := HX4.out.frozen
          have HZ5 := Lib.hid (storeA HC0.out hgw hgp hwp hpw HO3A.out (HC3.out.on ((Below.refl _ _).alloc (Nat.le_refl _) _)) (HK3.out.trans (keep_alloc p w3 _)) (HR3.out.alloc _) hg4 ho4 HX4.out)
          have hn4' : n4 = n + 1 := by rw [hn4, List.length_append, HN.out]; rfl
          have HN4 := Lib.hid hn4
          have HNE := Lib.hid hn4'
          have hbk : bulk (m ++ [{ data := #[109] }]) ≤ 100 + 2 * (n + 1) := by
            rw [bulk_append, bulk_one]
            have : (ByteArray.mk #[109]).size = 1 := rfl
            omega
          clear ho4 hg4 hn4 hxc3 hn4'
          go_wp2_with fail
          go_roundw
          case rel => exact ⟨x4, n4, c4, _, by rw [HNE.out]; omega, by rw [HNE.out]; exact hbk, lenAt_of HZ5.out.2.2.2.2.cell, HN4, Lib.hid HZ5.out.2.2.2.1, Lib.hid HZ5.out.2.2.2.2, Lib.hid HZ5.out.1, Lib.hid HZ5.out.2.1, Lib.hid HZ5.out.2.2.1⟩
          case measure => rw [lenAt_of HZ5.out.2.2.2.2.cell, HLA.out, HNE.out]; omega
        · clear hxc3
          obtain ⟨hk8, hf8⟩ := HR3.out
          have hx8 := HX3.out.cell
          have HZ := Lib.hid (endA HC0.out hgw hwp HO3.out HC3.out HK3.out HR3.out)
          go_wp2_with fail
          refine bodyPost_ret (Ret.results_c rfl _ _ w.heap.size [_] rfl Row.aggN (Ret.one HZ.out.1)) rfl ?_
          exact ⟨_, rfl, ⟨_, _, rfl, HZ.out.2.1, by first | omega | (rw [bulk_append, bulk_one]; omega)⟩, HZ.out.2.2.1, HZ.out.2.2.2⟩
    · have h1b : ((r : Int) == 1) = false := beq_eq_false_iff_ne.2 (by omega)
      clear h0 h1
      obtain ⟨hk8, hf8⟩ := HR2.out
      have hx8 := HX2.out.cell
      have HZ := Lib.hid (endA HC0.out hgw hwp HO2.out HC2.out HK2.out HR2.out)
      go_wp2_with fail
      refine bodyPost_ret (Ret.results_c rfl _ _ w.heap.size [_] rfl Row.aggN (Ret.one HZ.out.1)) rfl ?_
      exact ⟨_, rfl, ⟨_, _, rfl, HZ.out.2.1, by omega⟩, HZ.out.2.2.1, HZ.out.2.2.2⟩

end Go.Proofs.YtnblopilgfdjkaaGreat.Draw
/- Contracts of the reference model's draws of byte slices and of slices of integers: what is drawn lies in memory of the call's own; all else but the cursor is as it was. -/
namespace Go.Proofs.YtnblopilgfdjkaaGreat.Draw
open Go.ChangeShapes Go.WideShapes Go.ChangeAt Go.RowKit Go.Instr
open Sl (Holds Own Byt nth wpList_app holds_one own_empty elemBYTE elemINT)
set_option linter.unusedVariables false
set_option maxRecDepth 100000

theorem own_keep {e : TypeId} {k : IntKind} {B p : Nat} {w w' : World} {x : Value} {m : List Int} (h : Own e k B w x m) (hk : Keep p w w') (hp : p < B) : Own e k B w' x m := by
  refine ⟨h.1, ?_⟩
  rcases h.2 with h2 | ⟨g, cap, cur, hv, hg, hh, r⟩
  · exact Or.inl h2
  · exact Or.inr ⟨g, cap, cur, hv, hg, by rw [hk.block g (Array.getElem?_eq_some_iff.1 hh).1 (by omega)]; exact hh, r⟩
theorem byt_nil : Byt [] := fun x hx => by simp at hx
theorem byt_app {a b : List Int} (h : Byt a) (k : Byt b) : Byt (a ++ b) := fun x hx => by
  rcases List.mem_append.1 hx with h1 | h1
  · exact h x h1
  · exact k x h1
theorem byt_one {x : Int} (h0 : 0 ≤ x) (h1 : x ≤ 255) : Byt [x] := fun y hy => by
  obtain rfl : y = x := by simpa using hy
  exact ⟨h0, h1⟩
/-- A slice of bytes of the call's own, so long at most. -/
def BytesIn (B a b : Nat) (x : Value) (w : World) : Prop := ∃ m, Own 5 .u8 B w x m ∧ Byt m ∧ a ≤ m.length ∧ m.length ≤ b

set_option maxHeartbeats 1000000 in
theorem bytes (w0 : World) (p : Nat) (v : Value) (l : List UInt8) (w : World) (n : Nat) (hn : n ≤ 100000) (hc : Cur w0 p v l w) :
    Calls Tryz.prog 33 #[.pointer (some ⟨p, 0, none⟩), .int .i64 n] w (DrawnW w0 p v l w (BytesIn w.heap.size n n)) := by
  have hpl := hc.lt
  have HC := Lib.hid hc
  have H0 := Lib.hid (own_empty .u8 5 w)
  have C0 := Lib.hid (And.intro (hc.alloc (.cells #[] 5)) (keep_alloc p w (.cells #[] 5)))
  clear hc
  go_enter Tryz.func33, Tryz.ntmps33
  go_wp2_with fail
  go_loopw [5, 6] (fun ov iv wr => ∃ (k : Nat) (m : List Int), k ≤ n ∧ iv = .int .i64 k ∧ m.length = k ∧ Hid (Byt m) ∧ Hid (Own 5 .u8 w.heap.size wr ov m) ∧ Hid (Cur w0 p v l wr ∧ Keep p w wr)) (fun _ iv _ => n - (intOf iv).toNat)
  case atStart => exact ⟨0, [], Nat.zero_le _, rfl, rfl, Lib.hid byt_nil, H0, C0⟩
  case round =>
    obtain ⟨k, m, hk, rfl, hm, hB, ho, hcu⟩ := hrel
    have HM := Lib.hid hm; clear hm
    by_cases hlt : k < n
    · have hb := byte w0 p v l wr hcu.out.1
      have HB := Lib.hid hb; clear hb
      go_wp2_with fail
      refine HB.out.mono ?_
      rintro e w1 ⟨y, rfl, ⟨a, rfl, a0, a1⟩, hc1, hk1⟩
      have O1 := Lib.hid (own_keep ho.out hk1 hpl)
      have C1 := Lib.hid (And.intro hc1 (hcu.out.2.trans hk1))
      clear hc1 hk1
      go_wp2_with (at_builtin; refine wpList_app (k := .u8) (B := w.heap.size) (l := m) (m := [a]) rfl _ _ rfl Tryz.underlying22 elemBYTE rfl rfl rfl (O1.out.on ((Below.refl _ _).alloc (Nat.le_refl _) _)) (holds_one .u8 _ _ _) ?_ (by decide) ?_ ?_)
      · have := HM.out; simp; omega
      · have := C1.out.2.size; simp; omega
      intro v2 w2 ho2 hg
      have hlt2 := fun g hh => (O1.out.lt g hh).1
      have hc2 := (C1.out.1.alloc (.cells #[.int .u8 a] 5)).grown hg (fun g hh => ⟨by have := hlt2 g hh; have := HC.out.below.size; omega, by have := hlt2 g hh; omega⟩)
      have hk2 := (C1.out.2.trans (keep_alloc p w1 (.cells #[.int .u8 a] 5))).grown hg hlt2
      have HO2 := Lib.hid ho2; have C2 := Lib.hid (And.intro hc2 hk2)
      clear ho2 hg hc2 hk2 hlt2
      go_wp2_with fail
      go_roundw
      case rel => exact ⟨k + 1, m ++ [a], by omega, by go_num, by rw [List.length_append, HM.out]; rfl, Lib.hid (byt_app hB.out (byt_one a0 a1)), HO2, C2⟩
      case measure => simp [intOf]; omega
    · obtain rfl : k = n := by omega
      clear hlt
      go_wp2_with fail
      go_ret
      exact ⟨_, rfl, ⟨m, ho.out, hB.out, by rw [HM.out]; omega, by rw [HM.out]; omega⟩, hcu.out.1, hcu.out.2⟩

/-- A slice of integers of the call's own. -/
def IntsIn (B b : Nat) (x : Value) (w : World) : Prop := ∃ m, Own 3 .i64 B w x m ∧ (∀ y ∈ m, (Lit.int .i64 y).wf = true) ∧ m.length ≤ b

theorem intLit2 (w0 : World) (p : Nat) (v : Value) (l : List UInt8) (w : World) (hc : Cur w0 p v l w) (xs : List Int) (C : Array Value) (hC : C = (xs.map (Value.int .i64)).toArray) (n : Nat) (hn : xs.length = n) (hx : 0 < n) (hbig : n < 1000) (a b : Int) (hab : ∀ x ∈ xs, a ≤ x ∧ x ≤ b) :
    Calls Tryz.prog 35 #[.pointer (some ⟨p, 0, none⟩), .slice (some ⟨w.heap.size, 0, none⟩) n n] (w.alloc (.cells C 3)) (Drawn w0 p v l w (IntIn a b)) :=
  intLit w0 p v l w hc xs C hC n hn hx hbig (IntIn a b) (fun x hx => ⟨x, rfl, hab x hx⟩)

end Go.Proofs.YtnblopilgfdjkaaGreat.Draw
/- Plain mathematics of names and their texts, no program in sight: a text is split at its slashes; joined again it is the text; a joined list of parts without slashes is split into the parts; runes and bytes. No conditions. -/
namespace Go.Proofs.YtnblopilgfdjkaaGreat.Row
open Go.ChangeShapes Go.WideShapes Go.ChangeAt Go.RowKit Go.Instr
set_option linter.unusedVariables false
set_option maxRecDepth 100000

def bl (s : ByteArray) : List UInt8 := s.data.toList
def mk (l : List UInt8) : ByteArray := ⟨l.toArray⟩
theorem mk_bl (s : ByteArray) : mk (bl s) = s := by
  show ByteArray.mk (s.data.toList.toArray) = s
  rw [Array.toArray_toList]
theorem bl_mk (l : List UInt8) : bl (mk l) = l := by
  show (l.toArray).toList = l
  rfl
theorem bl_length (s : ByteArray) : (bl s).length = s.size := by
  show s.data.toList.length = s.data.size
  exact Array.length_toList
theorem bl_inj {a b : ByteArray} (h : bl a = bl b) : a = b := by rw [← mk_bl a, ← mk_bl b, h]
theorem bl_get (s : ByteArray) (i : Nat) (h : i < s.size) : (bl s)[i]'(by rw [bl_length]; exact h) = s[i]'h := by
  simp [bl]; rfl
theorem bl_append (a b : ByteArray) : bl (a ++ b) = bl a ++ bl b := by
  unfold bl
  simp only [ByteArray.data_append, Array.toList_append]
theorem mk_append (a b : List UInt8) : mk a ++ mk b = mk (a ++ b) := by apply bl_inj; rw [bl_append, bl_mk, bl_mk, bl_mk]
theorem mk_size (l : List UInt8) : (mk l).size = l.length := by
  show l.toArray.size = l.length
  exact List.size_toArray

/-! ### splitting at slashes -/
def goS (cur : List UInt8) : List UInt8 → List (List UInt8)
  | [] => [cur]
  | c :: t => if c = 47 then cur :: goS [] t else goS (cur ++ [c]) t
theorem goS_ne : ∀ (t cur : List UInt8), goS cur t ≠ []
  | [], cur => by simp [goS]
  | c :: t, cur => by
    unfold goS; split
    · simp
    · exact goS_ne t _
theorem goS_free : ∀ (p cur rest : List UInt8), (∀ c ∈ p, c ≠ 47) → goS cur (p ++ rest) = goS (cur ++ p) rest
  | [], cur, rest, _ => by simp
  | c :: p, cur, rest, h => by
    have hc := h c (by simp)
    rw [List.cons_append, goS, if_neg hc, goS_free p _ rest (fun d hd => h d (by simp [hd]))]
    simp
theorem join_cons2 (x y : List UInt8) (r : List (List UInt8)) : Lib.join (x :: y :: r) [47] = x ++ 47 :: Lib.join (y :: r) [47] := by
  rw [Lib.join_cons, Lib.join_cons]
  simp [Lib.joinTail]
/-- Joined again, the pieces are the text. -/
theorem join_goS : ∀ (t cur : List UInt8), Lib.join (goS cur t) [47] = cur ++ t
  | [], cur => by simp [goS, Lib.join_one]
  | c :: t, cur => by
    unfold goS; split
    · rename_i h
      obtain ⟨y, r, hy⟩ : ∃ y r, goS [] t = y :: r := by
        cases hg : goS [] t with
        | nil => exact absurd hg (goS_ne t [])
        | cons y r => exact ⟨y, r, rfl⟩
      have := join_goS t []
      rw [hy] at this ⊢
      rw [join_cons2, this, h]; simp
    · rw [join_goS t]; simp
/-- Parts without slashes, joined, are split into the parts. -/
theorem goS_join : ∀ (P : List (List UInt8)), P ≠ [] → (∀ p ∈ P, ∀ c ∈ p, c ≠ 47) → goS [] (Lib.join P [47]) = P
  | [], h, _ => absurd rfl h
  | [x], _, hf => by
    have := goS_free x [] [] (hf x (by simp))
    rw [List.append_nil] at this
    rw [Lib.join_one, this]; simp [goS]
  | x :: y :: r, _, hf => by
    rw [join_cons2, goS_free x [] _ (hf x (by simp)), goS, if_pos rfl, goS_join (y :: r) (by simp) (fun p hp => hf p (by simp [hp]))]
    simp

/-! ### texts of names -/
def fmtL (l : List ByteArray) : List UInt8 := 47 :: Lib.join (l.map bl) [47]
def fmtS (l : List ByteArray) : ByteArray := mk (fmtL l)
def splitB (s : ByteArray) : List ByteArray := (goS [] (bl s)).map mk
def fullB (s : ByteArray) : Bool := decide (s.size ≠ 0)
def partsB (s : ByteArray) : List ByteArray := (splitB s).filter fullB
def pOk (s : ByteArray) : Bool := validN (partsB s) && decide (fmtS (partsB s) = s)
def pN (s : ByteArray) : List ByteArray := if pOk s = true then partsB s else []
theorem map_bl_mk (L : List (List UInt8)) : (L.map mk).map bl = L := by
  rw [List.map_map]
  have : (bl ∘ mk) = id := funext fun l => bl_mk l
  rw [this, List.map_id]
theorem map_mk_bl (L : List ByteArray) : (L.map bl).map mk = L := by
  rw [List.map_map]
  have : (mk ∘ bl) = id := funext fun l => mk_bl l
  rw [this, List.map_id]

theorem valid_free {p : ByteArray} (h : validP p = true) : ∀ c ∈ bl p, c ≠ 47 := by
  intro c hc e
  obtain ⟨i, hi, rfl⟩ := List.getElem_of_mem hc
  rw [bl_length] at hi
  have h1 := (validP_iff.1 h).2.2 i hi hi
  rw [bl_get p i hi] at e
  rw [e] at h1
  simp [okR] at h1
theorem valid_full {p : ByteArray} (h : validP p = true) : fullB p = true := by
  have := (validP_iff.1 h).1
  unfold fullB; exact decide_eq_true (by omega)
theorem filter_valid {l : List ByteArray} (h : validN l = true) : l.filter fullB = l := by
  rw [List.filter_eq_self]
  exact fun p hp => valid_full ((validN_iff.1 h).2 p hp)
theorem free_of_valid {l : List ByteArray} (h : validN l = true) : ∀ p ∈ l.map bl, ∀ c ∈ p, c ≠ 47 := by
  intro p hp
  obtain ⟨q, hq, rfl⟩ := List.mem_map.1 hp
  exact valid_free ((validN_iff.1 h).2 q hq)

theorem fmtS_nil : fmtS [] = mk [47] := by simp [fmtS, fmtL, Lib.join_nil]
/-- The text of a right name that has parts is split into the empty piece and the parts. -/
theorem split_fmt {l : List ByteArray} (h : validN l = true) (hl : l ≠ []) : splitB (fmtS l) = mk [] :: l := by
  unfold splitB fmtS fmtL
  rw [bl_mk, goS, if_pos rfl, goS_join (l.map bl) (by simpa using hl) (free_of_valid h), List.map_cons, map_mk_bl]
theorem parts_fmt {l : List ByteArray} (h : validN l = true) : partsB (fmtS l) = l := by
  by_cases hl : l = []
  · subst hl
    rw [fmtS_nil]
    unfold partsB splitB
    rw [bl_mk]
    simp [goS, fullB, mk_size]
  · unfold partsB
    rw [split_fmt h hl, List.filter_cons_of_neg (by simp [fullB, mk_size]), filter_valid h]
theorem pOk_fmt {l : List ByteArray} (h : validN l = true) : pOk (fmtS l) = true := by
  unfold pOk; rw [parts_fmt h, h]; simp
theorem pN_fmt {l : List ByteArray} (h : validN l = true) : pN (fmtS l) = l := by
  unfold pN; rw [if_pos (pOk_fmt h), parts_fmt h]
theorem pOk_iff {s : ByteArray} : pOk s = true ↔ validN (partsB s) = true ∧ fmtS (partsB s) = s := by unfold pOk; simp
theorem pN_yes {s : ByteArray} (h : pOk s = true) : pN s = partsB s := if_pos h
theorem pN_no {s : ByteArray} (h : pOk s = false) : pN s = [] := if_neg (by simp [h])
theorem valid_pN (s : ByteArray) : validN (pN s) = true := by
  cases h : pOk s with
  | true => rw [pN_yes h]; exact (pOk_iff.1 h).1
  | false => rw [pN_no h]; decide

/-- The reference model's way: what the pieces are asked. -/
theorem pOk_slash : pOk (mk [47]) = true ∧ pN (mk [47]) = [] := by
  have h : validN [] = true := by decide
  rw [← fmtS_nil]
  exact ⟨pOk_fmt h, pN_fmt h⟩
theorem split_yes {s : ByteArray} {rest : List ByteArray} (h : splitB s = mk [] :: rest) (hr : rest ≠ []) (hv : validN rest = true) : pOk s = true ∧ pN s = rest := by
  have hs : fmtS rest = s := by
    apply bl_inj
    have h1 : goS [] (bl s) = [] :: rest.map bl := by
      have := congrArg (List.map bl) h
      unfold splitB at this
      rw [map_bl_mk, List.map_cons, bl_mk] at this
      exact this
    have h2 := join_goS (bl s) []
    rw [h1] at h2
    obtain ⟨y, r, rfl⟩ : ∃ y r, rest = y :: r := by
      cases rest with
      | nil => exact absurd rfl hr
      | cons y r => exact ⟨y, r, rfl⟩
    rw [List.map_cons, join_cons2, ← List.map_cons] at h2
    unfold fmtS fmtL
    rw [bl_mk]
    exact h2
  rw [← hs]
  exact ⟨pOk_fmt hv, pN_fmt hv⟩
theorem split_no {s : ByteArray} (h47 : s ≠ mk [47]) (h : ∀ rest, splitB s = mk [] :: rest → rest ≠ [] → validN rest = false) : pOk s = false := by
  cases hp : pOk s with
  | false => rfl
  | true =>
    obtain ⟨h1, h2⟩ := pOk_iff.1 hp
    by_cases he : partsB s = []
    · rw [he, fmtS_nil] at h2
      exact absurd h2.symm h47
    · have h3 := split_fmt h1 he
      rw [h2] at h3
      have h4 := h _ h3 he
      rw [h1] at h4; cases h4

/-! ### runs of bytes and runes -/
def seg (s : ByteArray) (f i : Nat) : List UInt8 := ((bl s).drop f).take (i - f)
def rest (s : ByteArray) (i : Nat) : List UInt8 := (bl s).drop i
theorem rest_end (s : ByteArray) : rest s s.size = [] := by unfold rest; rw [← bl_length]; simp
theorem rest_cons (s : ByteArray) {i : Nat} (h : i < s.size) : rest s i = s[i]'h :: rest s (i + 1) := by
  unfold rest
  rw [List.drop_eq_getElem_cons (by rw [bl_length]; exact h), bl_get s i h]
theorem seg_self (s : ByteArray) (i : Nat) : seg s i i = [] := by simp [seg]
theorem seg_succ (s : ByteArray) {f i : Nat} (hf : f ≤ i) (h : i < s.size) : seg s f (i + 1) = seg s f i ++ [s[i]'h] := by
  unfold seg
  have e : i + 1 - f = (i - f) + 1 := by omega
  rw [e, List.take_add_one, List.getElem?_drop, show f + (i - f) = i by omega, List.getElem?_eq_getElem (by rw [bl_length]; exact h), bl_get s i h]
  rfl
theorem seg_length (s : ByteArray) {f i : Nat} (hf : f ≤ i) (h : i ≤ s.size) : (seg s f i).length = i - f := by
  unfold seg; rw [List.length_take, List.length_drop, bl_length]; omega
theorem extract_seg (s : ByteArray) (f i : Nat) : s.extract f i = mk (seg s f i) := by
  conv => lhs; rw [← mk_bl s]
  exact ByteArray.extract_mk (bl s) f i
theorem goS_slash (s : ByteArray) {f i : Nat} (h : i < s.size) (hc : s[i]'h = 47) : goS (seg s f i) (rest s i) = seg s f i :: goS (seg s (i + 1) (i + 1)) (rest s (i + 1)) := by
  rw [rest_cons s h, goS, if_pos hc, seg_self]
theorem goS_byte (s : ByteArray) {f i : Nat} (hf : f ≤ i) (h : i < s.size) (hc : s[i]'h ≠ 47) : goS (seg s f i) (rest s i) = goS (seg s f (i + 1)) (rest s (i + 1)) := by
  rw [rest_cons s h, goS, if_neg hc, seg_succ s hf h]
theorem goS_end (s : ByteArray) (f : Nat) : goS (seg s f s.size) (rest s s.size) = [seg s f s.size] := by rw [rest_end]; rfl
theorem goS_bytes (s : ByteArray) {f i : Nat} (hf : f ≤ i) : ∀ m, (hm : i + m ≤ s.size) → (∀ j (hj : j < m), s[i + j]'(by omega) ≠ 47) → goS (seg s f i) (rest s i) = goS (seg s f (i + m)) (rest s (i + m))
  | 0, _, _ => rfl
  | m + 1, hm, hc => by
    rw [goS_bytes s hf m (by omega) (fun j hj => hc j (by omega)), goS_byte s (by omega) (by omega) (hc m (by omega))]
    rfl

end Go.Proofs.YtnblopilgfdjkaaGreat.Row
/- Contracts of the functions that split a text at its slashes, the program's (without the empty pieces, rune by rune) and the reference model's (all pieces, byte by byte). No conditions but that lengths fit. -/
namespace Go.Proofs.YtnblopilgfdjkaaGreat.Row
open Go.ChangeShapes Go.WideShapes Go.ChangeAt Go.RowKit Go.Instr
set_option linter.unusedVariables false
set_option maxRecDepth 100000

theorem natne {a b : Nat} (h : a ≠ b) : ((a : Int) == (b : Int)) = false := beq_eq_false_iff_ne.2 (by omega)
theorem nat47 {x : Nat} (h : x ≠ 47) : ((x : Int) == 47) = false := beq_eq_false_iff_ne.2 (by omega)
theorem byte47 {c : UInt8} : c = 47 ↔ c.toNat = 47 := by
  constructor
  · rintro rfl; rfl
  · intro h; apply UInt8.toNat_inj.1; rw [h]; rfl

/-- Where the reference model's loop stands: the pieces so far, and the rest. -/
def SpI (s : ByteArray) (k f : Nat) (L : List ByteArray) : Prop :=
  (k ≤ s.size → splitB s = L ++ (goS (seg s f k) (rest s k)).map mk) ∧ (k = s.size + 1 → splitB s = L)
theorem SpI.start (s : ByteArray) : SpI s 0 0 [] := ⟨fun _ => by unfold splitB; rw [seg_self]; rfl, fun h => by omega⟩
theorem SpI.cut {s : ByteArray} {k f : Nat} {L : List ByteArray} (h : SpI s k f L) (hk : k ≤ s.size) (hf : f ≤ k) (hc : ∀ h : k < s.size, s[k]'h = 47) : SpI s (k + 1) (k + 1) (L ++ [s.extract f k]) := by
  have h1 := h.1 hk
  by_cases hl : k < s.size
  · rw [goS_slash s hl (hc hl)] at h1
    refine ⟨fun _ => ?_, fun e => by omega⟩
    rw [h1, extract_seg]; simp
  · obtain rfl : k = s.size := by omega
    rw [goS_end] at h1
    refine ⟨fun e => by omega, fun _ => ?_⟩
    rw [h1, extract_seg]; simp
theorem SpI.on {s : ByteArray} {k f : Nat} {L : List ByteArray} (h : SpI s k f L) (hf : f ≤ k) (hl : k < s.size) (hc : s[k]'hl ≠ 47) : SpI s (k + 1) f L := by
  have h1 := h.1 (by omega)
  rw [goS_byte s hf hl hc] at h1
  exact ⟨fun _ => h1, fun e => by omega⟩

set_option maxHeartbeats 2000000 in
theorem l4Split (s : ByteArray) (w : World) (hs : s.size ≤ 10000000) :
    Calls Tryz.prog 83 #[.string s, .int .u8 47] w (GivesS w (splitB s)) := by
  have H0 := Lib.hid (own_empty Value.string 9 w)
  have B0 := Lib.hid ((Below.refl w.heap.size w).alloc (Nat.le_refl _) (.cells #[] 9))
  go_enter Tryz.func83, Tryz.ntmps83
  go_wp2_with fail
  go_loopw [5, 6, 7] (fun rv fv iv wr => ∃ (k f m : Nat) (L : List ByteArray), k ≤ s.size + 1 ∧ f ≤ k ∧ m ≤ k ∧ iv = .int .i64 k ∧ fv = .int .i64 f ∧ Hid (L.length = m) ∧ Hid (Own 9 Value.string w.heap.size wr rv L) ∧ Hid (Below w.heap.size w wr) ∧ Hid (SpI s k f L)) (fun _ _ iv _ => s.size + 1 - (intOf iv).toNat)
  case atStart => exact ⟨0, 0, 0, [], by omega, Nat.le_refl _, Nat.le_refl _, rfl, rfl, Lib.hid rfl, H0, B0, Lib.hid (SpI.start s)⟩
  case round =>
    obtain ⟨k, f, m, L, hk, hf, hm, rfl, rfl, hL, ho, hb, hI⟩ := hrel
    by_cases hle : k ≤ s.size
    · by_cases hcut : ∀ h : k < s.size, s[k]'h = 47
      · have HI2 := Lib.hid (hI.out.cut hle hf hcut)
        have HO := Lib.hid (ho.out.on ((Below.refl _ _).alloc (Nat.le_refl _) (.cells #[.string (s.extract f k)] 9)))
        have HL2 := Lib.hid (show (L ++ [s.extract f k]).length = m + 1 by rw [List.length_append, hL.out]; rfl)
        have hlm : (L.length + [s.extract f k].length) * 16 ≤ 140737488355328 := by rw [hL.out]; simp; omega
        have hlx : L.length + [s.extract f k].length ≤ maxLen := by rw [hL.out]; unfold maxLen; simp; omega
        have HLM := Lib.hid hlm; have HLX := Lib.hid hlx
        clear hlm hlx
        by_cases hlt : k < s.size
        · have hne : ((k : Int) == (s.size : Int)) = false := natne (Nat.ne_of_lt hlt)
          have hb47 : (((s[k]'hlt).toNat : Int) == 47) = true := by
            have := byte47.1 (hcut hlt)
            rw [this]; rfl
          clear hcut
          go_wp2_with (at_builtin; refine wpList_app (enc := Value.string) (B := w.heap.size) (l := L) (m := [s.extract f k]) rfl _ _ rfl Tryz.underlying25 elemSTR rfl rfl rfl HO.out (holds_one Value.string 9 _ _) oneStr HLM.out HLX.out (Nat.le_trans hb.out.size (by simp)) ?_)
          intro v2 w2 ho2 hg2
          have HO2 := Lib.hid ho2
          have HB2 := Lib.hid ((hb.out.alloc hb.out.size (.cells #[.string (s.extract f k)] 9)).grown hg2 (Nat.le_trans hb.out.size (by simp)) (fun g hh => (HO.out.lt g hh).1))
          clear ho2 hg2
          go_wp2_with fail
          go_roundw
          case rel => exact ⟨k + 1, k + 1, m + 1, _, by omega, Nat.le_refl _, by omega, by go_num, by go_num, HL2, HO2, HB2, HI2⟩
          case measure => simp [intOf]; omega
        · obtain rfl : k = s.size := by omega
          clear hcut
          go_wp2_with (at_builtin; refine wpList_app (enc := Value.string) (B := w.heap.size) (l := L) (m := [s.extract f s.size]) rfl _ _ rfl Tryz.underlying25 elemSTR rfl rfl rfl HO.out (holds_one Value.string 9 _ _) oneStr HLM.out HLX.out (Nat.le_trans hb.out.size (by simp)) ?_)
          intro v2 w2 ho2 hg2
          have HO2 := Lib.hid ho2
          have HB2 := Lib.hid ((hb.out.alloc hb.out.size (.cells #[.string (s.extract f s.size)] 9)).grown hg2 (Nat.le_trans hb.out.size (by simp)) (fun g hh => (HO.out.lt g hh).1))
          clear ho2 hg2
          go_wp2_with fail
          go_roundw
          case rel => exact ⟨s.size + 1, s.size + 1, m + 1, _, by omega, Nat.le_refl _, by omega, by go_num, by go_num, HL2, HO2, HB2, HI2⟩
          case measure => simp [intOf]
      · have hlt : k < s.size := by
          by_cases h : k < s.size
          · exact h
          · exact absurd (fun h2 => absurd h2 h) hcut
        have hc : s[k]'hlt ≠ 47 := fun e => hcut (fun _ => e)
        have HI2 := Lib.hid (hI.out.on hf hlt hc)
        have hne : ((k : Int) == (s.size : Int)) = false := natne (Nat.ne_of_lt hlt)
        have hb47 : (((s[k]'hlt).toNat : Int) == 47) = false := nat47 (fun e => hc (byte47.2 e))
        clear hcut hc
        go_wp2_with fail
        go_roundw
        case rel => exact ⟨k + 1, f, m, L, by omega, by omega, by omega, by go_num, rfl, hL, ho, hb, HI2⟩
        case measure => simp [intOf]; omega
    · obtain rfl : k = s.size + 1 := by omega
      have HE := Lib.hid (hI.out.2 rfl)
      clear hle
      go_wp2_with fail
      go_ret
      exact ⟨_, rfl, by rw [HE.out]; exact ho.out, hb.out⟩

/-! ### the program's way: rune by rune, over the text with a slash behind it -/
def SpN (s : ByteArray) (k f : Nat) (L : List ByteArray) : Prop :=
  (k ≤ s.size → partsB s = L ++ ((goS (seg s f k) (rest s k)).map mk).filter fullB) ∧ (k = s.size + 1 → partsB s = L)
theorem SpN.start (s : ByteArray) : SpN s 0 0 [] := ⟨fun _ => by unfold partsB splitB; rw [seg_self]; rfl, fun h => by omega⟩
theorem seg_full {s : ByteArray} {f k : Nat} (hf : f ≤ k) (hk : k ≤ s.size) : fullB (mk (seg s f k)) = decide (f < k) := by
  unfold fullB
  rw [mk_size, seg_length s hf hk]
  congr 1
  apply propext; omega
theorem SpN.cut {s : ByteArray} {k f : Nat} {L : List ByteArray} (h : SpN s k f L) (hk : k ≤ s.size) (hf : f ≤ k) (hc : ∀ h : k < s.size, s[k]'h = 47) : SpN s (k + 1) (k + 1) (if f < k then L ++ [s.extract f k] else L) := by
  have h1 := h.1 hk
  have hfull := seg_full (s := s) hf hk
  by_cases hl : k < s.size
  · rw [goS_slash s hl (hc hl), List.map_cons, List.filter_cons, hfull] at h1
    refine ⟨fun _ => ?_, fun e => by omega⟩
    rw [h1, extract_seg]
    by_cases hfk : f < k
    · simp [hfk]
    · simp [hfk]
  · obtain rfl : k = s.size := by omega
    rw [goS_end, List.map_cons, List.filter_cons, hfull] at h1
    refine ⟨fun e => by omega, fun _ => ?_⟩
    rw [h1, extract_seg]
    by_cases hfk : f < s.size
    · simp [hfk]
    · simp [hfk]
theorem SpN.on {s : ByteArray} {k f : Nat} {L : List ByteArray} (h : SpN s k f L) (hf : f ≤ k) {m : Nat} (h0 : 1 ≤ m) (hm : k + m ≤ s.size) (hc : ∀ j (hj : j < m), s[k + j]'(by omega) ≠ 47) : SpN s (k + m) f L := by
  have h1 := h.1 (by omega)
  rw [goS_bytes s hf m hm hc] at h1
  exact ⟨fun _ => h1, fun e => by omega⟩

end Go.Proofs.YtnblopilgfdjkaaGreat.Row
/- The contracts of the library that are proved once over any program, laid at this seat in plain words. -/
namespace Go.Proofs
open Go.Shelf
def Tryz.lays169_ren : Go.Shelf.Ren := ⟨fun | 169 => 81 | n => n, fun | 70 => 99 | 9 => 9 | 0 => 0 | 72 => 101 | 37 => 22 | 127 => 118 | 3 => 3 | 5 => 5 | n => n, fun | n => n⟩
def Tryz.lays241_ren : Go.Shelf.Ren := ⟨fun | 241 => 95 | 277 => 107 | n => n, fun | 70 => 99 | 3 => 3 | 0 => 0 | 72 => 101 | 37 => 22 | 5 => 5 | n => n, fun | n => n⟩
def Tryz.lays165_ren : Go.Shelf.Ren := ⟨fun | 165 => 79 | 240 => 94 | 241 => 95 | 276 => 106 | 277 => 107 | n => n, fun | 70 => 99 | 3 => 3 | 0 => 0 | 4 => 4 | 9 => 9 | 20 => 20 | 72 => 101 | 37 => 22 | 164 => 124 | 5 => 5 | n => n, fun | n => n⟩
def Tryz.lays156_ren : Go.Shelf.Ren := ⟨fun | 156 => 54 | 165 => 79 | 166 => 80 | 169 => 81 | 240 => 94 | 241 => 95 | 276 => 106 | 277 => 107 | n => n, fun | 31 => 25 | 9 => 9 | 3 => 3 | 4 => 4 | 0 => 0 | 20 => 20 | 72 => 101 | 76 => 104 | 70 => 99 | 37 => 22 | 75 => 103 | 127 => 118 | 164 => 124 | 5 => 5 | 80 => 106 | n => n, fun | n => n⟩
theorem Tryz.lays156 : Go.Proofs.Lays.n156 Tryz.prog Tryz.lays156_ren := {
  mixed := by kernel_rfl
  f156 := Tryz.func54.trans (congrArg some (by kernel_rfl))
  f165 := Tryz.func79.trans (congrArg some (by kernel_rfl))
  f166 := Tryz.func80.trans (congrArg some (by kernel_rfl))
  f169 := Tryz.func81.trans (congrArg some (by kernel_rfl))
  f240 := Tryz.func94.trans (congrArg some (by kernel_rfl))
  f241 := Tryz.func95.trans (congrArg some (by kernel_rfl))
  f276 := Tryz.func106.trans (congrArg some (by kernel_rfl))
  f277 := Tryz.func107.trans (congrArg some (by kernel_rfl))
  t0 := Tryz.underlying0
  a0 := Tryz.isAgg0
  z0 := Tryz.sizeOf0
  v0 := Tryz.zeroValue0
  t3 := Tryz.underlying3
  a3 := Tryz.isAgg3
  z3 := Tryz.sizeOf3
  v3 := Tryz.zeroValue3
  t4 := Tryz.underlying4
  a4 := Tryz.isAgg4
  z4 := Tryz.sizeOf4
  v4 := Tryz.zeroValue4
  t9 := Tryz.underlying9
  a9 := Tryz.isAgg9
  z9 := Tryz.sizeOf9
  v9 := Tryz.zeroValue9
  t20 := Tryz.underlying20
  a20 := Tryz.isAgg20
  z20 := Tryz.sizeOf20
  v20 := Tryz.zeroValue20
  t31 := Tryz.underlying25
  a31 := Tryz.isAgg25
  z31 := Tryz.sizeOf25
  v31 := Tryz.zeroValue25
  t37 := Tryz.underlying22
  a37 := Tryz.isAgg22
  z37 := Tryz.sizeOf22
  v37 := Tryz.zeroValue22
  t70 := Tryz.underlying99
  a70 := Tryz.isAgg99
  z70 := Tryz.sizeOf99
  v70 := Tryz.zeroValue99
  t72 := Tryz.underlying101
  a72 := Tryz.isAgg101
  z72 := Tryz.sizeOf101
  v72 := Tryz.zeroValue101
  t75 := Tryz.underlying103
  a75 := Tryz.isAgg103
  z75 := Tryz.sizeOf103
  v75 := Tryz.zeroValue103
  t76 := Tryz.underlying104
  a76 := Tryz.isAgg104
  z76 := Tryz.sizeOf104
  v76 := Tryz.zeroValue104
  t127 := Tryz.underlying118
  a127 := Tryz.isAgg118
  z127 := Tryz.sizeOf118
  v127 := Tryz.zeroValue118
  t164 := Tryz.underlying124
  a164 := Tryz.isAgg124
  z164 := Tryz.sizeOf124
  v164 := Tryz.zeroValue124 }
theorem Tryz.Builder_Extra_156 : Builder.Extra Tryz.prog Tryz.lays156_ren := {
  sizeBuilder := by kernel_rfl
  liesBuilder := by kernel_rfl
  t5 := Tryz.underlying5
  a5 := Tryz.isAgg5
  z5 := Tryz.sizeOf5
  v5 := Tryz.zeroValue5
  infoByte := by kernel_rfl
  cellsByte := by kernel_rfl
  sizeByte := by kernel_rfl
  neB5 := by decide }
open Go.RowKit in
/-- No element: the empty string; the world is as it was. (Whatever the slice's address and capacity: a nil slice too.) (LAID: no walk: one application.) -/
theorem Tryz.strings_Join_none (a : Option Addr) (c : Nat) (sep : ByteArray) (w : World) :
    Calls Tryz.prog 54 #[.slice a 0 c, .string sep] w fun e w' => e = .returned (.string ⟨#[]⟩) ∧ w' = w := Any.strings_Join_none Tryz.lays156 Tryz.Builder_Extra_156 a c sep w
open Go.RowKit in
/-- strings.Join: "Join concatenates the elements of its first argument to create a single string. The separator string sep is placed between elements in the resulting string.": HOWEVER MANY ELEMENTS. Below the heap's end the world is as it was. (LAID: no walk: one application.) -/
theorem Tryz.strings_Join (bk o c : Nat) (xs : List ByteArray) (sep : ByteArray) (w : World) (hcells : ∀ (j : Nat) x, xs[j]? = some x → w.cell? ⟨bk, o + j, none⟩ = some (.string x)) (hbk : bk < w.heap.size) (hN : xs.length ≤ 140737488355328) (hcap : xs.length ≤ c) (hlen : (Lib.join (xs.map (·.data.toList)) sep.data.toList).length ≤ 140737488355328) :
    Calls Tryz.prog 54 #[.slice (some ⟨bk, o, none⟩) xs.length c, .string sep] w fun e w' => e = .returned (.string ⟨(Lib.join (xs.map (·.data.toList)) sep.data.toList).toArray⟩) ∧ Below w.heap.size w w' := Any.strings_Join Tryz.lays156 Tryz.Builder_Extra_156 bk o c xs sep w hcells hbk hN hcap hlen
def Tryz.laysNm216_ren : Go.Shelf.Ren := ⟨fun | 16 => 90 | n => n, fun | 24 => 25 | 9 => 9 | 4 => 4 | n => n, fun | n => n⟩
def Tryz.laysSlE041_f90_ren : Go.Shelf.Ren := ⟨fun | 41 => 90 | n => n, fun | 22 => 25 | 23 => 9 | 4 => 4 | n => n, fun | n => n⟩
end Go.Proofs
/- Contracts of FormatName, the program's and the reference model's: each part behind a slash; a slash alone where there is none. No conditions but that lengths fit. -/
namespace Go.Proofs.YtnblopilgfdjkaaGreat.Row
open Go.ChangeShapes Go.WideShapes Go.ChangeAt Go.RowKit Go.Instr
set_option linter.unusedVariables false
set_option maxRecDepth 100000

/-- The text behind the first k parts. -/
def fT (l : List ByteArray) (k : Nat) : ByteArray := mk (Lib.joinTail [47] ((l.map bl).take k))
theorem fT_zero (l : List ByteArray) : fT l 0 = mk [] := by simp [fT, Lib.joinTail]
theorem fT_succ (l : List ByteArray) {k : Nat} (h : k < l.length) : fT l (k + 1) = fT l k ++ mk [47] ++ nth l k := by
  unfold fT
  rw [Lib.joinTail_take_succ [47] _ k (bl (nth l k)) (by rw [List.getElem?_map, nth_eq h, List.getElem?_eq_getElem h]; rfl), ← mk_append, ← mk_append, mk_bl]
theorem fT_size (l : List ByteArray) : ∀ k, k ≤ l.length → (fT l k).size + l.length = bulkTo l k + k
  | 0, _ => by rw [fT_zero, mk_size, bulkTo_zero]; simp
  | k + 1, h => by
    have ih := fT_size l k (by omega)
    rw [fT_succ l (by omega), ByteArray.size_append, ByteArray.size_append, mk_size, bulkTo_succ l (by omega)]
    simp; omega
theorem fT_le (l : List ByteArray) {k : Nat} (h : k ≤ l.length) : (fT l k).size ≤ bulk l := by
  have h1 := fT_size l k h
  have h2 := bulkTo_le l k
  omega
theorem fT_all {l : List ByteArray} (h : l ≠ []) : fT l l.length = fmtS l := by
  unfold fT fmtS fmtL
  rw [List.take_of_length_le (by simp)]
  obtain ⟨x, r, rfl⟩ : ∃ x r, l = x :: r := by
    cases l with
    | nil => exact absurd rfl h
    | cons x r => exact ⟨x, r, rfl⟩
  rw [List.map_cons, Lib.join_cons]
  congr 1
theorem join_size (l : List ByteArray) : (Lib.join (l.map bl) [47]).length ≤ bulk l := by
  by_cases h : l = []
  · subst h; simp [Lib.join_nil]
  · have h1 := congrArg ByteArray.size (fT_all h)
    have h2 := fT_le l (Nat.le_refl l.length)
    rw [h1] at h2
    unfold fmtS fmtL at h2
    rw [mk_size] at h2
    simp at h2; omega

set_option maxHeartbeats 1000000 in
theorem implFormatName (v : Value) (l : List ByteArray) (w : World) (h : Holds Value.string w v l) (hl : bulk l ≤ 100000000) :
    Calls Tryz.prog 53 #[.agg #[v]] w fun e w' => e = .returned (.string (fmtS l)) ∧ Below w.heap.size w w' := by
  obtain ⟨x, n, cap, rfl, hn, hcap, hh⟩ := h.shapeN
  have hjs := join_size l
  have hll := bigLen hl
  have HB := Lib.hid ((Below.refl w.heap.size w).alloc (Nat.le_refl _) (.cells #[.slice x n cap] 27))
  have HJ : Hid (∀ W, Holds Value.string W (.slice x n cap) l → Calls Tryz.prog 54 #[.slice x n cap, .string (mk [47])] W fun e w' => e = .returned (.string (mk (Lib.join (l.map bl) [47]))) ∧ Below W.heap.size W w') := by
    refine Lib.hid fun W hW => ?_
    obtain ⟨x', cap', hv, hc', hh'⟩ := hW
    cases hv
    by_cases hne : l = []
    · subst hne
      refine (Tryz.strings_Join_none x cap (mk [47]) W).mono ?_
      rintro e w' ⟨rfl, rfl⟩
      exact ⟨rfl, Below.refl _ _⟩
    · rcases hh' with h0 | ⟨b, off, rfl, hc⟩
      · exact absurd h0 hne
      · have hlp : 0 < l.length := List.length_pos_iff.2 hne
        exact Tryz.strings_Join b off cap l (mk [47]) W (fun j y hy => by
          have hj : j < l.length := (List.getElem?_eq_some_iff.1 hy).1
          rw [hc j hj, nth_eq hj]
          rw [List.getElem?_eq_getElem hj] at hy
          cases hy; rfl) (by have := cell_lt (hc 0 hlp); exact this) (by omega) hc' (by show (Lib.join (l.map bl) [47]).length ≤ _; omega)
  obtain ⟨jn, hjn⟩ : ∃ jn, jn = mk (Lib.join (l.map bl) [47]) := ⟨_, rfl⟩
  have hjz : jn.size ≤ 100000000 := by rw [hjn, mk_size]; omega
  rw [← hjn] at HJ
  have HE := Lib.hid (show mk [47] ++ jn = fmtS l by rw [hjn, mk_append]; rfl)
  have HH := Lib.hid (hh.on HB.out)
  clear hh h hn hjn
  go_enter Tryz.func53, Tryz.ntmps53
  go_wp2_with fail
  refine (HJ.out _ HH.out).mono ?_
  rintro e w' ⟨rfl, hb⟩
  have HB2 := Lib.hid (HB.out.trans (hb.mono (by simp))); clear hb
  go_wp2
  go_ret
  exact ⟨ret_str HE.out, HB2.out⟩

set_option maxHeartbeats 1000000 in
theorem specFormatName (v : Value) (l : List ByteArray) (w : World) (h : Holds Value.string w v l) (hl : bulk l ≤ 100000000) :
    Calls Tryz.prog 55 #[.agg #[v]] w fun e w' => e = .returned (.string (fmtS l)) ∧ Below w.heap.size w w' := by
  obtain ⟨x, n, cap, rfl, hn, hcap, hh⟩ := h.shapeN
  have hll := bigLen hl
  have HSZ := Lib.hid (fun k (hk : k ≤ l.length) => Nat.le_trans (fT_le l hk) hl)
  have HNZ := Lib.hid (fun k (hk : k < l.length) => size_nth hl hk)
  have HB := Lib.hid ((Below.refl w.heap.size w).alloc (Nat.le_refl _) (.cells #[.slice x n cap] 27))
  have HH := Lib.hid (hh.on HB.out)
  have HN := Lib.hid hn
  rw [← hn] at hll
  clear hh h hn hl
  go_enter Tryz.func55, Tryz.ntmps55
  go_wp2_with fail
  go_loop [3, 4] (fun sv iv => ∃ (k : Nat) (s : ByteArray), k ≤ n ∧ iv = .int .i64 k ∧ sv = .string s ∧ s.size ≤ 100000000 ∧ Hid (s = fT l k)) (fun _ iv => n - (intOf iv).toNat)
  case atStart => exact ⟨0, mk [], Nat.zero_le _, rfl, rfl, by rw [mk_size]; simp, Lib.hid (fT_zero l).symm⟩
  case round =>
    obtain ⟨k, s, hk, rfl, rfl, hs, he⟩ := hrel
    by_cases hlt : k < n
    · have hlen := HN.out
      obtain ⟨b, off, rfl, hc⟩ := HH.out.at (j := k) (by omega)
      have hz := HNZ.out k (by omega)
      have HS2 := Lib.hid (fT_succ l (k := k) (by omega))
      have HZ2 := Lib.hid (HSZ.out (k + 1) (by omega))
      clear hlen
      go_wp2
      go_round
      case rel => exact ⟨k + 1, _, by omega, by go_num, rfl, by have := HZ2.out; rw [HS2.out, ← he.out] at this; exact this, Lib.hid (by rw [HS2.out, he.out]; rfl)⟩
      case measure => simp [intOf]; omega
    · obtain rfl : k = n := by omega
      clear hlt
      by_cases h0 : k = 0
      · subst h0
        have HE := Lib.hid (show fmtS l = mk [47] by
          have : l = [] := List.eq_nil_of_length_eq_zero HN.out.symm
          rw [this, fmtS_nil])
        go_wp2
        go_ret
        exact ⟨ret_str HE.out.symm, HB.out⟩
      · have hne : ((k : Int) == 0) = false := by simpa using h0
        have HE := Lib.hid (show s = fmtS l by
          have h1 : l ≠ [] := fun e => h0 (by rw [HN.out, e]; rfl)
          rw [he.out, HN.out, fT_all h1])
        clear h0
        go_wp2
        go_ret
        exact ⟨ret_str HE.out, HB.out⟩

end Go.Proofs.YtnblopilgfdjkaaGreat.Row
