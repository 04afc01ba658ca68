/- Contracts of the reference model's draws of names that may be wrong: what is drawn lies in memory of the call's own; all else but the cursor is as it was. -/
import Derived.Test.YtihcebjbkifbpaaDrawName
import Derived.Test.YtihcebjbkifbpaaNameLaw
import Derived.Deep.RegionLaw
namespace Go.Proofs.Ytihcebjbkifbpaa.Draw
open Go.ChangeShapes Go.WideShapes Go.ChangeAt Go.RowKit Go.Instr
open Go.Proofs.Ytihcebjbkifbpaa.Row (bulk bulk_append bulk_one bulk_nil elemSTR oneStr)
open Go.Proofs.Ytihcebjbkifbpaa.Ret (NC)
set_option linter.unusedVariables false
set_option maxRecDepth 100000

/-- append to a slice of strings of the call's own, as a step of a statement that draws its order. -/
theorem step_app {P : Program} {ops : Array Oper} {o : Oper} {a : Act} {w : World} {K : Act → World → Prop} {Q : Exit → Act → World → Prop} {E : Prop} {α : Type} [Inhabited α] {enc : α → Value} {e t : TypeId} {bytes : Nat} {z : Value}
    (hg : o.guard = none) (s x : Operand) (hop : o.op = Op.call { callee := Callee.builtin Builtin.append, args := #[s, x], argTypes := #[t, t] }) (ht : P.underlying t = some (.slice e)) (hi : Row.Elem P e z bytes) (hz : z.cells.size = 1)
    {B : Nat} {v : Value} {ad : Addr} {n c : Nat} {l m : List α} (hs : a.eval s = v) (hx : a.eval x = .slice (some ad) n c) (hown : Row.Own e enc B w v l) (hsrc : Row.Holds enc w (.slice (some ad) n c) m) (h1c : ∀ x, (enc x).oneCell' = true) (hlen : (l.length + m.length) * bytes ≤ 140737488355328) (hmx : l.length + m.length ≤ maxLen) (hB : B ≤ w.heap.size)
    (hK : ∀ v' w', Row.Own e enc B w' v' (l ++ m) → w.grownBy w' v.ownBlock → K (a.put o.dst v') w') :
    if Region.wanted o (yielded ops a.tmps) = true then Oper.wp P o a w K Q else E := by
  have hw : Region.wanted o (yielded ops a.tmps) = true := by simp [Region.wanted, hg]
  rw [if_pos hw]
  obtain ⟨i, h1, h2, h3, h4⟩ := info_parts hi
  obtain rfl := hsrc.lenEq
  obtain ⟨v', w', hrun, r1, r2, _⟩ := run_append_own (P := P) w B t o.type e i z 1 bytes ht h1 h2 h3 h4 hz (by decide) v l.length (l.map enc) hown ad m.length c (m.map enc) (by simp) hsrc.cells (Row.oneCell h1c m) hmx hlen hB
  unfold Oper.wp
  simp [execOp, hop, resolve, invoke, builtin, hs, hx, hrun, Result.andThen]
  refine hK v' w' ?_ r2
  unfold Row.Own
  rw [List.length_append, List.map_append]; exact r1

/-- The length of the slice that lies in block g. -/
def lenAt (w : World) (g : Nat) : Nat := match w.cell? ⟨g, 0, none⟩ with
  | some (.slice _ n _) => n
  | _ => 0
theorem lenAt_of {w : World} {g : Nat} {x : Option Addr} {n c : Nat} (h : w.cell? ⟨g, 0, none⟩ = some (.slice x n c)) : lenAt w g = n := by simp [lenAt, h]

theorem box_keep {w w' : World} {g p : Nat} {u : Value} {t : TypeId} (h : Ret.Box w g u t) (hk : Keep p w w') (hne : g ≠ p) : Ret.Box w' g u t := (hk.block g h.lt hne).trans h
/-- The last store of a draw that gives a name. -/
theorem endA {w0 : World} {p : Nat} {v : Value} {l : List UInt8} {w W : World} {g : Nat} {s : Value} {m : List ByteArray} (hc0 : Cur w0 p v l w) (hgw : w.heap.size < g) (hwp : w.heap.size ≠ p)
    (ho : Row.Own 9 Value.string (w.heap.size + 1) W s m) (hc : Cur w0 p v l W) (hk : Keep p w W) (hr : NC W w.heap.size (.slice none 0 0)) :
    (W.setCell ⟨w.heap.size, 0, none⟩ s).cell? ⟨w.heap.size, 0, none⟩ = some s ∧ Row.Own 9 Value.string w.heap.size (W.setCell ⟨w.heap.size, 0, none⟩ s) s m ∧ Cur w0 p v l (W.setCell ⟨w.heap.size, 0, none⟩ s) ∧ Keep p w (W.setCell ⟨w.heap.size, 0, none⟩ s) :=
  ⟨Ret.set_same hr.1, (ho.grown (Ret.grownBy_set W ⟨w.heap.size, 0, none⟩ s) (Row.nb ho (b := w.heap.size) (by omega))).mono (by omega), hc.set hc0.below.size hwp _, hk.set (Nat.le_refl _) _⟩

/-- Behind an append whose slice is stored back into the variable g. -/
theorem storeA {w0 : World} {p : Nat} {v : Value} {l : List UInt8} {w w3 w4 : World} {g : Nat} {s s4 u : Value} {m m4 : List ByteArray} (hc0 : Cur w0 p v l w) (hgw : w.heap.size < g) (hgp : g ≠ p) (hwp : w.heap.size ≠ p) (hpw : p < w.heap.size + 1)
    (ho3 : Row.Own 9 Value.string (w.heap.size + 1) w3 s m) (hc : Cur w0 p v l w3) (hk : Keep p w w3) (hr : NC w3 w.heap.size (.slice none 0 0)) (hg : w3.grownBy w4 s.ownBlock) (ho : Row.Own 9 Value.string (w.heap.size + 1) w4 s4 m4) (hx : Ret.Box w4 g u 27) :
    Row.Own 9 Value.string (w.heap.size + 1) (w4.setCell ⟨g, 0, none⟩ s4) s4 m4 ∧ Cur w0 p v l (w4.setCell ⟨g, 0, none⟩ s4) ∧ Keep p w (w4.setCell ⟨g, 0, none⟩ s4) ∧ NC (w4.setCell ⟨g, 0, none⟩ s4) w.heap.size (.slice none 0 0) ∧ Ret.Box (w4.setCell ⟨g, 0, none⟩ s4) g s4 27 := by
  have hlt := fun q hq => (ho3.lt q hq).1
  have h0 := hc0.below.size
  refine ⟨ho.grown (Ret.grownBy_set w4 ⟨g, 0, none⟩ s4) (Or.inr fun e => Row.Own.notBox ho hx (by decide) e.symm), (hc.grown hg (fun q hq => ⟨by have := hlt q hq; omega, by have := hlt q hq; omega⟩)).set (by omega) hgp _, (hk.grown hg (fun q hq => by have := hlt q hq; omega)).set (by omega) _, ?_, hx.set s4⟩
  exact (hr.grown hg (fun e => by have := hlt _ e.symm; omega)).other (a := ⟨g, 0, none⟩) (by show g ≠ w.heap.size; omega) _

set_option maxRecDepth 100000 in
set_option maxHeartbeats 4000000 in
theorem l4Any (w0 : World) (p : Nat) (v : Value) (l : List UInt8) (w : World) (hc : Cur w0 p v l w) :
    Calls Try.prog 45 #[.pointer (some ⟨p, 0, none⟩)] w (DrawnW w0 p v l w (NameIn w.heap.size 1000)) := by
  have hpl := hc.lt
  have HB := Lib.hid (l4Name w0 p v l _ (hc.alloc (.cells #[.slice none 0 0] 27)))
  have HK0 := Lib.hid (keep_alloc p w (.cells #[.slice none 0 0] 27))
  have HR0 := Lib.hid (NC.new' (w := w) (.slice none 0 0) 27 rfl)
  have HC0 := Lib.hid hc
  have hwp : w.heap.size ≠ p := by omega
  clear hc
  go_enter Try.func45, Try.ntmps45
  go_wp2_with fail
  refine HB.out.mono ?_
  rintro e w1 ⟨y, rfl, ⟨u, m, rfl, ho, hm⟩, hc1, hk1⟩
  obtain ⟨x, n, c, rfl, hn, hcap, ho⟩ := ho.shapeN
  have hz1 := hk1.size
  simp only [World.size_alloc] at hz1 ho
  have hal : Below w1.heap.size w1 (w1.alloc (.cells #[.slice x n c] 27)) := (Below.refl _ _).alloc (Nat.le_refl _) _
  have HC1 := Lib.hid (hc1.on hal)
  have HK1 := Lib.hid ((HK0.out.trans hk1).trans (Keep.of_below (p := p) hal))
  have HR1 := Lib.hid ((NC.keep HR0.out hk1 hwp).on hal)
  have HX1 := Lib.hid (Ret.Box.new' (w := w1) (.slice x n c) 27 rfl)
  have HO1 := Lib.hid (ho.on hal)
  have hb := below w0 p v l _ 8 HC1.out
  have HB2 := Lib.hid hb
  obtain ⟨g, hg⟩ : ∃ g, g = w1.heap.size := ⟨_, rfl⟩
  have hgp : g ≠ p := by have := hc1.lt; omega
  have hgw : w.heap.size < g := by omega
  have hpw : p < w.heap.size + 1 := by omega
  have hnm : n ≤ 100 := by have := Row.bigLen hm; omega
  have HN := Lib.hid hn
  clear hc1 hk1 ho hal hb HB hn
  go_wp2_with fail
  rw [← hg] at HX1 ⊢
  refine HB2.out.mono ?_
  rintro e w2 ⟨y, rfl, ⟨r, rfl, hr, _⟩, hc2, hk2⟩
  have hr := hr (by omega)
  obtain ⟨r, rfl⟩ := Int.eq_ofNat_of_zero_le hr.1
  have HC2 := Lib.hid hc2
  have HK2 := Lib.hid (HK1.out.trans hk2)
  have HR2 := Lib.hid (NC.keep HR1.out hk2 hwp)
  have HX2 := Lib.hid (box_keep HX1.out hk2 hgp)
  have HO2 := Lib.hid (rown_keep HO1.out hk2 hpw)
  clear hc2 hk2 HB2 HC1 HK1 HR1 HX1 HO1 hg
  by_cases h0 : r = 0
  · subst h0
    have hx2 := HX2.out.cell
    have hx3 := HX2.out.frozen
    have hal : Below w2.heap.size w2 (w2.alloc (.cells #[.string { data := #[] }, .string { data := #[65] }, .string { data := #[116, 111, 111, 108, 111, 110, 103, 120, 120] }, .string { data := #[97, 47, 98] }, .string { data := #[32] }, .string { data := #[101, 105, 103, 104, 116, 56, 56, 56] }] 9)).drew := ((Below.refl _ _).alloc (Nat.le_refl _) _).drew
    have HCA := Lib.hid (HC2.out.on hal)
    have HKA := Lib.hid (HK2.out.trans (Keep.of_below (p := p) hal))
    have HRA := Lib.hid (HR2.out.on hal)
    have HXA := Lib.hid (HX2.out.on hal)
    have HOA := Lib.hid (HO2.out.on hal)
    have hxA : (w2.alloc (.cells #[.string { data := #[] }, .string { data := #[65] }, .string { data := #[116, 111, 111, 108, 111, 110, 103, 120, 120] }, .string { data := #[97, 47, 98] }, .string { data := #[32] }, .string { data := #[101, 105, 103, 104, 116, 56, 56, 56] }] 9)).cell? ⟨g, 0, none⟩ = some (.slice x n c) := HXA.out.cell
    have hpr := HC2.out.lt
    have HLM := Lib.hid (show (m.length + 1) * 16 ≤ 140737488355328 by rw [← HN.out]; omega)
    have HLX := Lib.hid (show m.length + 1 ≤ maxLen by rw [← HN.out]; unfold maxLen; omega)
    clear hal
    go_wp2_with fail
    go_region_law (first | (refine step_app (enc := Value.string) (B := w.heap.size + 1) (l := m) (m := [t3]) rfl _ _ (by rfl) Try.underlying25 elemSTR rfl (by rfl) (by rfl) HO3A.out (Row.holds_one Value.string 9 w3 t3) oneStr HLM.out HLX.out hB3 ?_; intro v4 w4 ho4 hg4; obtain ⟨x4, n4, c4, rfl, hn4, hcc4, ho4⟩ := ho4.shapeN; have HO4 := Lib.hid ho4; have HG4 := Lib.hid hg4; have HX4 := Lib.hid ((HX3.out.on ((Below.refl _ _).alloc (Nat.le_refl _) (.cells #[.string t3] 9))).grown hg4 (Row.Own.notBox HO3A.out (HX3.out.on ((Below.refl _ _).alloc (Nat.le_refl _) (.cells #[.string t3] 9))) (by decide))); have hx4 := HX4.out.cell; have hx5 := HX4.out.frozen; clear ho4 hg4 hn4) | (go_simp; go_at_call 83; refine (strAt w0 p v l (w2.alloc (.cells #[.string { data := #[] }, .string { data := #[65] }, .string { data := #[116, 111, 111, 108, 111, 110, 103, 120, 120] }, .string { data := #[97, 47, 98] }, .string { data := #[32] }, .string { data := #[101, 105, 103, 104, 116, 56, 56, 56] }] 9)).drew HCA.out w2.heap.size (by omega) [{ data := #[] }, { data := #[65] }, { data := #[116, 111, 111, 108, 111, 110, 103, 120, 120] }, { data := #[97, 47, 98] }, { data := #[32] }, { data := #[101, 105, 103, 104, 116, 56, 56, 56] }] 6 rfl (by decide) (by decide) 20 (by decide) (fun j h => lits_at rfl rfl j h)).mono ?_; rintro e w3 ⟨y3, rfl, ⟨t3, rfl, ht3⟩, hc3, hk3⟩; have HC3 := Lib.hid hc3; have HK3 := Lib.hid (HKA.out.trans hk3); have HR3 := Lib.hid (NC.keep HRA.out hk3 hwp); have HX3 := Lib.hid (box_keep HXA.out hk3 hgp); have HO3 := Lib.hid (rown_keep HOA.out hk3 hpw); have HO3A := Lib.hid (HO3.out.on ((Below.refl _ _).alloc (Nat.le_refl _) (.cells #[.string t3] 9))); have hxc3 := HX3.out.cell; have hxa3 := (HX3.out.on ((Below.refl _ _).alloc (Nat.le_refl _) (.cells #[.string t3] 9))).cell; have hB3 : w.heap.size + 1 ≤ (w3.alloc (.cells #[.string t3] 9)).heap.size := (by have := HX3.out.lt; simp; omega); clear hc3 hk3))
    all_goals
      have HZ5 := Lib.hid (storeA HC0.out hgw hgp hwp hpw HO3A.out (HC3.out.on ((Below.refl _ _).alloc (Nat.le_refl _) _)) (HK3.out.trans (keep_alloc p w3 _)) (HR3.out.alloc _) HG4.out HO4.out HX4.out)
      have HO5 := Lib.hid HZ5.out.1
      have HC5 := Lib.hid HZ5.out.2.1
      have HK5 := Lib.hid HZ5.out.2.2.1
      have HR5 := Lib.hid HZ5.out.2.2.2.1
      have HX5 := Lib.hid HZ5.out.2.2.2.2
      clear hx2 hx3 hxA hxc3 hxa3 hx4 hx5 HZ5
      obtain ⟨hk8, hf8⟩ := HR5.out
      have hx8 := HX5.out.cell
      have HZ := Lib.hid (endA HC0.out hgw hwp HO5.out HC5.out HK5.out HR5.out)
      go_wp2_with fail
      refine bodyPost_ret (Ret.results_c rfl _ _ w.heap.size [_] rfl Row.aggN (Ret.one HZ.out.1)) rfl ?_
      exact ⟨_, rfl, ⟨_, _, rfl, HZ.out.2.1, by first | omega | (rw [bulk_append, bulk_one]; omega)⟩, HZ.out.2.2.1, HZ.out.2.2.2⟩
  · have h0b : ((r : Int) == 0) = false := by simpa using h0
    by_cases h1 : r = 1
    · subst h1
      have hx2 := HX2.out.cell
      have hbn : bulk m ≤ 100 + 2 * n := by omega
      have hnm2 : n ≤ 107 := by omega
      have HI := Lib.hid HX2.out.cell
      clear hx2 hm hnm
      go_wp2_with fail
      go_loopw [] (fun wr => ∃ (x : Option Addr) (n c : Nat) (m : List ByteArray), n ≤ 107 ∧ bulk m ≤ 100 + 2 * n ∧ lenAt wr g = n ∧ Hid (n = m.length) ∧ Hid (NC wr w.heap.size (.slice none 0 0)) ∧ Hid (Ret.Box wr g (.slice x n c) 27) ∧ Hid (Row.Own 9 Value.string (w.heap.size + 1) wr (.slice x n c) m) ∧ Hid (Cur w0 p v l wr) ∧ Hid (Keep p w wr)) (fun wr => 200 - lenAt wr g)
      case atStart => exact ⟨x, n, c, m, hnm2, hbn, lenAt_of HI.out, HN, HR2, HX2, HO2, HC2, HK2⟩
      case round =>
        obtain ⟨x, n, c, m, hn7, hbn, hla, HN, HR, HX, HO, HC, HK⟩ := hrel
        have HLA := Lib.hid hla
        have hx := HX.out.cell
        have hdr : Below wr.heap.size wr wr.drew := (Below.refl _ _).drew
        have HCD := Lib.hid (HC.out.on hdr)
        have HKD := Lib.hid (HK.out.trans (Keep.of_below (p := p) hdr))
        have HRD := Lib.hid (HR.out.on hdr)
        have HXD := Lib.hid (HX.out.on hdr)
        have HOD := Lib.hid (HO.out.on hdr)
        clear hla hdr
        go_wp2_with fail
        go_region_held3 (fun w' => w'.cell? ⟨g, 0, none⟩ = some (.slice x n c)) (first | exact HXD.out.cell | exact hxc3) ((go_at_call 46; refine (below w0 p v l wr.drew 3 HCD.out).mono ?_; rintro e w3 ⟨y, rfl, ⟨q, rfl, hq, hq2⟩, hc3, hk3⟩; have hxc3 := (box_keep HXD.out hk3 hgp).cell))
        have hq := hq (by omega)
        have HC3 := Lib.hid hc3
        have HK3 := Lib.hid (HKD.out.trans hk3)
        have HR3 := Lib.hid (NC.keep HRD.out hk3 hwp)
        have HX3 := Lib.hid (box_keep HXD.out hk3 hgp)
        have HO3 := Lib.hid (rown_keep HOD.out hk3 hpw)
        have hwq : IntKind.i64.wrap (5 + q) = 5 + q := by rw [IntKind.wrap_i64]; omega
        obtain ⟨q0, q1⟩ := hq
        clear hc3 hk3 hq2 hx
        rw [hwq]
        clear hwq
        by_cases hlt : (n : Int) < 5 + q
        · have HO3A := Lib.hid (HO3.out.on ((Below.refl _ _).alloc (Nat.le_refl _) (.cells #[.string { data := #[109] }] 9)))
          have HX3A := Lib.hid (HX3.out.on ((Below.refl _ _).alloc (Nat.le_refl _) (.cells #[.string { data := #[109] }] 9)))
          have HLM := Lib.hid (show (m.length + ([{ data := #[109] }] : List ByteArray).length) * 16 ≤ 140737488355328 by rw [← HN.out]; simp; omega)
          have HLX := Lib.hid (show m.length + ([{ data := #[109] }] : List ByteArray).length ≤ maxLen by rw [← HN.out]; unfold maxLen; simp; omega)
          have hB3 : w.heap.size + 1 ≤ (w3.alloc (.cells #[.string { data := #[109] }] 9)).heap.size := by have := HX3.out.lt; simp; omega
          go_wp2_with (at_builtin; refine Row.wpList_app (enc := Value.string) (B := w.heap.size + 1) (l := m) (m := [{ data := #[109] }]) rfl _ _ rfl Try.underlying25 elemSTR rfl rfl rfl HO3A.out (Row.holds_one Value.string 9 w3 _) oneStr HLM.out HLX.out hB3 ?_)
          intro v4 w4 ho4 hg4
          obtain ⟨x4, n4, c4, rfl, hn4, hcc4, ho4⟩ := ho4.shapeN
          have HX4 := Lib.hid (HX3A.out.grown hg4 (Row.Own.notBox HO3A.out HX3A.out (by decide)))
          have hx4 := HX4.out.cell
          have hx5 := HX4.out.frozen
          have HZ5 := Lib.hid (storeA HC0.out hgw hgp hwp hpw HO3A.out (HC3.out.on ((Below.refl _ _).alloc (Nat.le_refl _) _)) (HK3.out.trans (keep_alloc p w3 _)) (HR3.out.alloc _) hg4 ho4 HX4.out)
          have hn4' : n4 = n + 1 := by rw [hn4, List.length_append, HN.out]; rfl
          have HN4 := Lib.hid hn4
          have HNE := Lib.hid hn4'
          have hbk : bulk (m ++ [{ data := #[109] }]) ≤ 100 + 2 * (n + 1) := by
            rw [bulk_append, bulk_one]
            have : (ByteArray.mk #[109]).size = 1 := rfl
            omega
          clear ho4 hg4 hn4 hxc3 hn4'
          go_wp2_with fail
          go_roundw
          case rel => exact ⟨x4, n4, c4, _, by rw [HNE.out]; omega, by rw [HNE.out]; exact hbk, lenAt_of HZ5.out.2.2.2.2.cell, HN4, Lib.hid HZ5.out.2.2.2.1, Lib.hid HZ5.out.2.2.2.2, Lib.hid HZ5.out.1, Lib.hid HZ5.out.2.1, Lib.hid HZ5.out.2.2.1⟩
          case measure => rw [lenAt_of HZ5.out.2.2.2.2.cell, HLA.out, HNE.out]; omega
        · clear hxc3
          obtain ⟨hk8, hf8⟩ := HR3.out
          have hx8 := HX3.out.cell
          have HZ := Lib.hid (endA HC0.out hgw hwp HO3.out HC3.out HK3.out HR3.out)
          go_wp2_with fail
          refine bodyPost_ret (Ret.results_c rfl _ _ w.heap.size [_] rfl Row.aggN (Ret.one HZ.out.1)) rfl ?_
          exact ⟨_, rfl, ⟨_, _, rfl, HZ.out.2.1, by first | omega | (rw [bulk_append, bulk_one]; omega)⟩, HZ.out.2.2.1, HZ.out.2.2.2⟩
    · have h1b : ((r : Int) == 1) = false := beq_eq_false_iff_ne.2 (by omega)
      clear h0 h1
      obtain ⟨hk8, hf8⟩ := HR2.out
      have hx8 := HX2.out.cell
      have HZ := Lib.hid (endA HC0.out hgw hwp HO2.out HC2.out HK2.out HR2.out)
      go_wp2_with fail
      refine bodyPost_ret (Ret.results_c rfl _ _ w.heap.size [_] rfl Row.aggN (Ret.one HZ.out.1)) rfl ?_
      exact ⟨_, rfl, ⟨_, _, rfl, HZ.out.2.1, by omega⟩, HZ.out.2.2.1, HZ.out.2.2.2⟩

end Go.Proofs.Ytihcebjbkifbpaa.Draw
