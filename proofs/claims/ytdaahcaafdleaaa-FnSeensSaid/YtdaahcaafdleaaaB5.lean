/- Contracts and mathematics, joined: DrawWant, OpenK, NmK, RequesterK, RequesterSK, PendingInterestK, PendingInterestSK, SeenNonceK, SeenNonceSK, FindK, Clone, EqN, KWant, WantP, PendMath, PendK, RowK, JoinK, PendC0. No conditions but those that each states. -/
import Derived.Test.YtdaahcaafdleaaaB3
import Derived.Test.YtdaahcaafdleaaaB4
import Derived.SizedLaws
import Derived.ChangeSlices
import Derived.ChangeSame
import Derived.ChangeArms
import Derived.Deep.Strs
import Derived.Lib.SmallJoins
import Derived.Test.YtdaahcaafdleaaaB2
import Derived.WalkKit
import Derived.Deep.RegionHeld3
import Derived.Deep.RegionLaw
/- Contracts of the reference model's draws of interests. What was in memory stays as it was, but for the cursor. -/
namespace Go.Proofs.Ytdaahcaafdleaaa.Draw
open Go.ChangeShapes Go.WideShapes Go.ChangeAt Go.RowKit Go.Instr
open Go.Proofs.Ytdaahcaafdleaaa.Row (bulk bulk_append bulk_one bulk_nil bulk_cons wc Wt aggW)
open Go.Proofs.Ytdaahcaafdleaaa.Ret (NC Blk)
set_option linter.unusedVariables false
set_option maxRecDepth 100000
def smI (a b c : Int) : Prop := (-1 ≤ a ∧ a ≤ 1000001) ∧ (-1 ≤ b ∧ b ≤ 17) ∧ (0 ≤ c ∧ c ≤ 21)
def WantIn (B K : Nat) (x : Value) (w : World) : Prop := ∃ u m a b c, x = .agg (wc u a b c) ∧ Row.Own 9 Value.string B w u m ∧ bulk m ≤ K ∧ smI a b c
theorem endDW {w0 : World} {p : Nat} {v : Value} {l : List UInt8} {w W : World} {s s1 : Value} {a b c a1 b1 c1 : Int} {m : List ByteArray} (hc0 : Cur w0 p v l w) (hwp : w.heap.size ≠ p)
    (ho : Row.Own 9 Value.string (w.heap.size + 1) W s m) (hc : Cur w0 p v l W) (hk : Keep p w W) (hr : Blk W w.heap.size (wc s1 a1 b1 c1) 33) :
    Blk ((((W.setCell ⟨w.heap.size, 0, none⟩ s).setCell ⟨w.heap.size, 1, none⟩ (.int .i64 a)).setCell ⟨w.heap.size, 2, none⟩ (.int .i64 b)).setCell ⟨w.heap.size, 3, none⟩ (.int .i64 c)) w.heap.size (wc s a b c) 33 ∧ Row.Own 9 Value.string w.heap.size ((((W.setCell ⟨w.heap.size, 0, none⟩ s).setCell ⟨w.heap.size, 1, none⟩ (.int .i64 a)).setCell ⟨w.heap.size, 2, none⟩ (.int .i64 b)).setCell ⟨w.heap.size, 3, none⟩ (.int .i64 c)) s m ∧ Cur w0 p v l ((((W.setCell ⟨w.heap.size, 0, none⟩ s).setCell ⟨w.heap.size, 1, none⟩ (.int .i64 a)).setCell ⟨w.heap.size, 2, none⟩ (.int .i64 b)).setCell ⟨w.heap.size, 3, none⟩ (.int .i64 c)) ∧ Keep p w ((((W.setCell ⟨w.heap.size, 0, none⟩ s).setCell ⟨w.heap.size, 1, none⟩ (.int .i64 a)).setCell ⟨w.heap.size, 2, none⟩ (.int .i64 b)).setCell ⟨w.heap.size, 3, none⟩ (.int .i64 c)) := by
  have hlt : w.heap.size < w.heap.size + 1 := Nat.lt_succ_self _
  have h0 := hc0.below.size
  exact ⟨(((hr.set 0 s).set 1 (.int .i64 a)).set 2 (.int .i64 b)).set 3 (.int .i64 c), (Row.own_set (Row.own_set (Row.own_set (Row.own_set ho hlt) hlt) hlt) hlt).mono (Nat.le_of_lt hlt), (((hc.setI 0 h0 hwp s).setI 1 h0 hwp (.int .i64 a)).setI 2 h0 hwp (.int .i64 b)).setI 3 h0 hwp (.int .i64 c), (((hk.setI 0 (Nat.le_refl _) s).setI 1 (Nat.le_refl _) (.int .i64 a)).setI 2 (Nat.le_refl _) (.int .i64 b)).setI 3 (Nat.le_refl _) (.int .i64 c)⟩
theorem box4 {W : World} {g q : Nat} {u s : Value} {a b c : Int} {t : TypeId} (h : Ret.Box W g u t) (hne : g ≠ q) : Ret.Box ((((W.setCell ⟨q, 0, none⟩ s).setCell ⟨q, 1, none⟩ (.int .i64 a)).setCell ⟨q, 2, none⟩ (.int .i64 b)).setCell ⟨q, 3, none⟩ (.int .i64 c)) g u t :=
  (((h.grown (Ret.grownBy_set _ ⟨q, 0, none⟩ s) (fun e => hne (Option.some.inj e))).grown (Ret.grownBy_set _ ⟨q, 1, none⟩ (.int .i64 a)) (fun e => hne (Option.some.inj e))).grown (Ret.grownBy_set _ ⟨q, 2, none⟩ (.int .i64 b)) (fun e => hne (Option.some.inj e))).grown (Ret.grownBy_set _ ⟨q, 3, none⟩ (.int .i64 c)) (fun e => hne (Option.some.inj e))
set_option maxHeartbeats 8000000 in
theorem l7Draw (w0 : World) (p : Nat) (v : Value) (l : List UInt8) (w : World) (hc : Cur w0 p v l w) :
    Calls Try.prog 70 #[.pointer (some ⟨p, 0, none⟩)] w (DrawnW w0 p v l w (WantIn w.heap.size 1000)) := by
  have hpl := hc.lt
  have hca := hc.alloc (.cells (wc (.slice none 0 0) 0 0 0) 33)
  have HK0 := Lib.hid (keep_alloc p w (.cells (wc (.slice none 0 0) 0 0 0) 33))
  have HR0 := Lib.hid (Blk.new w (wc (.slice none 0 0) 0 0 0) 33)
  have HC0 := Lib.hid hc
  have HD := Lib.hid (l4Name w0 p v l _ hca)
  clear hc hca
  go_enter Try.func70, Try.ntmps70
  go_wp2_with fail
  refine HD.out.mono ?_
  rintro e w1 ⟨y, rfl, ⟨u, m, rfl, ho, hm⟩, hc1, hk1⟩
  obtain ⟨x, n, c, rfl, hn, -, ho⟩ := ho.shapeN
  have hz1 := hk1.size
  simp only [World.size_alloc] at hz1 ho
  have hal : Below w1.heap.size w1 (w1.alloc (.cells #[.slice x n c] 27)) := (Below.refl _ _).alloc (Nat.le_refl _) _
  have HC1 := Lib.hid (hc1.on hal)
  have HK1 := Lib.hid ((HK0.out.trans hk1).trans (Keep.of_below (p := p) hal))
  have HR1 := Lib.hid ((blk_keep HR0.out hk1 (by omega)).on hal)
  have HX1 := Lib.hid (Ret.Box.new w1 (.slice x n c) 27)
  have HO1 := Lib.hid (ho.on hal)
  have hgp : w1.heap.size ≠ p := by have := hc1.lt; omega
  have hgw : w1.heap.size ≠ w.heap.size := by omega
  have hwp : w.heap.size ≠ p := by omega
  have hpw : p < w.heap.size + 1 := by omega
  have hwg : w.heap.size ≤ w1.heap.size := by omega
  have HN := Lib.hid hn
  clear hal ho hc1 hk1 hn HD HR0 HK0 hz1
  go_upto_region 2 with fail
  generalize w1.alloc (.cells #[.slice x n c] 27) = W at *
  generalize w1.heap.size = g at *
  have hx1 := HX1.out.cell
  have hxf := HX1.out.frozen
  by_cases hn0 : n = 0
  · subst hn0
    have hal2 : Below W.heap.size W (W.alloc (.cells #[.string { data := #[97] }] 9)) := (Below.refl _ _).alloc (Nat.le_refl _) _
    have hgl := HX1.out.lt
    have hx2 : (W.alloc (.cells #[.string { data := #[97] }] 9)).cell? ⟨g, 0, none⟩ = some (.slice x 0 c) := (HX1.out.on hal2).cell
    have hx3 : (W.alloc (.cells #[.string { data := #[97] }] 9)).frozen? ⟨g, 0, none⟩ = false := (HX1.out.on hal2).frozen
    have hzs : (W.setCell ⟨g, 0, none⟩ (.slice (some ⟨W.heap.size, 0, none⟩) 1 1)).heap.size = W.heap.size := by simp [World.setCell]
    have hal3 : Below (W.setCell ⟨g, 0, none⟩ (.slice (some ⟨W.heap.size, 0, none⟩) 1 1)).heap.size (W.setCell ⟨g, 0, none⟩ (.slice (some ⟨W.heap.size, 0, none⟩) 1 1)) ((W.setCell ⟨g, 0, none⟩ (.slice (some ⟨W.heap.size, 0, none⟩) 1 1)).alloc (.cells #[.string { data := #[97] }] 9)) := (Below.refl _ _).alloc (Nat.le_refl _) _
    have HCA := Lib.hid ((HC1.out.setI 0 (Nat.le_trans HC0.out.below.size hwg) hgp (.slice (some ⟨W.heap.size, 0, none⟩) 1 1)).on hal3)
    have HKA := Lib.hid ((HK1.out.setI 0 hwg (.slice (some ⟨W.heap.size, 0, none⟩) 1 1)).trans (Keep.of_below (p := p) hal3))
    have HRA := Lib.hid ((HR1.out.grown (Ret.grownBy_set _ ⟨g, 0, none⟩ (.slice (some ⟨W.heap.size, 0, none⟩) 1 1)) (fun e => hgw (Option.some.inj e).symm)).on hal3)
    have HXA := Lib.hid ((HX1.out.set (.slice (some ⟨W.heap.size, 0, none⟩) 1 1)).on hal3)
    have hoa := (Row.own_one Value.string 9 (W.setCell ⟨g, 0, none⟩ (.slice (some ⟨W.heap.size, 0, none⟩) 1 1)) { data := #[97] }).mono (B' := w.heap.size + 1) (by rw [hzs]; have := HR1.out.lt; omega)
    rw [hzs] at hoa
    have HOA := Lib.hid hoa
    have HBM : Hid (bulk [({ data := #[97] } : ByteArray)] ≤ 1000) := Lib.hid (by rw [bulk_one]; decide)
    clear hal2 hal3 hzs hoa
    go_upto_region 4 with fail
    generalize (W.setCell ⟨g, 0, none⟩ (.slice (some ⟨W.heap.size, 0, none⟩) 1 1)).alloc (.cells #[.string { data := #[97] }] 9) = V at *
    have hdr : Below V.heap.size V V.drew := (Below.refl _ _).drew
    have HCD := Lib.hid (HCA.out.on hdr); have HKD := Lib.hid (HKA.out.trans (Keep.of_below (p := p) hdr)); have HRD := Lib.hid (HRA.out.on hdr); have HXD := Lib.hid (HXA.out.on hdr); have HOD := Lib.hid (HOA.out.on hdr)
    clear hdr HC1 HK1 HR1 HX1 HO1 HCA HKA HRA HXA HOA hx2 hx3 hx1 hxf
    have hxd := HXD.out.cell
    go_wp2_with fail
    go_region_held3 (fun w' => w'.cell? ⟨g, 0, none⟩ = some (.slice (some ⟨W.heap.size, 0, none⟩) 1 1)) (first | with_reducible exact HXD.out.cell | with_reducible exact HX3.out.cell | with_reducible exact HX4.out.cell | with_reducible exact HX5.out.cell | with_reducible exact HX6.out.cell) (first | (go_at_call 40; refine (below w0 p v l _ 6 HC4.out).mono ?_; rintro e w5 ⟨y5, rfl, ⟨r5, rfl, hr5, -⟩, hc5, hk5⟩; have hr5 := hr5 (by omega); have hw5 : IntKind.i64.wrap (1 + r5) = 1 + r5 := (by rw [IntKind.wrap_i64]; omega); have HX5 := Lib.hid (box_keep HX4.out hk5 hgp); have HC5 := Lib.hid hc5; have HK5 := Lib.hid (HK4.out.trans hk5); have HO5 := Lib.hid (rown_keep HO4.out hk5 hpw); have HR5 := Lib.hid (blk_keep HR4.out hk5 hwp); have r0 := HR5.out.cell 0; have r1 := HR5.out.cell 1; have r2 := HR5.out.cell 2; have r3 := HR5.out.cell 3; have t0 := HR5.out.frozen 0; have t1 := HR5.out.frozen 1; have t2 := HR5.out.frozen 2; have t3 := HR5.out.frozen 3; have HX6 := Lib.hid (box4 (s := (.slice (some ⟨W.heap.size, 0, none⟩) 1 1)) (a := q3) (b := q4) (c := 1 + r5) HX5.out hgw); simp only [wc, List.getElem?_toArray, List.getElem?_cons_zero, List.getElem?_cons_succ] at r0 r1 r2 r3; clear hc5 hk5) | (go_at_call 40; refine (below w0 p v l _ 5 HC3.out).mono ?_; rintro e w4 ⟨y4, rfl, ⟨q4, rfl, hr4, -⟩, hc4, hk4⟩; have hr4 := hr4 (by omega); have HX4 := Lib.hid (box_keep HX3.out hk4 hgp); have HC4 := Lib.hid hc4; have HK4 := Lib.hid (HK3.out.trans hk4); have HO4 := Lib.hid (rown_keep HO3.out hk4 hpw); have HR4 := Lib.hid (blk_keep HR3.out hk4 hwp); clear hc4 hk4) | (go_at_call 40; refine (below w0 p v l _ 9 HCD.out).mono ?_; rintro e w3 ⟨y3, rfl, ⟨q3, rfl, hr3, -⟩, hc3, hk3⟩; have hr3 := hr3 (by omega); have HX3 := Lib.hid (box_keep HXD.out hk3 hgp); have HC3 := Lib.hid hc3; have HK3 := Lib.hid (HKD.out.trans hk3); have HO3 := Lib.hid (rown_keep HOD.out hk3 hpw); have HR3 := Lib.hid (blk_keep HRD.out hk3 hwp); clear hc3 hk3))
    all_goals
      obtain ⟨z1, z2, z3, z4⟩ := endDW (s := (.slice (some ⟨W.heap.size, 0, none⟩) 1 1)) (a := q3) (b := q4) (c := 1 + r5) HC0.out hwp HO5.out HC5.out HK5.out HR5.out
      have Z1 := Lib.hid z1; have Z2 := Lib.hid z2; have Z3 := Lib.hid z3; have Z4 := Lib.hid z4
      clear z1 z2 z3 z4
      go_wp2_with fail
      refine bodyPost_ret (Ret.results_c rfl _ _ w.heap.size (wc (.slice (some ⟨W.heap.size, 0, none⟩) 1 1) q3 q4 (1 + r5)).toList rfl aggW Z1.out.cells) rfl ?_
      exact ⟨_, rfl, ⟨_, [({ data := #[97] } : ByteArray)], q3, q4, 1 + r5, rfl, Z2.out, HBM.out, by unfold smI; omega⟩, Z3.out, Z4.out⟩
  · have hne : ((n : Int) == 0) = false := by simpa using hn0
    have hdr : Below W.heap.size W W.drew := (Below.refl _ _).drew
    have HCD := Lib.hid (HC1.out.on hdr); have HKD := Lib.hid (HK1.out.trans (Keep.of_below (p := p) hdr)); have HRD := Lib.hid (HR1.out.on hdr); have HXD := Lib.hid (HX1.out.on hdr); have HOD := Lib.hid (HO1.out.on hdr)
    have HBM : Hid (bulk m ≤ 1000) := Lib.hid (by omega)
    clear hdr HC1 HK1 HR1 HO1 hn0
    have hxd := HXD.out.cell
    go_wp2_with fail
    go_region_held3 (fun w' => w'.cell? ⟨g, 0, none⟩ = some (.slice x n c)) (first | with_reducible exact HXD.out.cell | with_reducible exact HX3.out.cell | with_reducible exact HX4.out.cell | with_reducible exact HX5.out.cell | with_reducible exact HX6.out.cell) (first | (go_at_call 40; refine (below w0 p v l _ 6 HC4.out).mono ?_; rintro e w5 ⟨y5, rfl, ⟨r5, rfl, hr5, -⟩, hc5, hk5⟩; have hr5 := hr5 (by omega); have hw5 : IntKind.i64.wrap (1 + r5) = 1 + r5 := (by rw [IntKind.wrap_i64]; omega); have HX5 := Lib.hid (box_keep HX4.out hk5 hgp); have HC5 := Lib.hid hc5; have HK5 := Lib.hid (HK4.out.trans hk5); have HO5 := Lib.hid (rown_keep HO4.out hk5 hpw); have HR5 := Lib.hid (blk_keep HR4.out hk5 hwp); have r0 := HR5.out.cell 0; have r1 := HR5.out.cell 1; have r2 := HR5.out.cell 2; have r3 := HR5.out.cell 3; have t0 := HR5.out.frozen 0; have t1 := HR5.out.frozen 1; have t2 := HR5.out.frozen 2; have t3 := HR5.out.frozen 3; have HX6 := Lib.hid (box4 (s := (.slice x n c)) (a := q3) (b := q4) (c := 1 + r5) HX5.out hgw); simp only [wc, List.getElem?_toArray, List.getElem?_cons_zero, List.getElem?_cons_succ] at r0 r1 r2 r3; clear hc5 hk5) | (go_at_call 40; refine (below w0 p v l _ 5 HC3.out).mono ?_; rintro e w4 ⟨y4, rfl, ⟨q4, rfl, hr4, -⟩, hc4, hk4⟩; have hr4 := hr4 (by omega); have HX4 := Lib.hid (box_keep HX3.out hk4 hgp); have HC4 := Lib.hid hc4; have HK4 := Lib.hid (HK3.out.trans hk4); have HO4 := Lib.hid (rown_keep HO3.out hk4 hpw); have HR4 := Lib.hid (blk_keep HR3.out hk4 hwp); clear hc4 hk4) | (go_at_call 40; refine (below w0 p v l _ 9 HCD.out).mono ?_; rintro e w3 ⟨y3, rfl, ⟨q3, rfl, hr3, -⟩, hc3, hk3⟩; have hr3 := hr3 (by omega); have HX3 := Lib.hid (box_keep HXD.out hk3 hgp); have HC3 := Lib.hid hc3; have HK3 := Lib.hid (HKD.out.trans hk3); have HO3 := Lib.hid (rown_keep HOD.out hk3 hpw); have HR3 := Lib.hid (blk_keep HRD.out hk3 hwp); clear hc3 hk3))
    all_goals
      obtain ⟨z1, z2, z3, z4⟩ := endDW (s := (.slice x n c)) (a := q3) (b := q4) (c := 1 + r5) HC0.out hwp HO5.out HC5.out HK5.out HR5.out
      have Z1 := Lib.hid z1; have Z2 := Lib.hid z2; have Z3 := Lib.hid z3; have Z4 := Lib.hid z4
      clear z1 z2 z3 z4
      go_wp2_with fail
      refine bodyPost_ret (Ret.results_c rfl _ _ w.heap.size (wc (.slice x n c) q3 q4 (1 + r5)).toList rfl aggW Z1.out.cells) rfl ?_
      exact ⟨_, rfl, ⟨_, m, q3, q4, 1 + r5, rfl, Z2.out, HBM.out, by unfold smI; omega⟩, Z3.out, Z4.out⟩
end Go.Proofs.Ytdaahcaafdleaaa.Draw
namespace Go.Proofs.Ytdaahcaafdleaaa.Row
end Go.Proofs.Ytdaahcaafdleaaa.Row
namespace Go.Proofs.Ytdaahcaafdleaaa.Draw
open Go.ChangeShapes Go.WideShapes Go.ChangeAt Go.RowKit Go.Instr
open Go.Proofs.Ytdaahcaafdleaaa.Row (bulk bulk_append bulk_one bulk_nil bulk_cons wc Wt aggW)
open Go.Proofs.Ytdaahcaafdleaaa.Ret (NC Blk)
set_option linter.unusedVariables false
set_option maxRecDepth 100000
end Go.Proofs.Ytdaahcaafdleaaa.Draw
/- What comes in as an argument, in the words of kinds: which value of the kind it is, and that its parts fit. By structure: numbers, slices of texts, structs, slices of whatever. For any program. No conditions. -/
namespace Go.Proofs.Ytdaahcaafdleaaa.Row
open Go.ChangeShapes Go.WideShapes Go.ChangeAt Go.RowKit Go.Instr
set_option linter.unusedVariables false
set_option maxRecDepth 100000
def OpensK {α M : Type} (P : Program) (k : Kd α M) (t : TypeId) (ok : α → Prop) : Prop :=
  ∀ {H : Type} {enc : TypeId × Value → H} {w : World} {b2 : Nat} {held : Bool} {n : Nat} {cs : List Value} {y : DataW H × List MemPlace},
    DataW.trod enc P w b2 (fun _ => true) held n t cs = some y → ∃ m, k.cells m = cs ∧ k.holds w m ∧ ok (k.strip m)
section
variable {α M β N : Type} {P : Program} {k : Kd α M} {l : Kd β N} {t e s : TypeId} {ok : α → Prop} {ok' : β → Prop}
def OpensF {α M : Type} (P : Program) (k : Kd α M) (fs : List Field) (o : Nat) (ok : α → Prop) : Prop :=
  ∀ {H : Type} {enc : TypeId × Value → H} {w : World} {b2 : Nat} {held : Bool} {n : Nat} {cs : List Value},
    (∀ f ∈ fs, ∃ y, DataW.trod enc P w b2 (fun _ => true) held n f.type ((cs.drop f.offset).take (P.cellsOf f.type)) = some y) → ∃ m, k.cells m = (cs.drop o).take k.size ∧ k.holds w m ∧ ok (k.strip m)
theorem OpensK.imp {ok2 : α → Prop} (h : OpensK P k t ok) (hi : ∀ x, ok x → ok2 x) : OpensK P k t ok2 := by
  intro H enc w b2 held n cs y hy
  obtain ⟨m, a, b, c⟩ := h hy
  exact ⟨m, a, b, hi _ c⟩
end
end Go.Proofs.Ytdaahcaafdleaaa.Row
/- Names in the words of kinds: sz, to, eq, mark, held. No conditions but that lengths fit. -/
namespace Go.Proofs.Ytdaahcaafdleaaa.Row
open Go.ChangeShapes Go.WideShapes Go.ChangeAt Go.RowKit Go.Instr
set_option linter.unusedVariables false
set_option maxRecDepth 100000
end Go.Proofs.Ytdaahcaafdleaaa.Row
/- Requesters (three ints) in the words of kinds: the kind; to, eq. No conditions. -/
namespace Go.Proofs.Ytdaahcaafdleaaa.Row
open Go.ChangeShapes Go.WideShapes Go.ChangeAt Go.RowKit Go.Instr
set_option linter.unusedVariables false
set_option maxRecDepth 100000
abbrev Rqt := Int × Int × Int
abbrev Rqm := Int × Int × Int
def kRq : Kd Rqt Rqm := (kInt.pair (kInt.pair kInt))
def wtRq (x : Rqt) : Nat := 0
def adRq (x : Rqt) : Nat := 0
def okRq (x : Rqt) : Prop := True
section
variable {w : World} {V : Value} {x : Rqt} {B E : Nat}
end
def inRq (x : Rqt) : Prop := (Lit.int .i64 x.1).wf = true ∧ (Lit.int .i64 x.2.1).wf = true ∧ (Lit.int .i64 x.2.2).wf = true
theorem inRq.ok {x : Rqt} (h : inRq x) : okRq x := trivial
end Go.Proofs.Ytdaahcaafdleaaa.Row
/- Lists of requesters in the words of kinds: sz, to, eq. No conditions but that lengths fit. -/
namespace Go.Proofs.Ytdaahcaafdleaaa.Row
open Go.ChangeShapes Go.WideShapes Go.ChangeAt Go.RowKit Go.Instr
set_option linter.unusedVariables false
set_option maxRecDepth 100000
def kLRq : Kd (List Rqt) (Rw Rqm) := kRq.slice 80
theorem szRq_cells : Sz kRq.cells 3 := fun m => kRq.len m
def okLRq (l : List Rqt) : Prop := l.length ≤ 9223372036854775807 ∧ ∀ x ∈ l, okRq x
section
variable {w : World} {V : Value} {l : List Rqt} {B E : Nat}
theorem kLRq_at (h : kLRq.At w V l) : ∃ ad n cap L, V = .slice ad n cap ∧ n = L.length ∧ L.map kRq.strip = l ∧ HoldsK kRq.cells 3 w (.slice ad n cap) L ∧ ∀ x ∈ L, kRq.holds w x := by
  obtain ⟨⟨ad, n, cap, L⟩, hV, hl, hh, hel⟩ := h
  exact ⟨ad, n, cap, L, hV, HoldsK.lenEq (show HoldsK kRq.cells 3 w (.slice ad n cap) L from hh), hl, hh, hel⟩
theorem kLRq_len {ad : Option Addr} {n cap : Nat} (h : kLRq.At w (.slice ad n cap) l) : n = l.length := by
  obtain ⟨ad', n', cap', L, hV, hn, rfl, -, -⟩ := kLRq_at h
  cases hV
  simp [hn]
theorem kLRq_shapeA (h : kLRq.At w V l) : ∃ x n c, V = .slice x n c ∧ kLRq.At w (.slice x n c) l := by
  obtain ⟨ad, n, cap, L, rfl, -⟩ := kLRq_at h
  exact ⟨ad, n, cap, rfl, h⟩
end
theorem bulkK_Rq (l : List Rqt) : bulkK wtRq l = l.length := by
  have h : ∀ l : List Rqt, (l.map wtRq).sum = 0 := fun l => by
    induction l with
    | nil => rfl
    | cons a r ih => rw [List.map_cons, List.sum_cons, ih]; rfl
  unfold bulkK bulkKTo
  rw [List.take_length, h]
  omega
def inLRq (l : List Rqt) : Prop := l.length ≤ 9223372036854775807 ∧ ∀ x ∈ l, inRq x
theorem inLRq.ok {l : List Rqt} (h : inLRq l) : okLRq l := ⟨h.1, fun x hx => (h.2 x hx).ok⟩
def adLRq (l : List Rqt) : Nat := bulkK adRq l
end Go.Proofs.Ytdaahcaafdleaaa.Row
/- Pending interests in the words of kinds: the kind; sz, to, eq, mark, held. No conditions but that lengths fit. -/
namespace Go.Proofs.Ytdaahcaafdleaaa.Row
open Go.ChangeShapes Go.WideShapes Go.ChangeAt Go.RowKit Go.Instr
set_option linter.unusedVariables false
set_option maxRecDepth 100000
abbrev Pit := List ByteArray × List Rqt × Int
set_option synthInstance.maxSize 100000 in
instance : DecidableEq Pit := inferInstance
abbrev Pim := Rw ByteArray × Rw Rqm × Int
def kPi : Kd Pit Pim := (kN.pair (kLRq.pair kInt))
def wtPi (x : Pit) : Nat := bulk x.1 + bulkK wtRq x.2.1
def adPi (x : Pit) : Nat := x.1.length + bulkK adRq x.2.1
def okPi (x : Pit) : Prop := okN x.1 ∧ okLRq x.2.1
section
variable {w : World} {V : Value} {x : Pit} {B E : Nat}
theorem kPi_at (h : kPi.At w V x) : ∃ (x0_0 : Option Addr) (n0_0 c0_0 : Nat) (x1_0 : Option Addr) (n1_0 c1_0 : Nat), V = .agg #[.slice x0_0 n0_0 c0_0, .slice x1_0 n1_0 c1_0, .int .i64 x.2.2] ∧ kN.At w (.agg #[.slice x0_0 n0_0 c0_0]) x.1 ∧ kLRq.At w (.slice x1_0 n1_0 c1_0) x.2.1 := by
  obtain ⟨⟨m0, m1, m2⟩, rfl, rfl, g0, g1, g2⟩ := h
  obtain ⟨x0_0, n0_0, c0_0, e0, a0⟩ := kN_shapeA (Kd.at_of (k := kN) g0)
  have d0 : kN.cells m0 = [.slice x0_0 n0_0 c0_0] := by injection e0 with e; exact congrArg Array.toList e
  obtain ⟨x1_0, n1_0, c1_0, e1, a1⟩ := kLRq_shapeA (Kd.at_of (k := kLRq) g1)
  have d1 : kLRq.cells m1 = [.slice x1_0 n1_0 c1_0] := by show [kLRq.val m1] = _; rw [e1]
  refine ⟨x0_0, n0_0, c0_0, x1_0, n1_0, c1_0, ?_, e0 ▸ Kd.at_of (k := kN) g0, e1 ▸ Kd.at_of (k := kLRq) g1⟩
  show Value.agg ((kN.cells m0 ++ (kLRq.cells m1 ++ (kInt.cells m2)))).toArray = _
  rw [d0, d1]
  rfl
theorem kPi_shapeA (h : kPi.At w V x) : ∃ (x0_0 : Option Addr) (n0_0 c0_0 : Nat) (x1_0 : Option Addr) (n1_0 c1_0 : Nat), V = .agg #[.slice x0_0 n0_0 c0_0, .slice x1_0 n1_0 c1_0, .int .i64 x.2.2] ∧ kPi.At w (.agg #[.slice x0_0 n0_0 c0_0, .slice x1_0 n1_0 c1_0, .int .i64 x.2.2]) x := by
  obtain ⟨x0_0, n0_0, c0_0, x1_0, n1_0, c1_0, rfl, -⟩ := kPi_at h
  exact ⟨x0_0, n0_0, c0_0, x1_0, n1_0, c1_0, rfl, h⟩
end
def inPi (x : Pit) : Prop := okN x.1 ∧ inLRq x.2.1 ∧ (Lit.int .i64 x.2.2).wf = true
theorem inPi.ok {x : Pit} (h : inPi x) : okPi x := ⟨h.1, h.2.1.ok⟩
end Go.Proofs.Ytdaahcaafdleaaa.Row
/- Lists of pending interests in the words of kinds: sz, to, eq. No conditions but that lengths fit. -/
namespace Go.Proofs.Ytdaahcaafdleaaa.Row
open Go.ChangeShapes Go.WideShapes Go.ChangeAt Go.RowKit Go.Instr
set_option linter.unusedVariables false
set_option maxRecDepth 100000
def kLPi : Kd (List Pit) (Rw Pim) := kPi.slice 112
theorem szPi_cells : Sz kPi.cells 3 := fun m => kPi.len m
def okLPi (l : List Pit) : Prop := l.length ≤ 9223372036854775807 ∧ ∀ x ∈ l, okPi x
section
variable {w : World} {V : Value} {l : List Pit} {B E : Nat}
theorem kLPi_at (h : kLPi.At w V l) : ∃ ad n cap L, V = .slice ad n cap ∧ n = L.length ∧ L.map kPi.strip = l ∧ HoldsK kPi.cells 3 w (.slice ad n cap) L ∧ ∀ x ∈ L, kPi.holds w x := by
  obtain ⟨⟨ad, n, cap, L⟩, hV, hl, hh, hel⟩ := h
  exact ⟨ad, n, cap, L, hV, HoldsK.lenEq (show HoldsK kPi.cells 3 w (.slice ad n cap) L from hh), hl, hh, hel⟩
theorem kLPi_shapeA (h : kLPi.At w V l) : ∃ x n c, V = .slice x n c ∧ kLPi.At w (.slice x n c) l := by
  obtain ⟨ad, n, cap, L, rfl, -⟩ := kLPi_at h
  exact ⟨ad, n, cap, rfl, h⟩
theorem kLPi_elem {x : Option Addr} {n cap : Nat} {L : List Pim} (h : HoldsK kPi.cells 3 w (.slice x n cap) L) (hel : ∀ y ∈ L, kPi.holds w y) {j : Nat} (hj : j < L.length) :
    ∃ (b off : Nat) (x0 : Option Addr) (n0 c0 : Nat) (x1 : Option Addr) (n1 c1 : Nat), x = some ⟨b, off, none⟩ ∧ kPi.cells (nth L j) = [.slice x0 n0 c0, .slice x1 n1 c1, .int .i64 (kPi.strip (nth L j)).2.2] ∧ w.cell? ⟨b, off + j * 3, none⟩ = some (.slice x0 n0 c0) ∧ w.cell? ⟨b, off + j * 3 + 1, none⟩ = some (.slice x1 n1 c1) ∧ w.cell? ⟨b, off + j * 3 + 2, none⟩ = some (.int .i64 (kPi.strip (nth L j)).2.2) ∧ kPi.At w (.agg #[.slice x0 n0 c0, .slice x1 n1 c1, .int .i64 (kPi.strip (nth L j)).2.2]) (kPi.strip (nth L j)) := by
  obtain ⟨b, off, hx, hc⟩ := h.at szPi_cells hj
  obtain ⟨x0, n0, c0, x1, n1, c1, e, ha⟩ := kPi_shapeA (Kd.at_of (k := kPi) (hel _ (nth_mem hj)))
  have d : kPi.cells (nth L j) = [.slice x0 n0 c0, .slice x1 n1 c1, .int .i64 (kPi.strip (nth L j)).2.2] := by injection e with e; exact congrArg Array.toList e
  rw [d] at hc
  exact ⟨b, off, x0, n0, c0, x1, n1, c1, hx, d, by have := hc 0 (by decide); simpa [Nat.add_assoc] using this, by have := hc 1 (by decide); simpa [Nat.add_assoc] using this, by have := hc 2 (by decide); simpa [Nat.add_assoc] using this, ha⟩
end
def inLPi (l : List Pit) : Prop := l.length ≤ 9223372036854775807 ∧ ∀ x ∈ l, inPi x
theorem inLPi.ok {l : List Pit} (h : inLPi l) : okLPi l := ⟨h.1, fun x hx => (h.2 x hx).ok⟩
def adLPi (l : List Pit) : Nat := bulkK adPi l
end Go.Proofs.Ytdaahcaafdleaaa.Row
/- Seen nonces in the words of kinds: the kind; sz, to, eq, mark, held. No conditions but that lengths fit. -/
namespace Go.Proofs.Ytdaahcaafdleaaa.Row
open Go.ChangeShapes Go.WideShapes Go.ChangeAt Go.RowKit Go.Instr
set_option linter.unusedVariables false
set_option maxRecDepth 100000
abbrev Snt := List ByteArray × Int
set_option synthInstance.maxSize 100000 in
instance : DecidableEq Snt := inferInstance
abbrev Snm := Rw ByteArray × Int
def kSn : Kd Snt Snm := (kN.pair kInt)
def wtSn (x : Snt) : Nat := bulk x.1
def adSn (x : Snt) : Nat := x.1.length
def okSn (x : Snt) : Prop := okN x.1
section
variable {w : World} {V : Value} {x : Snt} {B E : Nat}
theorem kSn_at (h : kSn.At w V x) : ∃ (x0_0 : Option Addr) (n0_0 c0_0 : Nat), V = .agg #[.slice x0_0 n0_0 c0_0, .int .i64 x.2] ∧ kN.At w (.agg #[.slice x0_0 n0_0 c0_0]) x.1 := by
  obtain ⟨⟨m0, m1⟩, rfl, rfl, g0, g1⟩ := h
  obtain ⟨x0_0, n0_0, c0_0, e0, a0⟩ := kN_shapeA (Kd.at_of (k := kN) g0)
  have d0 : kN.cells m0 = [.slice x0_0 n0_0 c0_0] := by injection e0 with e; exact congrArg Array.toList e
  refine ⟨x0_0, n0_0, c0_0, ?_, e0 ▸ Kd.at_of (k := kN) g0⟩
  show Value.agg ((kN.cells m0 ++ (kInt.cells m1))).toArray = _
  rw [d0]
  rfl
theorem kSn_shapeA (h : kSn.At w V x) : ∃ (x0_0 : Option Addr) (n0_0 c0_0 : Nat), V = .agg #[.slice x0_0 n0_0 c0_0, .int .i64 x.2] ∧ kSn.At w (.agg #[.slice x0_0 n0_0 c0_0, .int .i64 x.2]) x := by
  obtain ⟨x0_0, n0_0, c0_0, rfl, -⟩ := kSn_at h
  exact ⟨x0_0, n0_0, c0_0, rfl, h⟩
end
def inSn (x : Snt) : Prop := okN x.1 ∧ (Lit.int .i64 x.2).wf = true
theorem inSn.ok {x : Snt} (h : inSn x) : okSn x := h.1
end Go.Proofs.Ytdaahcaafdleaaa.Row
/- Lists of seen nonces in the words of kinds: sz, to, eq. No conditions but that lengths fit. -/
namespace Go.Proofs.Ytdaahcaafdleaaa.Row
open Go.ChangeShapes Go.WideShapes Go.ChangeAt Go.RowKit Go.Instr
set_option linter.unusedVariables false
set_option maxRecDepth 100000
def kLSn : Kd (List Snt) (Rw Snm) := kSn.slice 38
theorem szSn_cells : Sz kSn.cells 2 := fun m => kSn.len m
theorem kindSn : Kind Try.prog 38 kSn.cells (.agg #[.slice none 0 0, .int .i64 0]) 2 32 where
  elem := by unfold ElemK; kernel_rfl
  zs := rfl
  pos := by decide
  size := szSn_cells
  one := fun m u hu => kSn.one m u hu
def okLSn (l : List Snt) : Prop := l.length ≤ 9223372036854775807 ∧ ∀ x ∈ l, okSn x
section
variable {w : World} {V : Value} {l : List Snt} {B E : Nat}
theorem kLSn_at (h : kLSn.At w V l) : ∃ ad n cap L, V = .slice ad n cap ∧ n = L.length ∧ L.map kSn.strip = l ∧ HoldsK kSn.cells 2 w (.slice ad n cap) L ∧ ∀ x ∈ L, kSn.holds w x := by
  obtain ⟨⟨ad, n, cap, L⟩, hV, hl, hh, hel⟩ := h
  exact ⟨ad, n, cap, L, hV, HoldsK.lenEq (show HoldsK kSn.cells 2 w (.slice ad n cap) L from hh), hl, hh, hel⟩
theorem kLSn_len {ad : Option Addr} {n cap : Nat} (h : kLSn.At w (.slice ad n cap) l) : n = l.length := by
  obtain ⟨ad', n', cap', L, hV, hn, rfl, -, -⟩ := kLSn_at h
  cases hV
  simp [hn]
theorem kLSn_shapeA (h : kLSn.At w V l) : ∃ x n c, V = .slice x n c ∧ kLSn.At w (.slice x n c) l := by
  obtain ⟨ad, n, cap, L, rfl, -⟩ := kLSn_at h
  exact ⟨ad, n, cap, rfl, h⟩
theorem kLSn_elem {x : Option Addr} {n cap : Nat} {L : List Snm} (h : HoldsK kSn.cells 2 w (.slice x n cap) L) (hel : ∀ y ∈ L, kSn.holds w y) {j : Nat} (hj : j < L.length) :
    ∃ (b off : Nat) (x0 : Option Addr) (n0 c0 : Nat), x = some ⟨b, off, none⟩ ∧ kSn.cells (nth L j) = [.slice x0 n0 c0, .int .i64 (kSn.strip (nth L j)).2] ∧ w.cell? ⟨b, off + j * 2, none⟩ = some (.slice x0 n0 c0) ∧ w.cell? ⟨b, off + j * 2 + 1, none⟩ = some (.int .i64 (kSn.strip (nth L j)).2) ∧ kSn.At w (.agg #[.slice x0 n0 c0, .int .i64 (kSn.strip (nth L j)).2]) (kSn.strip (nth L j)) := by
  obtain ⟨b, off, hx, hc⟩ := h.at szSn_cells hj
  obtain ⟨x0, n0, c0, e, ha⟩ := kSn_shapeA (Kd.at_of (k := kSn) (hel _ (nth_mem hj)))
  have d : kSn.cells (nth L j) = [.slice x0 n0 c0, .int .i64 (kSn.strip (nth L j)).2] := by injection e with e; exact congrArg Array.toList e
  rw [d] at hc
  exact ⟨b, off, x0, n0, c0, hx, d, by have := hc 0 (by decide); simpa [Nat.add_assoc] using this, by have := hc 1 (by decide); simpa [Nat.add_assoc] using this, ha⟩
end
def inLSn (l : List Snt) : Prop := l.length ≤ 9223372036854775807 ∧ ∀ x ∈ l, inSn x
theorem inLSn.ok {l : List Snt} (h : inLSn l) : okLSn l := ⟨h.1, fun x hx => (h.2 x hx).ok⟩
def adLSn (l : List Snt) : Nat := bulkK adSn l
end Go.Proofs.Ytdaahcaafdleaaa.Row
/- Searching a list for the first element of which something holds; what is asked of a closure that is handed to the library. For any kind. No conditions. -/
namespace Go.Proofs.Ytdaahcaafdleaaa.Row
open Go.ChangeShapes Go.WideShapes Go.ChangeAt Go.RowKit Go.Instr
set_option linter.unusedVariables false
set_option maxRecDepth 100000
section
variable {α : Type} [Inhabited α] {p : α → Bool} {l : List α} {k : Nat}
def ixL (p : α → Bool) (l : List α) : Int := if l.findIdx p < l.length then (l.findIdx p : Int) else -1
def noL (p : α → Bool) (l : List α) (k : Nat) : Prop := ∀ j, j < k → p (nth l j) = false
theorem noL_zero (p : α → Bool) (l : List α) : noL p l 0 := fun j h => absurd h (by omega)
theorem noL_succ (h : noL p l k) (hc : p (nth l k) = false) : noL p l (k + 1) := fun j h1 => by
  by_cases e : j = k
  · subst e; exact hc
  · exact h j (by omega)
theorem ixL_at (hk : k < l.length) (h : noL p l k) (hc : p (nth l k) = true) : ixL p l = k := by
  have e : l.findIdx p = k := by
    rw [List.findIdx_eq hk]
    exact ⟨by rw [← nth_eq hk]; exact hc, fun j hj => by rw [← nth_eq (Nat.lt_trans hj hk)]; exact h j hj⟩
  unfold ixL; rw [e, if_pos hk]
theorem ixL_none (h : noL p l l.length) : ixL p l = -1 := by
  have e : l.findIdx p = l.length := by
    rw [List.findIdx_eq_length]
    intro x hx
    obtain ⟨j, hj, rfl⟩ := List.getElem_of_mem hx
    rw [← nth_eq hj]; exact h j hj
  unfold ixL; rw [e, if_neg (by omega)]
theorem ixL_cases (p : α → Bool) (l : List α) : (ixL p l = -1 ∧ noL p l l.length) ∨ ∃ k, k < l.length ∧ ixL p l = (k : Int) ∧ p (nth l k) = true ∧ noL p l k := by
  by_cases h : l.findIdx p < l.length
  · refine Or.inr ⟨l.findIdx p, h, by unfold ixL; rw [if_pos h], ?_, ?_⟩
    · rw [nth_eq h]; exact List.findIdx_getElem
    · intro j hj
      rw [nth_eq (Nat.lt_trans hj h)]
      have := List.not_of_lt_findIdx hj
      simpa using this
  · have e : l.findIdx p = l.length := Nat.le_antisymm List.findIdx_le_length (by omega)
    refine Or.inl ⟨by unfold ixL; rw [if_neg h], fun j hj => ?_⟩
    rw [nth_eq hj]
    have := List.not_of_lt_findIdx (p := p) (xs := l) (i := j) (by omega)
    simpa using this
theorem any_of_noL (h : noL p l l.length) : l.any p = false := by
  rw [List.any_eq_false]
  intro x hx
  obtain ⟨j, hj, rfl⟩ := List.getElem_of_mem hx
  rw [← nth_eq hj, h j hj]
  simp
theorem any_of_at (hk : k < l.length) (hc : p (nth l k) = true) : l.any p = true := List.any_eq_true.2 ⟨_, nth_mem hk, hc⟩
theorem any_ixL (p : α → Bool) (l : List α) : l.any p = decide (0 ≤ ixL p l) := by
  rcases ixL_cases p l with ⟨e, h⟩ | ⟨k, hk, e, hc, -⟩
  · rw [e, any_of_noL h]; rfl
  · rw [e, any_of_at hk hc]; simp
theorem ixL_lt (p : α → Bool) (l : List α) : -1 ≤ ixL p l ∧ ixL p l < l.length ∨ ixL p l = -1 := by
  rcases ixL_cases p l with ⟨e, h⟩ | ⟨k, hk, e, hc, -⟩
  · exact Or.inr e
  · exact Or.inl ⟨by omega, by omega⟩
end
def ClosK {α M : Type} (P : Program) (k : Kd α M) (fid : FuncId) (cap : Array Value) (p : α → Bool) (ok : α → Prop) (w : World) : Prop :=
  ∀ (x : α) (V : Value) (W : World), Below w.heap.size w W → k.At W V x → ok x → Calls P fid (#[V] ++ cap) W fun e w' => e = .returned (.bool (p x)) ∧ Below W.heap.size W w'
theorem ClosK.on {α M : Type} {P : Program} {k : Kd α M} {fid : FuncId} {cap : Array Value} {p : α → Bool} {ok : α → Prop} {w w' : World} (h : ClosK P k fid cap p ok w) (hb : Below w.heap.size w w') : ClosK P k fid cap p ok w' := fun x V W hW => h x V W (hb.trans (hW.mono hb.size))
end Go.Proofs.Ytdaahcaafdleaaa.Row
/- Contract of the program's copy of a name. No conditions but that lengths fit. -/
namespace Go.Proofs.Ytdaahcaafdleaaa.Row
open Go.ChangeShapes Go.WideShapes Go.ChangeAt Go.RowKit Go.Instr
set_option linter.unusedVariables false
set_option maxRecDepth 100000
set_option maxHeartbeats 4000000 in
theorem cloneName (v : Value) (l : List ByteArray) (w : World) (h : Holds Value.string w v l) (hl : l.length ≤ 9000000) :
    Calls Try.prog 68 #[.agg #[v]] w (GivesN w l) := by
  obtain ⟨x, n, cap, rfl, hn, hcap, hh⟩ := h.shapeN
  have HB0 := Lib.hid (((Below.refl w.heap.size w).alloc (Nat.le_refl _) (.cells #[.slice x n cap] 27)).alloc (by simp) (.cells #[.slice none 0 0] 27))
  have HH := Lib.hid (hh.on HB0.out)
  have HR := Lib.hid (Ret.NC.new' (.slice none 0 0) 27 (w := w.alloc (.cells #[.slice x n cap] 27)) (n := w.heap.size + 1) (by simp))
  clear hh h hn
  go_enter Try.func68, Try.ntmps68
  go_wp2_with fail
  refine (cloneS _ l _ HH.out (by omega)).mono ?_
  rintro e w1 ⟨v1, rfl, ho, hb⟩
  obtain ⟨x1, n1, c1, rfl, -, -, ho1⟩ := ho.shapeN
  have HR1 := Lib.hid (HR.out.on hb)
  obtain ⟨hk, hf⟩ := HR1.out
  have HB1 := HB0.out.trans (hb.mono HB0.out.size)
  obtain ⟨q1, q2, q3⟩ := endN (w := w) (g := w.heap.size + 1) (by omega) (by simp) ho1 hk HB1
  have HQ1 := Lib.hid q1; have HQ2 := Lib.hid q2; have HQ3 := Lib.hid q3
  clear q1 q2 q3 ho ho1 hb HB1
  go_wp2
  refine bodyPost_ret (Ret.results_c rfl _ _ (w.heap.size + 1) [_] rfl aggN (Ret.one HQ1.out)) rfl ?_
  exact ⟨_, rfl, HQ2.out, HQ3.out⟩
end Go.Proofs.Ytdaahcaafdleaaa.Row
/- Names in the kinds of kstruct.py: ValidName, EqualNames, the copies, model and program. No conditions but that lengths fit. -/
namespace Go.Proofs.Ytdaahcaafdleaaa.Row
open Go.ChangeShapes Go.WideShapes Go.ChangeAt Go.RowKit Go.Instr
set_option linter.unusedVariables false
set_option maxRecDepth 100000
section
variable {w : World} {V U : Value} {l m : List ByteArray} {B E : Nat}
theorem iEqK (z : Bool) (hz : decide (l = m) = z) (h : kN.At w V l) (g : kN.At w U m) (hl : bulk l ≤ 9000000) (hm : bulk m ≤ 9000000) :
    Calls Try.prog 49 #[V, U] w fun e w' => e = .returned (.bool z) ∧ Below w.heap.size w w' := by
  obtain ⟨v, rfl, h9⟩ := kN_at h
  obtain ⟨u, rfl, g9⟩ := kN_at g
  exact hz ▸ implEqualNames v u l m w h9 g9 (by have := bulk_len l; omega) (by have := bulk_len m; omega)
theorem sCpyN (h : kN.At w V l) (hl : bulk l ≤ 9000000) : Calls Try.prog 45 #[V] w fun e w' => ∃ U, e = .returned U ∧ kN.In w.heap.size w'.heap.size w' U l ∧ Below w.heap.size w w' := by
  obtain ⟨v, rfl, h9⟩ := kN_at h
  exact (l4Copy v l w h9 (by have := bulk_len l; omega)).mono fun e w' ⟨v', a, b, c⟩ => ⟨_, a, kN_own b, c⟩
theorem iCpyN (h : kN.At w V l) (hl : bulk l ≤ 9000000) : Calls Try.prog 68 #[V] w fun e w' => ∃ U, e = .returned U ∧ kN.In w.heap.size w'.heap.size w' U l ∧ Below w.heap.size w w' := by
  obtain ⟨v, rfl, h9⟩ := kN_at h
  exact (cloneName v l w h9 (by have := bulk_len l; omega)).mono fun e w' ⟨v', a, b, c⟩ => ⟨_, a, kN_own b, c⟩
end
end Go.Proofs.Ytdaahcaafdleaaa.Row
/- Interests in the words of the exact laws: the kind; the laws' helpers for it; an interest that came in as an argument. No conditions but that lengths fit. -/
namespace Go.Proofs.Ytdaahcaafdleaaa.Row
open Go.ChangeShapes Go.WideShapes Go.ChangeAt Go.RowKit Go.Instr
set_option linter.unusedVariables false
set_option maxRecDepth 100000
def kW : Kd Wt (Rw ByteArray × Int × Int × Int) := (kNm 9).pair (kInt.pair (kInt.pair kInt))
section
variable {w : World} {v V : Value} {x : Wt} {B E : Nat}
theorem kW_at (h : kW.At w V x) : ∃ v, V = .agg (wc v x.2.1 x.2.2.1 x.2.2.2) ∧ Holds Value.string w v x.1 := by
  obtain ⟨⟨r, a, b, c⟩, rfl, rfl, h⟩ := h
  exact ⟨r.v, rfl, kNm_at (e := 9) ⟨r, rfl, rfl, h.1⟩⟩
theorem kW_of (h : Holds Value.string w v x.1) : kW.At w (.agg (wc v x.2.1 x.2.2.1 x.2.2.2)) x := by
  obtain ⟨l, a, b, c⟩ := x
  obtain ⟨m, rfl, e, h⟩ := kNm_of (e := 9) h
  exact ⟨(m, a, b, c), rfl, Prod.ext e rfl, h, trivial, trivial, trivial⟩
theorem kW_shapeA (h : kW.At w V x) : ∃ a n c, V = .agg #[.slice a n c, .int .i64 x.2.1, .int .i64 x.2.2.1, .int .i64 x.2.2.2] ∧ kW.At w (.agg #[.slice a n c, .int .i64 x.2.1, .int .i64 x.2.2.1, .int .i64 x.2.2.2]) x := by
  obtain ⟨v, rfl, ho⟩ := kW_at h
  obtain ⟨a, n, c, rfl, -⟩ := ho.shapeN
  exact ⟨a, n, c, rfl, h⟩
end
def WfW (x : Wt) : Prop := (∀ y ∈ x.1, y.size ≤ maxLen) ∧ (Lit.int .i64 x.2.1).wf = true ∧ (Lit.int .i64 x.2.2.1).wf = true ∧ (Lit.int .i64 x.2.2.2).wf = true
theorem WfW.hop {x : Wt} (h : WfW x) : x.2.2.1 ≤ 9223372036854775807 := by
  have h2 := h.2.2.1
  simp [Lit.wf] at h2
  exact h2.2
def mkW (k : Int) (x : Wt) : Wt := (marks markT k x.1.length, x.2.1, x.2.2.1, x.2.2.2)
end Go.Proofs.Ytdaahcaafdleaaa.Row
/- Contracts of the program's functions on interests: validity, AppendName, the numbers, copy, the hop limit. No conditions but that lengths fit. -/
namespace Go.Proofs.Ytdaahcaafdleaaa.Row
open Go.ChangeShapes Go.WideShapes Go.ChangeAt Go.RowKit Go.Instr
set_option linter.unusedVariables false
set_option maxRecDepth 100000
end Go.Proofs.Ytdaahcaafdleaaa.Row
/- Pending interests: what chapter 13's functions answer, as functions of lists. No conditions. -/
namespace Go.Proofs.Ytdaahcaafdleaaa.Row
open Go.ChangeShapes Go.WideShapes Go.ChangeAt Go.RowKit Go.Instr
set_option linter.unusedVariables false
set_option linter.unusedSectionVars false
set_option maxRecDepth 100000
def isP (n : List ByteArray) (x : Pit) : Bool := decide (x.1 = n)
def isS (n : List ByteArray) (k : Int) (x : Snt) : Bool := decide (x.2 = k) && decide (x.1 = n)
def nnR (k : Int) (r : Rqt) : Bool := decide (r.2.1 = k)
def fcR (f : Int) (r : Rqt) : Bool := !decide (r.1 = f)
def gtR (f : Int) (r : Rqt) : Bool := decide (f < r.1)
def wtR (now : Int) (r : Rqt) : Bool := decide (now ≤ r.2.2)
def validQ (l : List Rqt) : Nat → Bool
  | 0 => true
  | k + 1 => validQ l k && (Num.inB (nth l k).1 0 6 && Num.inB (nth l k).2.1 0 1000000 && (decide (k = 0) || decide ((nth l (k - 1)).1 < (nth l k).1)))
def validQs (l : List Rqt) : Bool := validQ l l.length && decide (0 < l.length)
def validI (x : Pit) : Bool := validN x.1 && (decide (0 < x.1.length) && (validQs x.2.1 && Num.inB x.2.2 0 100000))
def vldP (l : List Pit) : Nat → Bool
  | 0 => true
  | k + 1 => vldP l k && (validI (nth l k) && !(l.take k).any (isP (nth l k).1))
def validPs (l : List Pit) : Bool := vldP l l.length && decide (l.length ≤ 12)
def loopR (n : List ByteArray) (k : Int) (x : Pit) : Bool := isP n x && x.2.1.any (nnR k)
def loopP (l : List Pit) (s : List Snt) (w : Wt) : Bool := l.any (loopR w.1 w.2.1) || s.any (isS w.1 w.2.1)
def hasPd (l : List Pit) (n : List ByteArray) : Bool := decide (0 ≤ ixL (isP n) l)
def putO (o : List Rqt) (a : Rqt) : List Rqt := o.takeWhile (fun r => !gtR a.1 r) ++ a :: o.dropWhile (fun r => !gtR a.1 r)
def putR (l : List Rqt) (a : Rqt) : List Rqt := putO (l.filter (fcR a.1)) a
def addOk (l : List Pit) (w : Wt) (f : Int) : Bool := validW w && Num.inB f 0 6 && (decide (0 ≤ ixL (isP w.1) l) || decide ((l.length : Int) < 12))
def askR (w : Wt) (f now : Int) : Rqt := (f, w.2.1, IntKind.i64.wrap (now + w.2.2.2))
def addP (l : List Pit) (w : Wt) (f now : Int) : List Pit :=
  if addOk l w f = true then
    if 0 ≤ ixL (isP w.1) l then l.set (ixL (isP w.1) l).toNat ((nth l (ixL (isP w.1) l).toNat).1, putR (nth l (ixL (isP w.1) l).toNat).2.1 (askR w f now), (nth l (ixL (isP w.1) l).toNat).2.2)
    else l ++ [(w.1, [askR w f now], 0)]
  else l
def lastP (l : List Pit) (n : List ByteArray) : Int := if 0 ≤ ixL (isP n) l then (nth l (ixL (isP n) l).toNat).2.2 else 0
def sentP (l : List Pit) (n : List ByteArray) (now : Int) : List Pit :=
  if 0 ≤ ixL (isP n) l then l.set (ixL (isP n) l).toNat ((nth l (ixL (isP n) l).toNat).1, (nth l (ixL (isP n) l).toNat).2.1, now) else l
def satP (l : List Pit) (n : List ByteArray) : List Pit := if 0 ≤ ixL (isP n) l then l.eraseIdx (ixL (isP n) l).toNat else l
def satR (l : List Pit) (n : List ByteArray) : List Rqt := if 0 ≤ ixL (isP n) l then (nth l (ixL (isP n) l).toNat).2.1 else []
def leftP (now : Int) (x : Pit) : Pit := (x.1, x.2.1.filter (wtR now), x.2.2)
def someR (x : Pit) : Bool := decide (0 < x.2.1.length)
def expP (l : List Pit) (now : Int) : List Pit := (l.map (leftP now)).filter someR
def seenS (s : List Snt) (n : List ByteArray) (k : Int) : List Snt := if 24 < (s ++ [(n, k)]).length then (s ++ [(n, k)]).drop 1 else s ++ [(n, k)]
def eqPs (x y : List Pit) : Bool := decide (x = y)
def putM (a : Rqt) (l : List Rqt) : List Rqt × Bool :=
  if l.any (gtR a.1) then (putR l a, true) else (l.filter (fcR a.1), false)
end Go.Proofs.Ytdaahcaafdleaaa.Row
/- An element of the list of pending interests and its parts; contracts of the numbers in letters. No conditions. -/
namespace Go.Proofs.Ytdaahcaafdleaaa.Row
open Go.ChangeShapes Go.WideShapes Go.ChangeAt Go.RowKit Go.Instr
set_option linter.unusedVariables false
set_option maxRecDepth 100000
theorem kPi_parts {w : World} {x0 x1 : Option Addr} {n0 c0 n1 c1 : Nat} {u : Int} {x : Pit} (h : kPi.At w (.agg #[.slice x0 n0 c0, .slice x1 n1 c1, .int .i64 u]) x) :
    kN.At w (.agg #[.slice x0 n0 c0]) x.1 ∧ kLRq.At w (.slice x1 n1 c1) x.2.1 := by
  obtain ⟨a0, b0, d0, a1, b1, d1, e, h0, h1⟩ := kPi_at h
  simp only [Value.agg.injEq, Array.mk.injEq, List.cons.injEq, Value.slice.injEq, Value.int.injEq, and_true, true_and] at e
  obtain ⟨⟨rfl, rfl, rfl⟩, ⟨rfl, rfl, rfl⟩, rfl⟩ := e
  exact ⟨h0, h1⟩
theorem kSn_parts {w : World} {x0 : Option Addr} {n0 c0 : Nat} {u : Int} {x : Snt} (h : kSn.At w (.agg #[.slice x0 n0 c0, .int .i64 u]) x) : kN.At w (.agg #[.slice x0 n0 c0]) x.1 := by
  obtain ⟨a0, b0, d0, e, h0⟩ := kSn_at h
  simp only [Value.agg.injEq, Array.mk.injEq, List.cons.injEq, Value.slice.injEq, Value.int.injEq, and_true, true_and] at e
  obtain ⟨⟨rfl, rfl, rfl⟩, rfl⟩ := e
  exact h0
theorem noRow_kNe (e : TypeId) (h1 : 9 ≠ e) : kN.NoRow e := (Kd.NoRow.slice (e' := 9) Kd.noRow_scalar h1).wrap
theorem noRow_kSn : kSn.NoRow 38 := (noRow_kNe _ (by decide)).pair Kd.noRow_scalar
theorem wtPi_lens {x : Pit} {n : Nat} (h : wtPi x ≤ n) : bulk x.1 ≤ n ∧ x.2.1.length ≤ n := by
  have h1 := bulkK_Rq x.2.1
  unfold wtPi at h
  omega
def FitP (l : List Pit) : Prop := bulkK wtPi l ≤ 1100000
theorem FitP.len {l : List Pit} (h : FitP l) : l.length ≤ 1100000 := Nat.le_trans (bulkK_len wtPi l) h
theorem FitP.each {l : List Pit} (h : FitP l) : ∀ e ∈ l, wtPi e ≤ 1200000 := fun e he => Nat.le_trans (bulkK_mem he) (Nat.le_trans h (by decide))
def FitS (l : List Snt) : Prop := bulkK wtSn l ≤ 1100000
theorem FitS.len {l : List Snt} (h : FitS l) : l.length ≤ 1100000 := Nat.le_trans (bulkK_len wtSn l) h
theorem FitS.each {l : List Snt} (h : FitS l) : ∀ e ∈ l, bulk e.1 ≤ 1200000 := fun e he => Nat.le_trans (bulkK_mem (f := wtSn) he) (Nat.le_trans h (by decide))
end Go.Proofs.Ytdaahcaafdleaaa.Row
/- Lists that lie as rows of the call's own: a part of a row, an element more, an append within the room, a clearing behind the end; closures while a row is written. For any kind and any program. No conditions but that lengths fit. -/
namespace Go.Proofs.Ytdaahcaafdleaaa.Row
open Go.ChangeShapes Go.WideShapes Go.ChangeAt Go.RowKit Go.Instr
set_option linter.unusedVariables false
set_option linter.unusedSectionVars false
set_option maxRecDepth 100000
theorem erase_parts {α : Type} (l : List α) (k : Nat) : l.eraseIdx k = l.take k ++ l.drop (k + 1) := List.eraseIdx_eq_take_drop_succ l k
theorem take_nx {α : Type} [Inhabited α] {l : List α} {k : Nat} (h : k < l.length) : l.take (k + 1) = l.take k ++ [nth l k] := by rw [List.take_succ_eq_append_getElem h, nth_eq h]
theorem filter_nx {α : Type} [Inhabited α] {p : α → Bool} {l : List α} {k : Nat} (h : k < l.length) (hp : p (nth l k) = true) : (l.take (k + 1)).filter p = (l.take k).filter p ++ [nth l k] := by
  rw [take_nx h, List.filter_append]; simp [hp]
theorem filter_sk {α : Type} [Inhabited α] {p : α → Bool} {l : List α} {k : Nat} (h : k < l.length) (hp : p (nth l k) = false) : (l.take (k + 1)).filter p = (l.take k).filter p := by
  rw [take_nx h, List.filter_append]; simp [hp]
section
variable {α M : Type} {k : Kd α M} {B C E E' : Nat} {e : TypeId} {w w' : World} {m : M}
theorem Kd.Own.upto (h : k.Own B w.heap.size w m) (hb : Below w.heap.size w w') : k.Own B w'.heap.size w' m := (h.on hb).mono (Nat.le_refl _) hb.size
theorem sub_flat {γ δ : Type} (f : γ → List δ) {l l' : List γ} (h : l'.Sublist l) : (l'.flatMap f).Sublist (l.flatMap f) := by
  induction h with
  | slnil => exact List.Sublist.refl _
  | cons a _ ih => rw [List.flatMap_cons]; exact ih.trans (List.sublist_append_right _ _)
  | cons_cons a _ ih => rw [List.flatMap_cons, List.flatMap_cons]; exact (List.Sublist.refl _).append ih
theorem Kd.sub (hN : k.NoRow e) {r : Rw M} (h : (k.slice e).Own B C w r) {L' : List M} (hs : L'.Sublist r.els) {row : Option Nat} (hg : w.grownBy w' row) (hr : ∀ g, row = some g → r.v.ownBlock = some g)
    {ad : Option Addr} {n cap : Nat} (ho : OwnK e k.cells k.size B w' (.slice ad n cap) L') : (k.slice e).Own B w'.heap.size w' ⟨ad, n, cap, L'⟩ := by
  have hnd : (r.v.ownBlock.toList ++ r.els.flatMap k.blocks).Nodup := h.2.1
  have hnd2 := List.nodup_append.1 hnd
  have hel : ∀ y ∈ L', k.own B w' y := fun y hy => k.own_keep (h.1.2 y (hs.subset hy)) (fun g hgy => hg.block g (k.own_lt (h.1.2 y (hs.subset hy)) g hgy).2 (fun er => hnd2.2.2 g (by rw [hr g er.symm]; simp) g (List.mem_flatMap.2 ⟨y, hs.subset hy, hgy⟩) rfl))
  refine ⟨⟨ho, hel⟩, ?_, fun g hgm => ?_⟩
  · show ((Rw.v ⟨ad, n, cap, L'⟩).ownBlock.toList ++ L'.flatMap k.blocks).Nodup
    rw [List.nodup_append]
    refine ⟨by cases (Rw.v ⟨ad, n, cap, L'⟩).ownBlock <;> simp, hnd2.2.1.sublist (sub_flat k.blocks hs), fun a ha b hb eab => ?_⟩
    obtain ⟨y, hy, hyb⟩ := List.mem_flatMap.1 hb
    obtain ⟨cs, hc⟩ := ho.row (g := a) (show (Value.slice ad n cap).ownBlock = some a from Option.mem_toList.1 ha)
    rw [eab] at hc
    exact hN B w' y (hel y hy) b hyb cs hc
  · rcases List.mem_append.1 (show g ∈ (Rw.v ⟨ad, n, cap, L'⟩).ownBlock.toList ++ L'.flatMap k.blocks from hgm) with hgm | hgm
    · exact (ho.lt g (show (Value.slice ad n cap).ownBlock = some g from Option.mem_toList.1 hgm)).2
    · obtain ⟨y, hy, hyb⟩ := List.mem_flatMap.1 hgm
      exact (k.own_lt (hel y hy) g hyb).2
theorem Kd.Own.elOf {r : Rw M} (h : (k.slice e).Own B C w r) {y : M} (hy : y ∈ r.els) : k.holds w y := k.own_holds (h.1.2 y hy)
end
section
variable {P : Program} {α : Type} {enc : α → List Value} {sz : Nat} {e t : TypeId} {bytes : Nat} {z : Value}
theorem step_appFits (K : Kind P e enc z sz bytes) {ops : Array Oper} {o : Oper} {a : Act} {w : World} {K' : Act → World → Prop} {Q : Exit → Act → World → Prop} {E : Prop} (hg : o.guard = none) (s x : Operand)
    (hop : o.op = .call { callee := .builtin .append, args := #[s, x], argTypes := #[t, t] }) (ht : P.underlying t = some (.slice e)) {B g n cap : Nat} {vx : Value} {l m : List α} (hs : a.eval s = .slice (some ⟨g, 0, none⟩) n cap) (hx : a.eval x = vx) (hown : OwnK e enc sz B w (.slice (some ⟨g, 0, none⟩) n cap) l) (hsrc : HoldsK enc sz w vx m) (hroom : l.length + m.length ≤ cap)
    (hK : ∀ w' N, N = l.length + m.length → OwnK e enc sz B w' (.slice (some ⟨g, 0, none⟩) N cap) (l ++ m) → w.grownBy w' (some g) → K' (a.put o.dst (.slice (some ⟨g, 0, none⟩) N cap)) w') :
    if Region.wanted o (yielded ops a.tmps) = true then Oper.wp P o a w K' Q else E := by
  have hw : Region.wanted o (yielded ops a.tmps) = true := by simp [Region.wanted, hg]
  rw [if_pos hw]
  obtain ⟨i, h1, h2, h3, h4⟩ := info_parts K.elem
  obtain rfl : n = l.length := hown.holds.lenEq
  obtain ⟨ao, c, rfl, hcap, hc⟩ := hsrc
  have hsrc : HoldsK enc sz w (.slice ao m.length c) m := ⟨ao, c, rfl, hcap, hc⟩
  cases ao with
  | some ad =>
    obtain ⟨w', hrun, r1, r2⟩ := run_append_fits (P := P) w B t o.type e i sz ht h1 h3 g l.length cap (flat enc l) hown ad m.length c (flat enc m) (flat_length K.size m) (hsrc.cells K.size) (flat_one' K.one m) hroom
    unfold Oper.wp
    simp [execOp, hop, resolve, invoke, builtin, hs, hx, hrun, Result.andThen]
    refine hK _ _ rfl ?_ r2
    unfold OwnK
    rw [List.length_append, flat_append]; exact r1
  | none =>
    rcases hc with rfl | ⟨b, off, hc, _⟩
    · have hrun : (Builtin.append_ #[t, t] o.type #[.slice (some ⟨g, 0, none⟩) l.length cap, .slice none 0 c]).run P w = .ok (.slice (some ⟨g, 0, none⟩) l.length cap) w := by
        rcases hown.2 with ⟨hv, hn⟩ | ⟨g', cap', cur, hv, _, _, hnc, _⟩
        · cases hv
        · cases hv
          simp [Builtin.append_, run_underlying ht, sizeOf, typeInfo, h1, Builtin.lenOf, Builtin.firstCells, hnc, storeCells]
      have hx' : a.eval x = .slice none 0 c := by simpa using hx
      unfold Oper.wp
      simp [execOp, hop, resolve, invoke, builtin, hs, hx', hrun, Result.andThen]
      exact hK w l.length (by simp) (by simpa using hown) (World.grownBy.refl _ _)
    · cases hc
theorem wpList_clearPast [Inhabited α] (K : Kind P e enc z sz bytes) (hz : z.cells.toList = enc default) (hzv : ∀ w, (zeroValue e).run P w = .ok z w) {w : World} {ops : Array Oper} {rest : List Oper} {o : Oper} {a : Act} {Q : Exit → Act → World → Prop} (hgd : o.guard = none) (s : Operand)
    (ho : o.op = .call { callee := .builtin .clear, args := #[s], argTypes := #[t] }) (ht : P.underlying t = some (.slice e)) {B g n cap i k c : Nat} {l : List α} (hs : a.eval s = .slice (some ⟨g, i * sz, none⟩) k c) (hown : OwnK e enc sz B w (.slice (some ⟨g, 0, none⟩) n cap) l) (hi : i = l.length) (hk : i + k ≤ cap) (hk0 : 0 < k)
    (h : ∀ w', OwnK e enc sz B w' (.slice (some ⟨g, 0, none⟩) n cap) l → w.grownBy w' (some g) → wpList P ops Q rest (a.put o.dst (.tuple #[])) w') : wpList P ops Q (o :: rest) a w := by
  subst hi
  obtain rfl := hown.holds.lenEq
  have hown0 := hown
  rcases hown.2 with ⟨hv, _⟩ | ⟨g', cap', cur, hv, hB, hc, hnc, hmx, hks, h4⟩
  · cases hv
  cases hv
  have hzc : (Builtin.zeroCells z.cells k).toList = flat enc (List.replicate k default) := by
    rw [← madeK K.size K.pos hz k]
    unfold Builtin.zeroCells madeCells
    rw [K.zs]
  have hfl : (flat enc (List.replicate k (default : α))).length = k * sz := by rw [flat_length K.size, List.length_replicate]
  have hle : (l.length + k) * sz ≤ cap * sz := Nat.mul_le_mul_right _ hk
  rw [Nat.add_mul] at hle
  have hst := run_storeCells_at P g (l.length * sz) e (flat enc (List.replicate k default)) 0 cur w hc (by rw [hfl, hks]; omega) (flat_one' K.one _)
  rw [← hzc] at hst
  refine wpList_plain hgd fun K' hK' => ?_
  have hrun : (Builtin.clear_ #[t] o.type #[.slice (some ⟨g, l.length * sz, none⟩) k c]).run P w = .ok (.tuple #[]) (w.setRow g (cur.toList.take (l.length * sz) ++ flat enc (List.replicate k default) ++ cur.toList.drop (l.length * sz + (flat enc (List.replicate k (default : α))).length)).toArray) := by
    obtain ⟨k', rfl⟩ : ∃ k', k = k' + 1 := ⟨k - 1, by omega⟩
    rw [hzc] at hst
    simp only [Nat.add_zero] at hst
    simp [Builtin.clear_, run_underlying ht, hzv, hzc, hst]
  unfold Oper.wp
  simp [execOp, ho, resolve, invoke, builtin, hs, hrun, Result.andThen]
  refine hK' _ _ (h _ ?_ (grownBy_setRow _ _ _))
  refine ⟨hown0.1, Or.inr ⟨g, cap, _, rfl, hB, setRow_heap w g cur _ e _ hc, hnc, hmx, ?_, ?_⟩⟩
  · simp only [List.size_toArray, List.length_append, List.length_take, List.length_drop, Array.length_toList, hfl, hks]
    omega
  · show (cur.toList.take (l.length * sz) ++ (flat enc (List.replicate k default) ++ _)).take (l.length * sz) = _
    have hcl : cur.toList.length = cap * sz := by rw [Array.length_toList]; exact hks
    rw [List.take_append_of_le_length (by rw [List.length_take, hcl]; omega), List.take_take, Nat.min_self]
    exact h4
theorem holds_dropIf (hs : Sz enc sz) {w : World} {b off n cap i : Nat} {l : List α} (h : HoldsK enc sz w (.slice (some ⟨b, off, none⟩) n cap) l) (hi : i ≤ l.length) {ao : Addr} (hao : ao = ⟨b, off + i * sz, none⟩ ∨ i = l.length) : HoldsK enc sz w (.slice (some ao) (n - i) (cap - i)) (l.drop i) := by
  rcases hao with rfl | rfl
  · exact h.drop hs hi
  · obtain rfl := h.lenEq
    exact ⟨some ao, cap - l.length, by simp, by simp, Or.inl (by simp)⟩
end
def ClosR {α M : Type} (P : Program) (k : Kd α M) (fid : FuncId) (cap : Array Value) (p : α → Bool) (ok : α → Prop) (w : World) (row : Option Nat) : Prop :=
  ∀ (x : α) (V : Value) (W : World), w.grownBy W row → k.At W V x → ok x → Calls P fid (#[V] ++ cap) W fun e w' => e = .returned (.bool (p x)) ∧ Below W.heap.size W w'
theorem ClosR.plain {α M : Type} {P : Program} {k : Kd α M} {fid : FuncId} {cap : Array Value} {p : α → Bool} {ok : α → Prop} {w : World} {row : Option Nat} (h : ClosR P k fid cap p ok w row) : ClosK P k fid cap p ok w := fun x V W hW => h x V W (Sl.grown_of_below hW row)
structure MidK {M : Type} [Inhabited M] (q : M → Bool) (L L' : List M) (i j : Nat) : Prop where
  len : L'.length = L.length
  head : L'.take i = (L.take j).filter q
  rest : ∀ r, j ≤ r → r < L.length → nth L' r = nth L r
  lt : i < j
theorem MidK.keep {M : Type} [Inhabited M] {q : M → Bool} {L L' : List M} {i j : Nat} (h : MidK q L L' i j) (hj : j < L.length) (hq : q (nth L j) = true) : MidK q L (L'.set i (nth L j)) (i + 1) (j + 1) := by
  have h1 := h.len
  have h2 := h.lt
  refine ⟨by simp [h1], ?_, fun r hr hr2 => ?_, by omega⟩
  · rw [List.take_succ_eq_append_getElem (by simp; omega), List.getElem_set_self, List.take_set_of_le (Nat.le_refl _), h.head, filter_nx hj hq]
  · rw [← h.rest r (by omega) hr2]
    simp only [nth, List.getD]
    rw [List.getElem?_set_ne (by omega)]
theorem MidK.skip {M : Type} [Inhabited M] {q : M → Bool} {L L' : List M} {i j : Nat} (h : MidK q L L' i j) (hj : j < L.length) (hq : q (nth L j) = false) : MidK q L L' i (j + 1) := by
  refine ⟨h.len, ?_, fun r hr hr2 => h.rest r (by omega) hr2, by have := h.lt; omega⟩
  rw [h.head, filter_sk hj hq]
theorem MidK.start {M : Type} [Inhabited M] {q : M → Bool} {L : List M} {i : Nat} (hi : i < L.length) (hn : ∀ j, j < i → q (nth L j) = true) (hp : q (nth L i) = false) : MidK q L L i (i + 1) := by
  refine ⟨rfl, ?_, fun r _ _ => rfl, by omega⟩
  rw [filter_sk hi hp]
  symm
  rw [List.filter_eq_self]
  intro x hx
  obtain ⟨j, hj, rfl⟩ := List.getElem_of_mem hx
  have hji : j < i := by simp at hj; omega
  have := hn j hji
  rw [nth_eq (by omega)] at this
  rw [List.getElem_take, this]
end Go.Proofs.Ytdaahcaafdleaaa.Row
/- One element as a literal, what is beneath it: for any kind. No conditions. -/
namespace Go.Proofs.Ytdaahcaafdleaaa.Row
open Go.ChangeShapes Go.WideShapes Go.ChangeAt Go.RowKit Go.Instr
set_option linter.unusedVariables false
set_option maxRecDepth 100000
theorem one_k {α M : Type} {k : Kd α M} (hs : Sz k.cells k.size) {e : TypeId} {W : World} {m : M} {cs : List Value} (hd : k.cells m = cs) : HoldsK k.cells k.size (W.alloc (.cells cs.toArray e)) (.slice (some ⟨W.heap.size, 0, none⟩) 1 1) [m] := by
  subst hd
  exact holdsK_one hs e W m
theorem one_kg {α M : Type} {k : Kd α M} (hs : Sz k.cells k.size) {e : TypeId} {W : World} {m : M} {cs : List Value} {g : Nat} (hd : k.cells m = cs) (hg : g = W.heap.size) : HoldsK k.cells k.size (W.alloc (.cells cs.toArray e)) (.slice (some ⟨g, 0, none⟩) 1 1) [m] := by
  subst hg
  exact one_k hs hd
theorem Kd.Own.top {α M : Type} {k : Kd α M} {B E : Nat} {w : World} {m : M} (h : k.Own B E w m) : ∀ g ∈ k.blocks m, g < w.heap.size := fun g hg => (h.lt g hg).2.2
theorem Kd.Own.cap {α M : Type} {k : Kd α M} {B E : Nat} {w : World} {m : M} (h : k.Own B E w m) : k.Own B w.heap.size w m := ⟨h.1, h.2.1, fun g hg => (h.lt g hg).2.2⟩
theorem kN_splitP {B E : Nat} {w : World} {V : Value} {x : List ByteArray} (h : kN.In B E w V x) : ∃ (m1 : Rw ByteArray) (ya : Option Addr) (ma da : Nat), V = .agg #[.slice ya ma da] ∧ kN.strip m1 = x ∧ kN.cells m1 = [.slice ya ma da] ∧ kN.Own B E w m1 := by
  obtain ⟨m1, rfl, rfl, ho⟩ := h.split
  obtain ⟨ya, ma, da, e, -⟩ := kN_shapeA (Kd.at_of (k := kN) ho.holds)
  exact ⟨m1, ya, ma, da, e, rfl, by injection e with e; exact congrArg Array.toList e, ho⟩
end Go.Proofs.Ytdaahcaafdleaaa.Row
/- Copies: what they need. No conditions. -/
namespace Go.Proofs.Ytdaahcaafdleaaa.Row
open Go.ChangeShapes Go.WideShapes Go.ChangeAt Go.RowKit Go.Instr
set_option linter.unusedVariables false
set_option maxRecDepth 100000
theorem sn_join {B E : Nat} {w : World} {m1 : Rw ByteArray} {u : Int} (h : kN.Own B E w m1) (N : Nat) (h1 : ∀ g ∈ kN.blocks m1, g < N) : kSn.Own B N w ((m1, u) : Snm) := by
  have hn : kN.Own B N w m1 := ⟨h.1, h.2.1, h1⟩
  exact Kd.Own.join hn (Kd.own_scalar _ _ _ _) (fun q _ h => by cases h)
theorem rq_map (L : List Rqm) : L.map kRq.strip = L := by
  rw [show kRq.strip = id from rfl]
  exact List.map_id L
end Go.Proofs.Ytdaahcaafdleaaa.Row
