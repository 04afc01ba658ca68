/- Contract of insertEntry (a new entry is placed by copy). No conditions but that lengths fit. -/
import Derived.Test.YtihcebjbkifbpaaTabFind
import Derived.Test.YtihcebjbkifbpaaTabCopy
import Derived.Test.YtihcebjbkifbpaaMany2
namespace Go.Proofs.Ytihcebjbkifbpaa.Row
open Go.ChangeShapes Go.WideShapes Go.ChangeAt Go.RowKit Go.Instr
set_option linter.unusedVariables false
set_option maxRecDepth 100000

/-- The entry's name is greater. -/
def gtN (n : List ByteArray) (x : List ByteArray × Int) : Bool := decide (0 < cmpL x.1 n)
def insT (T : List (List ByteArray × Int)) (n : List ByteArray) (v : Int) : List (List ByteArray × Int) := T.take (T.findIdx (gtN n)) ++ (n, v) :: T.drop (T.findIdx (gtN n))
def insE (L : List Ent) (x : Ent) : List Ent := L.take ((strip L).findIdx (gtN x.ps)) ++ x :: L.drop ((strip L).findIdx (gtN x.ps))
theorem strip_insE (L : List Ent) (x : Ent) : strip (insE L x) = insT (strip L) x.ps x.val := by
  unfold insE insT
  rw [strip_append, strip_take]
  congr 1
  show x.t :: strip _ = _
  rw [strip_drop]; rfl
theorem insE_perm (L : List Ent) (x : Ent) : List.Perm (insE L x) (L ++ [x]) := by
  unfold insE
  have h1 : List.Perm (L.take ((strip L).findIdx (gtN x.ps)) ++ x :: L.drop ((strip L).findIdx (gtN x.ps))) (x :: (L.take ((strip L).findIdx (gtN x.ps)) ++ L.drop ((strip L).findIdx (gtN x.ps)))) := List.perm_middle
  rw [List.take_append_drop] at h1
  exact h1.trans (List.perm_append_singleton x L).symm
theorem take_nx {α : Type} [Inhabited α] {l : List α} {k : Nat} (h : k < l.length) : l.take (k + 1) = l.take k ++ [nth l k] := by rw [List.take_succ_eq_append_getElem h, nth_eq h]
/-- The rows behind the copy and the store. -/
theorem ins_rows {L : List Ent} {x : Ent} {i : Nat} (hi : i < L.length) : (((L ++ [x]).take (i + 1) ++ ((L ++ [x]).drop i).take ((L ++ [x]).length - (i + 1))).set i x) = L.take i ++ x :: L.drop i := by
  have e1 : (L ++ [x]).take (i + 1) = L.take i ++ [nth L i] := by
    rw [List.take_append_of_le_length (by omega), take_nx hi]
  have e2 : ((L ++ [x]).drop i).take ((L ++ [x]).length - (i + 1)) = L.drop i := by
    rw [List.drop_append_of_le_length (by omega), show (L ++ [x]).length - (i + 1) = (L.drop i).length by simp, List.take_left]
  have hl : (L.take i).length = i := by rw [List.length_take]; omega
  rw [e1, e2, List.append_assoc, List.set_append_right _ _ (by omega), hl, Nat.sub_self]
  rfl
theorem TabO.perm {B : Nat} {w w' : World} {v v' : Value} {L L' : List Ent} (h : TabO B w v L) (ho : OwnK 44 encE 2 B w' v' L') (hg : w.grownBy w' v.ownBlock) (hp : List.Perm L' L) : TabO B w' v' L' :=
  h.row ho hg (fun x hx => ⟨x, hp.mem_iff.1 hx, rfl, rfl⟩) ((List.Perm.pairwise_iff (fun {x y} h => Apart.symm h) hp).2 h.2.2)

set_option maxHeartbeats 4000000 in
theorem closInsert (b : Nat) (y : Option Addr) (q cy : Nat) (m : List ByteArray) (w : World) (hc : w.cell? ⟨b, 0, none⟩ = some (.slice y q cy)) (hg : Holds Value.string w (.slice y q cy) m) (hm : m.length ≤ 9000000) : ClosT 87 #[.pointer (some ⟨b, 0, none⟩)] (gtN m) w := by
  intro x W hW hx hxl
  obtain ⟨ad, n, cap, ps, val⟩ := x
  simp only [Ent.v, Ent.t] at hx hxl ⊢
  have hcW : W.cell? ⟨b, 0, none⟩ = some (.slice y q cy) := by rw [hW.cell (cell_lt hc)]; exact hc
  have hB := (Below.refl W.heap.size W).alloc (Nat.le_refl _) (.cells #[.slice ad n cap, .int .i64 val] 44)
  have hcA : (W.alloc (.cells #[.slice ad n cap, .int .i64 val] 44)).cell? ⟨b, 0, none⟩ = some (.slice y q cy) := by rw [World.cell?_alloc_past _ _ _ (cell_lt hcW)]; exact hcW
  have HB := Lib.hid hB
  have HX := Lib.hid (hx.on hB)
  have HG := Lib.hid ((hg.on hW).on hB)
  have HXL := Lib.hid hxl
  clear hcW hB hx hg hc hW hxl
  obtain ⟨c, hcc⟩ : ∃ c, cmpL ps m = c := ⟨_, rfl⟩
  have HV := Lib.hid (show gtN m (ps, val) = decide (0 < c) by unfold gtN; rw [hcc])
  have HCC := Lib.hid hcc
  clear hcc
  go_enter Try.func87, Try.ntmps87
  go_wp2_with fail
  refine (iCmpV c HCC.out HX.out HG.out HXL.out hm).mono ?_
  rintro e w1 ⟨rfl, hb⟩
  have HB2 := Lib.hid (HB.out.trans (hb.mono HB.out.size)); clear hb
  go_wp2_with fail
  go_ret
  exact ⟨ret_bool HV.out.symm, HB2.out⟩

set_option maxHeartbeats 4000000 in
theorem insertEntry (B : Nat) (v : Value) (L : List Ent) (x : Ent) (w : World) (h : TabO B w v L) (hx : Own 9 Value.string B w x.v x.ps) (hap : ∀ y ∈ L, Apart y.v x.v) (hB : B ≤ w.heap.size) (hl : L.length ≤ 4000000) (hT : smT (strip L)) (hm : x.ps.length ≤ 9000000) :
    Calls Try.prog 49 #[v, .agg #[x.v, .int .i64 x.val]] w fun e w' => ∃ v', e = .returned v' ∧ TabO B w' v' (insE L x) ∧ Below B w w' := by
  obtain ⟨ad, m, cm, ps, val⟩ := x
  simp only [Ent.v] at hx hap hm ⊢
  have hb0 := (Below.refl w.heap.size w).alloc (Nat.le_refl _) (.cells #[.slice ad m cm, .int .i64 val] 44)
  have HC := Lib.hid (indexFuncTI ⟨w.heap.size, 0, none⟩ (gtN ps) v (strip L) _ ⟨L, rfl, (h.on hb0).holds⟩ (by rw [strip_length]; omega) hT (closInsert w.heap.size ad m cm ps _ (by rw [World.cell?_alloc_at _ _ _ _ rfl]; rfl) (hx.on hb0).holds hm))
  have HB0 := Lib.hid hb0
  have HO := Lib.hid (h.on hb0)
  have HX := Lib.hid (hx.on hb0)
  have HAP := Lib.hid hap
  have HVB := Lib.hid h.lt.1
  obtain ⟨n, hn⟩ : ∃ n, n = L.length := ⟨_, rfl⟩
  have hhl := HO.out.1.holds
  obtain ⟨xv, n', cv, rfl, hn', -, -⟩ := h.shapeN
  obtain rfl : n' = n := by omega
  rw [← hn] at hl
  have HN := Lib.hid hn
  clear h hb0 hx hap hT hn hn' hhl
  have hmf : ∀ (fn : Fn) (first cap : Array Value) (w : World), (Instr.makeFunc fn first cap).run Try.prog w = .ok (.func fn first cap) w := fun _ _ _ _ => rfl
  go_enter Try.func49, Try.ntmps49
  go_wp2_with fail
  refine HC.out.mono ?_
  rintro e w1 ⟨rfl, hb⟩
  have hv2 := var2 hb
  have hv20 := hv2.1
  have hv21 := hv2.2
  have HO1 := Lib.hid (HO.out.on hb)
  have HX1 := Lib.hid (HX.out.on hb)
  have HB1 := Lib.hid (HB0.out.trans (hb.mono HB0.out.size))
  have hal := (Below.refl w1.heap.size w1).alloc (Nat.le_refl _) (.cells #[.slice ad m cm, .int .i64 val] 44)
  have HOA := Lib.hid (HO1.out.on hal)
  have HXA := Lib.hid (HX1.out.on hal)
  have HBA := Lib.hid (HB1.out.trans (hal.mono HB1.out.size))
  have HV20 := Lib.hid hv20
  have HV21 := Lib.hid hv21
  have HLT := Lib.hid (show w.heap.size < w1.heap.size from cell_lt hv20)
  have HLM := Lib.hid (show (L.length + 1) * 32 ≤ 140737488355328 by have := HN.out; omega)
  have HLX := Lib.hid (show L.length + 1 ≤ maxLen by have := HN.out; unfold maxLen; omega)
  have HSB := Lib.hid (show B ≤ (w1.alloc (.cells #[.slice ad m cm, .int .i64 val] 44)).heap.size from Nat.le_trans hB HBA.out.size)
  clear hv2 hb hal
  obtain ⟨c, hcc⟩ : ∃ c, ixT (gtN ps) (strip L) = c := ⟨_, rfl⟩
  rw [hcc]
  have HCC := Lib.hid hcc
  clear hcc
  go_wp2_with (at_builtin; refine wpList_appK_at kindE (B := B) (l := L) (m := [⟨ad, m, cm, ps, val⟩]) rfl _ _ rfl Try.underlying24 rfl rfl HOA.out.1 (holdsK_one szE 44 w1 ⟨ad, m, cm, ps, val⟩) HLM.out HLX.out HSB.out ?_)
  intro v4 w4 ho4 hg4 hat4
  have HP4 := Lib.hid (HOA.out.push (x := ⟨ad, m, cm, ps, val⟩) HXA.out HAP.out ho4 hg4)
  have HB4 := Lib.hid ((HBA.out.mono hB).grown hg4 HSB.out (fun g hg => (HOA.out.lt.1 g hg).1))
  have hne : some w.heap.size ≠ (Value.slice xv n' cv).ownBlock := fun e => by have := (HVB.out _ e.symm).2; omega
  have hx40 : w4.cell? ⟨w.heap.size, 0, none⟩ = some (.slice ad m cm) := hg4.cell (by rw [World.cell?_alloc_past _ _ _ HLT.out]; exact HV20.out) hne
  have hx41 : w4.cell? ⟨w.heap.size, 1, none⟩ = some (.int .i64 val) := hg4.cell (by rw [World.cell?_alloc_past _ _ _ HLT.out]; exact HV21.out) hne
  have HPERM := Lib.hid (insE_perm L ⟨ad, m, cm, ps, val⟩)
  have HINS := Lib.hid (show insE L ⟨ad, m, cm, ps, val⟩ = L.take ((strip L).findIdx (gtN ps)) ++ ⟨ad, m, cm, ps, val⟩ :: L.drop ((strip L).findIdx (gtN ps)) from rfl)
  rcases HP4.out.1.form with ⟨-, h0⟩ | ⟨g4, c4, rfl, hB4, hlt4, hcap4, -⟩
  · simp at h0
  have hlen4 : (L ++ [(⟨ad, m, cm, ps, val⟩ : Ent)]).length = n' + 1 := by rw [List.length_append, ← HN.out]; rfl
  rw [hlen4] at HP4 hcap4 ⊢
  have HLEN4 := Lib.hid hlen4
  have hgb : some w.heap.size ≠ some g4 := fun e => by
    rcases hat4 with h1 | h1
    · have h2 := (HVB.out g4 h1.symm).2
      cases e; omega
    · have h2 : g4 = (w1.alloc (.cells #[.slice ad m cm, .int .i64 val] 44)).heap.size := by simpa [Value.ownBlock] using h1
      have h3 := HLT.out
      rw [World.size_alloc] at h2
      cases e; omega
  clear hat4 hne ho4 hg4 hv20 hv21 hlen4
  rcases ixT_cases (gtN ps) (strip L) with ⟨h1, h2, -⟩ | ⟨i, hi, h1, h2, -⟩
  · have hc1 : c = -1 := by rw [← HCC.out]; exact h1
    subst hc1
    have HV : Hid (insE L ⟨ad, m, cm, ps, val⟩ = L ++ [⟨ad, m, cm, ps, val⟩]) := Lib.hid (by rw [HINS.out, h2, strip_length, List.take_length, List.drop_length])
    clear h1 h2 hx40 hx41
    go_wp2_with fail
    go_ret
    exact ⟨_, rfl, by rw [HV.out]; exact HP4.out, HB4.out⟩
  · have hc1 : c = (i : Int) := by rw [← HCC.out]; exact h1
    subst hc1
    have hiL : i < L.length := by rwa [strip_length] at hi
    have HV : Hid (insE L ⟨ad, m, cm, ps, val⟩ = L.take i ++ ⟨ad, m, cm, ps, val⟩ :: L.drop i) := Lib.hid (by rw [HINS.out, h2])
    have hin : i < n' := by have := HN.out; omega
    have HR := Lib.hid (ins_rows (x := ⟨ad, m, cm, ps, val⟩) hiL)
    have HIL := Lib.hid (show i < (L ++ [(⟨ad, m, cm, ps, val⟩ : Ent)]).length by rw [HLEN4.out]; omega)
    have HPD := Lib.hid (HP4.out.on (Below.refl w4.heap.size w4).drew)
    have HBD := Lib.hid (HB4.out.trans ((Below.refl w4.heap.size w4).drew.mono (Nat.le_trans hB HB4.out.size)))
    have HX40 := Lib.hid hx40; have HX41 := Lib.hid hx41
    have hi0 : (0 : Int) ≤ (i : Int) := by omega
    have hi1 : (i : Int) < (n' : Int) := by omega
    have hi2 : IntKind.i64.wrap ((i : Int) + 1) = ((i + 1 : Nat) : Int) := by rw [Go.IntWalk.i64_left, Go.IntWalk.wrap64_in _ (by omega)]; rfl
    have hi4 : i ≤ n' := by omega
    have hi5 : (0 : Int) ≤ (i : Int) + 1 := by omega
    have hi6 : ¬ c4 = i + 1 := by omega
    have hi7 : ¬ c4 = i := by omega
    have hi8 : (i : Int) ≤ (n' : Int) + 1 := by omega
    have HKD := Lib.hid (show n' - i + (i + 1) = (L ++ [(⟨ad, m, cm, ps, val⟩ : Ent)]).length by rw [HLEN4.out]; omega)
    have HKS := Lib.hid (show n' + 1 - i + i = (L ++ [(⟨ad, m, cm, ps, val⟩ : Ent)]).length by rw [HLEN4.out]; omega)
    clear h1 h2 hi hiL hx40 hx41
    go_wp2_with fail
    go_region_law (refine step_copyK kindE (B := B) (i := i) (l := L ++ [⟨ad, m, cm, ps, val⟩]) rfl _ _ (by rfl) Try.underlying24 (by rfl) (by rfl) HKD.out HKS.out HPD.out.1 HIL.out ?_; intro w5 q5 ho5 hg5; have HO5 := Lib.hid ho5; have HG5 := Lib.hid hg5; clear ho5 hg5)
    all_goals
      have hln5 : n' + 1 = ((L ++ [(⟨ad, m, cm, ps, val⟩ : Ent)]).take (i + 1) ++ ((L ++ [(⟨ad, m, cm, ps, val⟩ : Ent)]).drop i).take ((L ++ [(⟨ad, m, cm, ps, val⟩ : Ent)]).length - (i + 1))).length := HO5.out.holds.lenEq
      have hil5 : i < ((L ++ [(⟨ad, m, cm, ps, val⟩ : Ent)]).take (i + 1) ++ ((L ++ [(⟨ad, m, cm, ps, val⟩ : Ent)]).drop i).take ((L ++ [(⟨ad, m, cm, ps, val⟩ : Ent)]).length - (i + 1))).length := by omega
      obtain ⟨r1, r2⟩ := ownK_cell szE HO5.out hln5 (j := i) (i := 0) hil5 (by decide)
      obtain ⟨r3, r4⟩ := ownK_cell szE HO5.out hln5 (j := i) (i := 1) hil5 (by decide)
      obtain ⟨s1, s2⟩ := ent_store HO5.out hln5 hil5 ⟨ad, m, cm, ps, val⟩
      rw [HR.out, ← HV.out] at s1
      have HS1 := Lib.hid (HPD.out.perm s1 (Go.World.grownBy.trans HG5.out s2) HPERM.out)
      have HS2 := Lib.hid ((HBD.out.grown HG5.out (Nat.le_trans hB HBD.out.size) (fun g hg => by cases hg; exact hB4)).grown s2 (by have := HBD.out.size; have := HG5.out.size; omega) (fun g hg => by cases hg; exact hB4))
      have hx50 : w5.cell? ⟨w.heap.size, 0, none⟩ = some (.slice ad m cm) := HG5.out.cell HX40.out hgb
      have hx51 : w5.cell? ⟨w.heap.size, 1, none⟩ = some (.int .i64 val) := HG5.out.cell HX41.out hgb
      obtain ⟨y5, hy5⟩ : ∃ y : Ent, y = nth ((L ++ [(⟨ad, m, cm, ps, val⟩ : Ent)]).take (i + 1) ++ ((L ++ [(⟨ad, m, cm, ps, val⟩ : Ent)]).drop i).take ((L ++ [(⟨ad, m, cm, ps, val⟩ : Ent)]).length - (i + 1))) i := ⟨_, rfl⟩
      rw [← hy5] at r1 r3
      have hci : w5.cell? ⟨g4, i * 2, none⟩ = some (.slice y5.ad y5.n y5.cap) := by simpa [encE, Ent.v] using r1
      have hdi : w5.cell? ⟨g4, i * 2 + 1, none⟩ = some (.int .i64 y5.val) := by simpa [encE] using r3
      have hfi : w5.frozen? ⟨g4, i * 2, none⟩ = false := by simpa using r2
      have hfj : w5.frozen? ⟨g4, i * 2 + 1, none⟩ = false := r4
      clear hln5 hil5 r1 r2 r3 r4 s1 s2 hy5 hi2
      go_wp2_with fail
      go_ret
      exact ⟨_, rfl, HS1.out, HS2.out⟩
end Go.Proofs.Ytihcebjbkifbpaa.Row
