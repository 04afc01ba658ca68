/- Contracts of the four parts' methods and of the program's Instantiate, which calls them through an interface. No conditions but that lengths fit. -/
import Derived.Test.YtoibmgnmnmeklaaInst
import Derived.Deep.RegionLaw
namespace Go.Proofs.Ytoibmgnmnmeklaa.Row
open Go.ChangeShapes Go.WideShapes Go.ChangeAt Go.RowKit Go.Instr
set_option linter.unusedVariables false
set_option maxRecDepth 100000

/-- append to a slice of the call's own, as a step of a statement that draws its order. -/
theorem step_app {P : Program} {ops : Array Oper} {o : Oper} {a : Act} {w : World} {K : Act → World → Prop} {Q : Exit → Act → World → Prop} {E : Prop} {α : Type} [Inhabited α] {enc : α → Value} {e t : TypeId} {bytes : Nat} {z : Value}
    (hg : o.guard = none) (s x : Operand) (hop : o.op = Op.call { callee := Callee.builtin Builtin.append, args := #[s, x], argTypes := #[t, t] }) (ht : P.underlying t = some (.slice e)) (hi : Elem P e z bytes) (hz : z.cells.size = 1)
    {B : Nat} {v : Value} {ad : Addr} {n c : Nat} {l m : List α} (hs : a.eval s = v) (hx : a.eval x = .slice (some ad) n c) (hown : Own e enc B w v l) (hsrc : Holds enc w (.slice (some ad) n c) m) (h1c : ∀ x, (enc x).oneCell' = true) (hlen : (l.length + m.length) * bytes ≤ 140737488355328) (hmx : l.length + m.length ≤ maxLen) (hB : B ≤ w.heap.size)
    (hK : ∀ v' w', Own e enc B w' v' (l ++ m) → w.grownBy w' v.ownBlock → K (a.put o.dst v') w') :
    if Region.wanted o (yielded ops a.tmps) = true then Oper.wp P o a w K Q else E := by
  have hw : Region.wanted o (yielded ops a.tmps) = true := by simp [Region.wanted, hg]
  rw [if_pos hw]
  obtain ⟨i, h1, h2, h3, h4⟩ := info_parts hi
  obtain rfl := hsrc.lenEq
  obtain ⟨v', w', hrun, r1, r2, _⟩ := run_append_own (P := P) w B t o.type e i z 1 bytes ht h1 h2 h3 h4 hz (by decide) v l.length (l.map enc) hown ad m.length c (m.map enc) (by simp) hsrc.cells (oneCell h1c m) hmx hlen hB
  unfold Oper.wp
  simp [execOp, hop, resolve, invoke, builtin, hs, hx, hrun, Result.andThen]
  refine hK v' w' ?_ r2
  unfold Own
  rw [List.length_append, List.map_append]; exact r1

/-- Which function an interface value's method is. -/
theorem me_lit (s : ByteArray) (n : Nat) (w : World) : (method (n + 1) 115 (.agg #[.string s]) "loop.example/g00507/impl.instance").run Try.prog w = .ok (117, .agg #[.string s]) w := by kernel_rfl
theorem me_var (s : ByteArray) (n : Nat) (w : World) : (method (n + 1) 118 (.agg #[.string s]) "loop.example/g00507/impl.instance").run Try.prog w = .ok (119, .agg #[.string s]) w := by kernel_rfl
theorem me_any (n : Nat) (w : World) : (method (n + 1) 116 (.agg #[]) "loop.example/g00507/impl.instance").run Try.prog w = .ok (118, .agg #[]) w := by kernel_rfl
theorem me_rest (n : Nat) (w : World) : (method (n + 1) 106 (.agg #[]) "loop.example/g00507/impl.instance").run Try.prog w = .ok (116, .agg #[]) w := by kernel_rfl

set_option maxHeartbeats 1000000 in
theorem litInst (s : ByteArray) (v : Value) (w : World) :
    Calls Try.prog 117 #[.agg #[.string s], v] w fun e w' => e = .returned (.string s) ∧ Below w.heap.size w w' := by
  go_enter Try.func117, Try.ntmps117
  go_wp2
  go_ret
  exact ⟨rfl, (Below.refl _ _).alloc (Nat.le_refl _) _⟩
set_option maxHeartbeats 1000000 in
theorem anyInst (v : Value) (w : World) :
    Calls Try.prog 118 #[.agg #[], v] w fun e w' => e = .returned (.string ByteArray.empty) ∧ Below w.heap.size w w' := by
  go_enter Try.func118, Try.ntmps118
  go_wp2
  go_ret
  exact ⟨rfl, by first | exact Below.refl _ _ | exact (Below.refl _ _).alloc (Nat.le_refl _) _⟩
set_option maxHeartbeats 1000000 in
theorem restInst (v : Value) (w : World) :
    Calls Try.prog 116 #[.agg #[], v] w fun e w' => e = .returned (.string ByteArray.empty) ∧ Below w.heap.size w w' := by
  go_enter Try.func116, Try.ntmps116
  go_wp2
  go_ret
  exact ⟨rfl, by first | exact Below.refl _ _ | exact (Below.refl _ _).alloc (Nat.le_refl _) _⟩
set_option maxHeartbeats 1000000 in
theorem varInst (s : ByteArray) (v : Value) (l : List (ByteArray × ByteArray)) (w : World) (h : HoldsK encBd 2 w v l) (hl : l.length ≤ 2000000) :
    Calls Try.prog 119 #[.agg #[.string s], v] w fun e w' => e = .returned (.string (bvB l s)) ∧ Below w.heap.size w w' := by
  have b0 := (Below.refl w.heap.size w).alloc (Nat.le_refl _) (.cells #[.string s] 118)
  have HH := Lib.hid (h.on b0); have HB := Lib.hid b0
  obtain ⟨x, n, c, rfl, -, -, -⟩ := h.shapeN
  clear h b0
  go_enter Try.func119, Try.ntmps119
  go_wp2_with fail
  refine (implBindingValue _ l s _ HH.out (by omega)).mono ?_
  rintro e w1 ⟨rfl, hb1⟩
  have HB1 := Lib.hid (HB.out.trans (hb1.mono HB.out.size))
  clear hb1
  go_wp2
  go_ret
  exact ⟨rfl, HB1.out⟩

set_option maxHeartbeats 4000000 in
theorem implInstantiate (vp v : Value) (p : List ByteArray) (l : List (ByteArray × ByteArray)) (w : World) (hp : Holds Value.string w vp p) (hv : HoldsK encBd 2 w v l) (hpb : bulk p ≤ 2000000) (hlb : bulk2 l ≤ 2000000) :
    Calls Try.prog 20 #[.agg #[vp], v] w (GivesNB w (instN p l) (instOk p l)) := by
  obtain ⟨xp, np, cp, rfl, hnp, hcp, hp⟩ := hp.shapeN
  obtain ⟨x, n, c, rfl, hn, hc, hv⟩ := hv.shapeN
  have hll := Nat.le_trans (bulk2_len l) hlb
  have HV := Lib.hid hv; have HPB := Lib.hid hpb; have HLB := Lib.hid hlb
  have b0 := ((Below.refl w.heap.size w).alloc (Nat.le_refl _) (.cells #[.slice xp np cp] 26)).alloc (by simp) (.cells #[.slice none 0 0] 27)
  have HP := Lib.hid (hp.on b0); have HB0 := Lib.hid b0
  have HR0 : Hid (Ret.Box ((w.alloc (.cells #[.slice xp np cp] 26)).alloc (.cells #[.slice none 0 0] 27)) (w.heap.size + 1) (.slice none 0 0) 27) := Lib.hid (Ret.Box.new' (w := w.alloc (.cells #[.slice xp np cp] 26)) (.slice none 0 0) 27 (by simp))
  clear hp hv hnp hn hpb hlb b0
  go_enter Try.func20, Try.ntmps20
  go_wp2_with fail
  refine (readParts _ p _ HP.out (by have := HPB.out; omega)).mono ?_
  rintro e w1 ⟨v1, rfl, ho1, hb1⟩
  obtain ⟨x1, n1, c1, rfl, hn1, hc1, ho1⟩ := ho1.shapeN
  have HB1 := Lib.hid (HB0.out.trans (hb1.mono HB0.out.size)); have HR1 := Lib.hid (HR0.out.on hb1)
  have HZ1 := Lib.hid (show w.heap.size ≤ w1.heap.size from HB1.out.size)
  have HO1 := Lib.hid ho1; have HN1 := Lib.hid hn1
  clear hb1 ho1 hn1
  cases hvp : validPat p with
  | false =>
    have HPO := Lib.hid (show instOk p l = false by unfold instOk; rw [hvp]; rfl)
    have HPN := Lib.hid (instN_no HPO.out)
    clear hvp
    obtain ⟨hk2, hf2⟩ := HR1.out.nc
    obtain ⟨q1, q2, q3⟩ := endN (w := w) (g := w.heap.size + 1) (B := w.heap.size + 1 + 1) (v := .slice none 0 0) (l := []) (by omega) (by omega) (Own.nil _ _ _ _) hk2 HB1.out
    have HQ1 := Lib.hid q1; have HQ2 := Lib.hid q2; have HQ3 := Lib.hid q3
    clear q1 q2 q3
    go_wp2
    refine bodyPost_ret (Ret.results_ct rfl _ _ (w.heap.size + 1) [_] rfl aggN (Ret.one HQ1.out)) rfl ?_
    exact ⟨_, ret_nb HPO.out.symm, by rw [HPN.out]; exact HQ2.out, HQ3.out⟩
  | true =>
  have HVP := Lib.hid hvp
  have HO1 := Lib.hid (show Own 89 encPt _ w1 (.slice x1 n1 c1) p by have := HO1.out; rw [hvp] at this; exact this)
  have HN1 := Lib.hid (show n1 = p.length by have := HN1.out; rw [hvp] at this; exact this)
  have hp6 := (validPat_iff.1 hvp).1
  rw [← HN1.out] at hp6
  have HF1 := Lib.hid (Holds.far HO1.out.holds)
  clear hvp
  obtain ⟨i0, hi, hz0, hz1, hz2⟩ := info_parts elemSTR
  have HI := Lib.hid hi; have HI0 := Lib.hid hz0; have HI1 := Lib.hid hz1; have HI2 := Lib.hid hz2
  clear hi hz0 hz1 hz2
  go_wp2_with (at_make; refine wpList_make_own _ rfl _ _ 24 rfl w1.heap.size 9 i0 (.string ByteArray.empty) 1 Try.underlying24 HI.out HI0.out HI1.out _ _ _ n1 rfl rfl rfl (by rw [HI2.out]; omega) (by unfold maxLen; omega) (Nat.le_refl _) ?_)
  intro w2 hown hgrow
  have HO2 := Lib.hid (show Own 9 Value.string w1.heap.size w2 (.slice (some ⟨w1.heap.size, 0, none⟩) 0 n1) [] from hown)
  have HR2 := Lib.hid (HR1.out.grown hgrow (by simp))
  have HB2 := Lib.hid (HB1.out.grown hgrow HB1.out.size (fun g hg => by cases hg))
  have HB21 := Lib.hid ((Below.refl w1.heap.size w1).grown hgrow (Nat.le_refl _) (fun g hg => by cases hg))
  clear hown hgrow
  have HO3 := Lib.hid (HO2.out.on ((Below.refl _ _).alloc (Nat.le_refl _) (.cells #[.slice (some ⟨w1.heap.size, 0, none⟩) 0 n1] 27)))
  have HR3 := Lib.hid (HR2.out.on ((Below.refl _ _).alloc (Nat.le_refl _) (.cells #[.slice (some ⟨w1.heap.size, 0, none⟩) 0 n1] 27)))
  have HB3 := Lib.hid (HB2.out.alloc HB2.out.size (.cells #[.slice (some ⟨w1.heap.size, 0, none⟩) 0 n1] 27))
  have HB31 := Lib.hid (HB21.out.alloc HB21.out.size (.cells #[.slice (some ⟨w1.heap.size, 0, none⟩) 0 n1] 27))
  obtain ⟨g, hgd⟩ : ∃ g, g = w2.heap.size := ⟨_, rfl⟩
  have HT3 := Lib.hid (Ret.Box.new' (w := w2) (.slice (some ⟨w1.heap.size, 0, none⟩) 0 n1) 27 hgd)
  have hgB : w1.heap.size ≤ g := by rw [hgd]; exact HB21.out.size
  have HGD := Lib.hid hgd
  go_wp2_with fail
  rw [← hgd]
  clear hgd HO2 HR2 HB2 HB21 HB0 HP HR0 HB1
  go_loopw [25] (fun iv wr => ∃ (k : Nat) (u : Value), k ≤ n1 ∧ iv = .int .i64 k ∧ Hid (Own 9 Value.string w1.heap.size wr u (mapTo (instI l) p k)) ∧ Hid (Ret.Box wr g u 27) ∧ Hid (Ret.Box wr (w.heap.size + 1) (.slice none 0 0) 27) ∧ Hid (Below w.heap.size w wr) ∧ Hid (Below w1.heap.size w1 wr)) (fun iv _ => n1 - (intOf iv).toNat)
  case atStart => exact ⟨0, _, Nat.zero_le _, rfl, HO3, HT3, HR3, HB3, HB31⟩
  case round =>
    obtain ⟨k, u, hk, rfl, ho, ht, hr, hb, hb1⟩ := hrel
    by_cases hlt : k < n1
    · have hkp : k < p.length := by have := HN1.out; omega
      obtain ⟨b, off, rfl, hd⟩ := (HF1.out.below hb1.out).at hkp
      rcases validPat_elem HVP.out hkp with hs | hs | hs | hs
      · rw [encPt_lit hs] at hd
        have HKP := Lib.hid hkp
        have HLEN := Lib.hid (show (mapTo (instI l) p k).length = k by unfold mapTo; rw [List.length_map, List.length_take]; omega)
        have HLM := Lib.hid (show ((mapTo (instI l) p k).length + [nth p k].length) * 16 ≤ 140737488355328 by rw [HLEN.out]; simp; omega)
        have HLX := Lib.hid (show (mapTo (instI l) p k).length + [nth p k].length ≤ maxLen by rw [HLEN.out]; unfold maxLen; simp; omega)
        have HX := Lib.hid (show mapTo (instI l) p k ++ [nth p k] = mapTo (instI l) p (k + 1) by rw [← mapTo_succ (instI l) hkp]; unfold instI; rw [if_pos hs])
        clear hkp
        clear hs
        have hdr : Below wr.heap.size wr wr.drew := (Below.refl _ _).drew
        have HVd := Lib.hid ((HV.out.on hb.out).on hdr); have HOd := Lib.hid (ho.out.on hdr); have HTd := Lib.hid (ht.out.on hdr); have HRd := Lib.hid (hr.out.on hdr)
        have HBd := Lib.hid (hb.out.trans (hdr.mono hb.out.size)); have HBd1 := Lib.hid (hb1.out.trans (hdr.mono hb1.out.size))
        have htd := HTd.out.cell
        clear hdr
        obtain ⟨xu, nu, cu, rfl, -, -, -⟩ := ho.out.shapeN
        have hme := fun n w => me_lit (nth p k) n w
        go_wp2_with fail
        go_region_law (first | (refine step_app (enc := Value.string) (B := w1.heap.size) (l := mapTo (instI l) p k) (m := [nth p k]) rfl _ _ (by rfl) Try.underlying24 elemSTR rfl (by rfl) (by rfl) HOA.out (holds_one Value.string 9 w3 (nth p k)) oneStr HLM.out HLX.out hB3 ?_; intro v4 w4 ho4 hg4; obtain ⟨x4, n4, c4, rfl, -, -, ho4⟩ := ho4.shapeN; have HO4 := Lib.hid ho4; have HG4 := Lib.hid hg4; have HT4 := Lib.hid (HTA.out.grown hg4 (Own.notBox HOA.out HTA.out (by decide))); have ht4 := HT4.out.cell; have ht5 := HT4.out.frozen; clear ho4 hg4) | (go_simp; go_at_call 117; refine (litInst (nth p k) _ _).mono ?_; rintro e w3 ⟨rfl, hb3⟩; have HT3 := Lib.hid (HTd.out.on hb3); have HOA := Lib.hid ((HOd.out.on hb3).on ((Below.refl _ _).alloc (Nat.le_refl _) (.cells #[.string (nth p k)] 9))); have HTA := Lib.hid (HT3.out.on ((Below.refl _ _).alloc (Nat.le_refl _) (.cells #[.string (nth p k)] 9))); have HRA := Lib.hid ((HRd.out.on hb3).on ((Below.refl _ _).alloc (Nat.le_refl _) (.cells #[.string (nth p k)] 9))); have HBA := Lib.hid ((HBd.out.trans (hb3.mono HBd.out.size)).alloc (Nat.le_trans HBd.out.size hb3.size) (.cells #[.string (nth p k)] 9)); have HBA1 := Lib.hid ((HBd1.out.trans (hb3.mono HBd1.out.size)).alloc (Nat.le_trans HBd1.out.size hb3.size) (.cells #[.string (nth p k)] 9)); have ht3 := HT3.out.cell; have hta := HTA.out.cell; have hB3 : w1.heap.size ≤ (w3.alloc (.cells #[.string (nth p k)] 9)).heap.size := HBA1.out.size; clear hb3))
        all_goals
          have hgs : w4.grownBy (w4.setCell ⟨g, 0, none⟩ (.slice x4 n4 c4)) (some g) := Ret.grownBy_set w4 ⟨g, 0, none⟩ (.slice x4 n4 c4)
          have HT6 := Lib.hid (HT4.out.set (.slice x4 n4 c4))
          have HO6 := Lib.hid (HX.out ▸ HO4.out.grown hgs (Or.inr fun e => Own.notBox HO4.out HT4.out (by decide) e.symm))
          have HR6 := Lib.hid ((HRA.out.grown HG4.out (fun e => by have := (HOA.out.lt _ e.symm).1; have := HR1.out.lt; omega)).grown hgs (fun e => by have := Option.some.inj e; have := HR1.out.lt; omega))
          have HB6 := Lib.hid ((HBA.out.grown HG4.out HBA.out.size (fun q hq => by have := (HOA.out.lt q hq).1; have := HR1.out.lt; omega)).setCell (p := ⟨g, 0, none⟩) (Nat.le_trans HZ1.out hgB) (.slice x4 n4 c4))
          have HB61 := Lib.hid ((HBA1.out.grown HG4.out HBA1.out.size (fun q hq => (HOA.out.lt q hq).1)).setCell (p := ⟨g, 0, none⟩) hgB (.slice x4 n4 c4))
          clear hgs ht4 ht5 ht3 hta htd
          go_wp2_with fail
          go_roundw
          case rel => exact ⟨k + 1, _, by omega, by go_num, HO6, HT6, HR6, HB6, HB61⟩
          case measure => simp [intOf]; omega
      · rw [encPt_any hs] at hd
        have HKP := Lib.hid hkp
        have HLEN := Lib.hid (show (mapTo (instI l) p k).length = k by unfold mapTo; rw [List.length_map, List.length_take]; omega)
        have HLM := Lib.hid (show ((mapTo (instI l) p k).length + [ByteArray.empty].length) * 16 ≤ 140737488355328 by rw [HLEN.out]; simp; omega)
        have HLX := Lib.hid (show (mapTo (instI l) p k).length + [ByteArray.empty].length ≤ maxLen by rw [HLEN.out]; unfold maxLen; simp; omega)
        have HX := Lib.hid (show mapTo (instI l) p k ++ [ByteArray.empty] = mapTo (instI l) p (k + 1) by rw [← mapTo_succ (instI l) hkp]; unfold instI; rw [if_neg (by rw [hs, star_validP]; simp), if_neg (by rw [hs, star_letterP]; simp)])
        clear hkp
        clear hs
        have hdr : Below wr.heap.size wr wr.drew := (Below.refl _ _).drew
        have HVd := Lib.hid ((HV.out.on hb.out).on hdr); have HOd := Lib.hid (ho.out.on hdr); have HTd := Lib.hid (ht.out.on hdr); have HRd := Lib.hid (hr.out.on hdr)
        have HBd := Lib.hid (hb.out.trans (hdr.mono hb.out.size)); have HBd1 := Lib.hid (hb1.out.trans (hdr.mono hb1.out.size))
        have htd := HTd.out.cell
        clear hdr
        obtain ⟨xu, nu, cu, rfl, -, -, -⟩ := ho.out.shapeN
        have hme := fun n w => me_any n w
        go_wp2_with fail
        go_region_law (first | (refine step_app (enc := Value.string) (B := w1.heap.size) (l := mapTo (instI l) p k) (m := [ByteArray.empty]) rfl _ _ (by rfl) Try.underlying24 elemSTR rfl (by rfl) (by rfl) HOA.out (holds_one Value.string 9 w3 (ByteArray.empty)) oneStr HLM.out HLX.out hB3 ?_; intro v4 w4 ho4 hg4; obtain ⟨x4, n4, c4, rfl, -, -, ho4⟩ := ho4.shapeN; have HO4 := Lib.hid ho4; have HG4 := Lib.hid hg4; have HT4 := Lib.hid (HTA.out.grown hg4 (Own.notBox HOA.out HTA.out (by decide))); have ht4 := HT4.out.cell; have ht5 := HT4.out.frozen; clear ho4 hg4) | (go_simp; go_at_call 118; refine (anyInst _ _).mono ?_; rintro e w3 ⟨rfl, hb3⟩; have HT3 := Lib.hid (HTd.out.on hb3); have HOA := Lib.hid ((HOd.out.on hb3).on ((Below.refl _ _).alloc (Nat.le_refl _) (.cells #[.string (ByteArray.empty)] 9))); have HTA := Lib.hid (HT3.out.on ((Below.refl _ _).alloc (Nat.le_refl _) (.cells #[.string (ByteArray.empty)] 9))); have HRA := Lib.hid ((HRd.out.on hb3).on ((Below.refl _ _).alloc (Nat.le_refl _) (.cells #[.string (ByteArray.empty)] 9))); have HBA := Lib.hid ((HBd.out.trans (hb3.mono HBd.out.size)).alloc (Nat.le_trans HBd.out.size hb3.size) (.cells #[.string (ByteArray.empty)] 9)); have HBA1 := Lib.hid ((HBd1.out.trans (hb3.mono HBd1.out.size)).alloc (Nat.le_trans HBd1.out.size hb3.size) (.cells #[.string (ByteArray.empty)] 9)); have ht3 := HT3.out.cell; have hta := HTA.out.cell; have hB3 : w1.heap.size ≤ (w3.alloc (.cells #[.string (ByteArray.empty)] 9)).heap.size := HBA1.out.size; clear hb3))
        all_goals
          have hgs : w4.grownBy (w4.setCell ⟨g, 0, none⟩ (.slice x4 n4 c4)) (some g) := Ret.grownBy_set w4 ⟨g, 0, none⟩ (.slice x4 n4 c4)
          have HT6 := Lib.hid (HT4.out.set (.slice x4 n4 c4))
          have HO6 := Lib.hid (HX.out ▸ HO4.out.grown hgs (Or.inr fun e => Own.notBox HO4.out HT4.out (by decide) e.symm))
          have HR6 := Lib.hid ((HRA.out.grown HG4.out (fun e => by have := (HOA.out.lt _ e.symm).1; have := HR1.out.lt; omega)).grown hgs (fun e => by have := Option.some.inj e; have := HR1.out.lt; omega))
          have HB6 := Lib.hid ((HBA.out.grown HG4.out HBA.out.size (fun q hq => by have := (HOA.out.lt q hq).1; have := HR1.out.lt; omega)).setCell (p := ⟨g, 0, none⟩) (Nat.le_trans HZ1.out hgB) (.slice x4 n4 c4))
          have HB61 := Lib.hid ((HBA1.out.grown HG4.out HBA1.out.size (fun q hq => (HOA.out.lt q hq).1)).setCell (p := ⟨g, 0, none⟩) hgB (.slice x4 n4 c4))
          clear hgs ht4 ht5 ht3 hta htd
          go_wp2_with fail
          go_roundw
          case rel => exact ⟨k + 1, _, by omega, by go_num, HO6, HT6, HR6, HB6, HB61⟩
          case measure => simp [intOf]; omega
      · rw [encPt_var hs] at hd
        have HKP := Lib.hid hkp
        have HLEN := Lib.hid (show (mapTo (instI l) p k).length = k by unfold mapTo; rw [List.length_map, List.length_take]; omega)
        have HLM := Lib.hid (show ((mapTo (instI l) p k).length + [bvB l (nth p k)].length) * 16 ≤ 140737488355328 by rw [HLEN.out]; simp; omega)
        have HLX := Lib.hid (show (mapTo (instI l) p k).length + [bvB l (nth p k)].length ≤ maxLen by rw [HLEN.out]; unfold maxLen; simp; omega)
        have HX := Lib.hid (show mapTo (instI l) p k ++ [bvB l (nth p k)] = mapTo (instI l) p (k + 1) by rw [← mapTo_succ (instI l) hkp]; unfold instI; rw [if_neg (by rw [letter_validP hs]; simp), if_pos hs])
        clear hkp
        clear hs
        have hdr : Below wr.heap.size wr wr.drew := (Below.refl _ _).drew
        have HVd := Lib.hid ((HV.out.on hb.out).on hdr); have HOd := Lib.hid (ho.out.on hdr); have HTd := Lib.hid (ht.out.on hdr); have HRd := Lib.hid (hr.out.on hdr)
        have HBd := Lib.hid (hb.out.trans (hdr.mono hb.out.size)); have HBd1 := Lib.hid (hb1.out.trans (hdr.mono hb1.out.size))
        have htd := HTd.out.cell
        clear hdr
        obtain ⟨xu, nu, cu, rfl, -, -, -⟩ := ho.out.shapeN
        have hme := fun n w => me_var (nth p k) n w
        go_wp2_with fail
        go_region_law (first | (refine step_app (enc := Value.string) (B := w1.heap.size) (l := mapTo (instI l) p k) (m := [bvB l (nth p k)]) rfl _ _ (by rfl) Try.underlying24 elemSTR rfl (by rfl) (by rfl) HOA.out (holds_one Value.string 9 w3 (bvB l (nth p k))) oneStr HLM.out HLX.out hB3 ?_; intro v4 w4 ho4 hg4; obtain ⟨x4, n4, c4, rfl, -, -, ho4⟩ := ho4.shapeN; have HO4 := Lib.hid ho4; have HG4 := Lib.hid hg4; have HT4 := Lib.hid (HTA.out.grown hg4 (Own.notBox HOA.out HTA.out (by decide))); have ht4 := HT4.out.cell; have ht5 := HT4.out.frozen; clear ho4 hg4) | (go_simp; go_at_call 119; refine (varInst (nth p k) _ l _ HVd.out (by omega)).mono ?_; rintro e w3 ⟨rfl, hb3⟩; have HT3 := Lib.hid (HTd.out.on hb3); have HOA := Lib.hid ((HOd.out.on hb3).on ((Below.refl _ _).alloc (Nat.le_refl _) (.cells #[.string (bvB l (nth p k))] 9))); have HTA := Lib.hid (HT3.out.on ((Below.refl _ _).alloc (Nat.le_refl _) (.cells #[.string (bvB l (nth p k))] 9))); have HRA := Lib.hid ((HRd.out.on hb3).on ((Below.refl _ _).alloc (Nat.le_refl _) (.cells #[.string (bvB l (nth p k))] 9))); have HBA := Lib.hid ((HBd.out.trans (hb3.mono HBd.out.size)).alloc (Nat.le_trans HBd.out.size hb3.size) (.cells #[.string (bvB l (nth p k))] 9)); have HBA1 := Lib.hid ((HBd1.out.trans (hb3.mono HBd1.out.size)).alloc (Nat.le_trans HBd1.out.size hb3.size) (.cells #[.string (bvB l (nth p k))] 9)); have ht3 := HT3.out.cell; have hta := HTA.out.cell; have hB3 : w1.heap.size ≤ (w3.alloc (.cells #[.string (bvB l (nth p k))] 9)).heap.size := HBA1.out.size; clear hb3))
        all_goals
          have hgs : w4.grownBy (w4.setCell ⟨g, 0, none⟩ (.slice x4 n4 c4)) (some g) := Ret.grownBy_set w4 ⟨g, 0, none⟩ (.slice x4 n4 c4)
          have HT6 := Lib.hid (HT4.out.set (.slice x4 n4 c4))
          have HO6 := Lib.hid (HX.out ▸ HO4.out.grown hgs (Or.inr fun e => Own.notBox HO4.out HT4.out (by decide) e.symm))
          have HR6 := Lib.hid ((HRA.out.grown HG4.out (fun e => by have := (HOA.out.lt _ e.symm).1; have := HR1.out.lt; omega)).grown hgs (fun e => by have := Option.some.inj e; have := HR1.out.lt; omega))
          have HB6 := Lib.hid ((HBA.out.grown HG4.out HBA.out.size (fun q hq => by have := (HOA.out.lt q hq).1; have := HR1.out.lt; omega)).setCell (p := ⟨g, 0, none⟩) (Nat.le_trans HZ1.out hgB) (.slice x4 n4 c4))
          have HB61 := Lib.hid ((HBA1.out.grown HG4.out HBA1.out.size (fun q hq => (HOA.out.lt q hq).1)).setCell (p := ⟨g, 0, none⟩) hgB (.slice x4 n4 c4))
          clear hgs ht4 ht5 ht3 hta htd
          go_wp2_with fail
          go_roundw
          case rel => exact ⟨k + 1, _, by omega, by go_num, HO6, HT6, HR6, HB6, HB61⟩
          case measure => simp [intOf]; omega
      · rw [encPt_rest hs] at hd
        have HKP := Lib.hid hkp
        have HLEN := Lib.hid (show (mapTo (instI l) p k).length = k by unfold mapTo; rw [List.length_map, List.length_take]; omega)
        have HLM := Lib.hid (show ((mapTo (instI l) p k).length + [ByteArray.empty].length) * 16 ≤ 140737488355328 by rw [HLEN.out]; simp; omega)
        have HLX := Lib.hid (show (mapTo (instI l) p k).length + [ByteArray.empty].length ≤ maxLen by rw [HLEN.out]; unfold maxLen; simp; omega)
        have HX := Lib.hid (show mapTo (instI l) p k ++ [ByteArray.empty] = mapTo (instI l) p (k + 1) by rw [← mapTo_succ (instI l) hkp]; unfold instI; rw [if_neg (by rw [hs, star2_validP]; simp), if_neg (by rw [hs, star2_letterP]; simp)])
        clear hkp
        clear hs
        have hdr : Below wr.heap.size wr wr.drew := (Below.refl _ _).drew
        have HVd := Lib.hid ((HV.out.on hb.out).on hdr); have HOd := Lib.hid (ho.out.on hdr); have HTd := Lib.hid (ht.out.on hdr); have HRd := Lib.hid (hr.out.on hdr)
        have HBd := Lib.hid (hb.out.trans (hdr.mono hb.out.size)); have HBd1 := Lib.hid (hb1.out.trans (hdr.mono hb1.out.size))
        have htd := HTd.out.cell
        clear hdr
        obtain ⟨xu, nu, cu, rfl, -, -, -⟩ := ho.out.shapeN
        have hme := fun n w => me_rest n w
        go_wp2_with fail
        go_region_law (first | (refine step_app (enc := Value.string) (B := w1.heap.size) (l := mapTo (instI l) p k) (m := [ByteArray.empty]) rfl _ _ (by rfl) Try.underlying24 elemSTR rfl (by rfl) (by rfl) HOA.out (holds_one Value.string 9 w3 (ByteArray.empty)) oneStr HLM.out HLX.out hB3 ?_; intro v4 w4 ho4 hg4; obtain ⟨x4, n4, c4, rfl, -, -, ho4⟩ := ho4.shapeN; have HO4 := Lib.hid ho4; have HG4 := Lib.hid hg4; have HT4 := Lib.hid (HTA.out.grown hg4 (Own.notBox HOA.out HTA.out (by decide))); have ht4 := HT4.out.cell; have ht5 := HT4.out.frozen; clear ho4 hg4) | (go_simp; go_at_call 116; refine (restInst _ _).mono ?_; rintro e w3 ⟨rfl, hb3⟩; have HT3 := Lib.hid (HTd.out.on hb3); have HOA := Lib.hid ((HOd.out.on hb3).on ((Below.refl _ _).alloc (Nat.le_refl _) (.cells #[.string (ByteArray.empty)] 9))); have HTA := Lib.hid (HT3.out.on ((Below.refl _ _).alloc (Nat.le_refl _) (.cells #[.string (ByteArray.empty)] 9))); have HRA := Lib.hid ((HRd.out.on hb3).on ((Below.refl _ _).alloc (Nat.le_refl _) (.cells #[.string (ByteArray.empty)] 9))); have HBA := Lib.hid ((HBd.out.trans (hb3.mono HBd.out.size)).alloc (Nat.le_trans HBd.out.size hb3.size) (.cells #[.string (ByteArray.empty)] 9)); have HBA1 := Lib.hid ((HBd1.out.trans (hb3.mono HBd1.out.size)).alloc (Nat.le_trans HBd1.out.size hb3.size) (.cells #[.string (ByteArray.empty)] 9)); have ht3 := HT3.out.cell; have hta := HTA.out.cell; have hB3 : w1.heap.size ≤ (w3.alloc (.cells #[.string (ByteArray.empty)] 9)).heap.size := HBA1.out.size; clear hb3))
        all_goals
          have hgs : w4.grownBy (w4.setCell ⟨g, 0, none⟩ (.slice x4 n4 c4)) (some g) := Ret.grownBy_set w4 ⟨g, 0, none⟩ (.slice x4 n4 c4)
          have HT6 := Lib.hid (HT4.out.set (.slice x4 n4 c4))
          have HO6 := Lib.hid (HX.out ▸ HO4.out.grown hgs (Or.inr fun e => Own.notBox HO4.out HT4.out (by decide) e.symm))
          have HR6 := Lib.hid ((HRA.out.grown HG4.out (fun e => by have := (HOA.out.lt _ e.symm).1; have := HR1.out.lt; omega)).grown hgs (fun e => by have := Option.some.inj e; have := HR1.out.lt; omega))
          have HB6 := Lib.hid ((HBA.out.grown HG4.out HBA.out.size (fun q hq => by have := (HOA.out.lt q hq).1; have := HR1.out.lt; omega)).setCell (p := ⟨g, 0, none⟩) (Nat.le_trans HZ1.out hgB) (.slice x4 n4 c4))
          have HB61 := Lib.hid ((HBA1.out.grown HG4.out HBA1.out.size (fun q hq => (HOA.out.lt q hq).1)).setCell (p := ⟨g, 0, none⟩) hgB (.slice x4 n4 c4))
          clear hgs ht4 ht5 ht3 hta htd
          go_wp2_with fail
          go_roundw
          case rel => exact ⟨k + 1, _, by omega, by go_num, HO6, HT6, HR6, HB6, HB61⟩
          case measure => simp [intOf]; omega
    · obtain rfl : k = n1 := by omega
      have HO := Lib.hid (show Own 9 Value.string w1.heap.size wr u (p.map (instI l)) by have := ho.out; unfold mapTo at this; rwa [HN1.out, List.take_length] at this)
      have HBI := Lib.hid (bulk_instI p l (validPat_iff.1 HVP.out).1 HPB.out HLB.out)
      obtain ⟨hs1, hs2⟩ := inst_same (l := l) HVP.out
      have HS1 := Lib.hid hs1; have HS2 := Lib.hid hs2
      have htc := ht.out.cell
      clear hlt hs1 hs2
      obtain ⟨x2, n2, c2, rfl, -, -, -⟩ := HO.out.shapeN
      go_wp2_with fail
      refine (implValidName _ _ _ HO.out.holds HBI.out).mono ?_
      rintro e w3 ⟨rfl, hb3⟩
      have HR3 := Lib.hid (hr.out.on hb3)
      have HO3 := Lib.hid (HO.out.on hb3)
      have HB3 := Lib.hid (hb.out.trans (hb3.mono hb.out.size))
      have HT3 := Lib.hid (ht.out.on hb3)
      clear hb3 htc
      cases hn : validN (p.map (instI l)) with
      | true =>
        have hn2 : validN (p.map (inst1 l)) = true := by rw [← HS1.out]; exact hn
        have HPO := Lib.hid (show instOk p l = true by unfold instOk; rw [HVP.out, hn2]; rfl)
        have HPN := Lib.hid (show instN p l = p.map (instI l) by rw [instN_yes HPO.out, HS2.out hn2])
        clear hn hn2
        have ht3 := HT3.out.cell
        obtain ⟨hk2, hf2⟩ := HR3.out.nc
        obtain ⟨q1, q2, q3⟩ := endN (w := w) (g := w.heap.size + 1) (by omega) (by have := HR1.out.lt; omega) HO3.out hk2 HB3.out
        have HQ1 := Lib.hid q1; have HQ2 := Lib.hid q2; have HQ3 := Lib.hid q3
        clear q1 q2 q3
        go_wp2
        refine bodyPost_ret (Ret.results_ct rfl _ _ (w.heap.size + 1) [_] rfl aggN (Ret.one HQ1.out)) rfl ?_
        exact ⟨_, ret_nb HPO.out.symm, by rw [HPN.out]; exact HQ2.out, HQ3.out⟩
      | false =>
        have HPO := Lib.hid (show instOk p l = false by unfold instOk; rw [← HS1.out, hn]; simp)
        have HPN := Lib.hid (instN_no HPO.out)
        clear hn
        obtain ⟨hk2, hf2⟩ := HR3.out.nc
        obtain ⟨q1, q2, q3⟩ := endN (w := w) (g := w.heap.size + 1) (B := w.heap.size + 1 + 1) (v := .slice none 0 0) (l := []) (by omega) (by omega) (Own.nil _ _ _ _) hk2 HB3.out
        have HQ1 := Lib.hid q1; have HQ2 := Lib.hid q2; have HQ3 := Lib.hid q3
        clear q1 q2 q3
        go_wp2
        refine bodyPost_ret (Ret.results_ct rfl _ _ (w.heap.size + 1) [_] rfl aggN (Ret.one HQ1.out)) rfl ?_
        exact ⟨_, ret_nb HPO.out.symm, by rw [HPN.out]; exact HQ2.out, HQ3.out⟩
end Go.Proofs.Ytoibmgnmnmeklaa.Row
