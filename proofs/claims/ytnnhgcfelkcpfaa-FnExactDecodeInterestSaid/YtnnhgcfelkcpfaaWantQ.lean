/- Contract of the program's ReadName. No conditions but that lengths fit. -/
import Derived.Test.YtnnhgcfelkcpfaaWantR
import Derived.Test.YtnnhgcfelkcpfaaWantP
namespace Go.Proofs.Ytnnhgcfelkcpfaa.Row
open Go.ChangeShapes Go.WideShapes Go.ChangeAt Go.RowKit Go.Instr
set_option linter.unusedVariables false
set_option maxRecDepth 100000

theorem rdP_more : ∀ (k : Nat) (b : List Int) (i : Int) (acc l : List ByteArray) (j : Int), rdP k b i acc = some (l, j) → ∃ r, l = acc ++ r
  | 0, _, _, acc, l, j, h => ⟨[], by simp only [rdP, Option.some.injEq, Prod.mk.injEq] at h; simp [h.1]⟩
  | k + 1, b, i, acc, l, j, h => by
    unfold rdP at h
    split at h
    · obtain ⟨r, hr⟩ := rdP_more k b _ _ l j h
      exact ⟨_, by rw [hr, List.append_assoc]⟩
    · cases h
/-- A part that is not valid: nothing is read. -/
theorem rdP_bad {k : Nat} {b : List Int} {i : Int} {acc : List ByteArray} {x : ByteArray} (hx : x ∈ acc) (hv : validP x = false) : (match rdP k b i acc with
    | none => (([], 0, false) : List ByteArray × Int × Bool)
    | some (l, j) => if validN l = true then (l, j, true) else ([], 0, false)) = ([], 0, false) := by
  cases h : rdP k b i acc with
  | none => rfl
  | some p =>
    obtain ⟨l, j⟩ := p
    obtain ⟨r, rfl⟩ := rdP_more k b i acc l j h
    show (if validN (acc ++ r) = true then _ else _) = _
    refine if_neg (fun e => ?_)
    have := (validN_iff.1 e).2 x (List.mem_append_left _ hx)
    rw [hv] at this; cases this
theorem own_setne {α : Type} [Inhabited α] {enc : α → Value} {e : TypeId} {B g i : Nat} {w : World} {v u : Value} {l : List α} (h : Own e enc B w v l) (hg : some g ≠ v.ownBlock) : Own e enc B (w.setCell ⟨g, i, none⟩ u) v l := h.grown (Ret.grownBy_set w ⟨g, i, none⟩ u) (Or.inr fun e => hg e.symm)

set_option maxHeartbeats 8000000 in
theorem implReadName (v : Value) (b : List Int) (i : Int) (w : World) (h : Sl.Holds .u8 w v b) (hB : Sl.Byt b) (hl : b.length ≤ 100000000) :
    Calls Try.prog 26 #[v, .int .i64 i] w (GivesN3 w (rdN b i).1 (rdN b i).2.1 (rdN b i).2.2) := by
  obtain ⟨x, cx, rfl, hcx, hh⟩ := h.shape
  obtain ⟨m, hm⟩ : ∃ m, m = b.length := ⟨_, rfl⟩
  rw [← hm] at hcx hh hl ⊢
  have hb0 := (Below.refl w.heap.size w).alloc (Nat.le_refl _) (.cells #[.slice none 0 0] 29)
  have HB0 := Lib.hid hb0
  have HX0 := Lib.hid (Ret.Box.new w (.slice none 0 0) 29)
  have HH0 := Lib.hid hh
  have HBY := Lib.hid hB
  have HM := Lib.hid hm
  have HR := Lib.hid (Sl.implReadVarint _ b i _ (hh.on hb0) hB (by rw [← hm]; exact hl))
  clear h hh hB hb0 hm
  obtain ⟨n, hn⟩ : ∃ n, n = (Var.readV b i).1 := ⟨_, rfl⟩
  obtain ⟨j, hj⟩ : ∃ j, j = (Var.readV b i).2.1 := ⟨_, rfl⟩
  obtain ⟨ok, hok⟩ : ∃ z, z = (Var.readV b i).2.2 := ⟨_, rfl⟩
  rw [← hn, ← hj, ← hok] at HR
  have HNN := Lib.hid hn; have HJ := Lib.hid hj; have HOK := Lib.hid hok
  obtain ⟨i0, hi, hz0, hz1, hz2⟩ := info_parts elemSTR
  have HI := Lib.hid hi; have HZ0 := Lib.hid hz0; have HZ1 := Lib.hid hz1; have HZ2 := Lib.hid hz2
  clear hn hj hok hi hz0 hz1 hz2
  go_enter Try.func26, Try.ntmps26
  go_wp2_with fail
  refine HR.out.mono ?_
  rintro e w1 ⟨rfl, hb1⟩
  have HXA := Lib.hid (HX0.out.on hb1)
  have HBA := Lib.hid (HB0.out.trans (hb1.mono HB0.out.size))
  clear hb1
  have hx0 := HXA.out.cell
  have hf0 := HXA.out.frozen
  cases ok with
  | false =>
    have HV := Lib.hid (rdN_no (b := b) (i := i) (Or.inl HOK.out.symm))
    have HE := Lib.hid (end0 HXA.out HBA.out)
    go_wp2_with fail
    refine bodyPost_ret (Ret.results_ctt rfl _ _ w.heap.size [_] rfl aggN (Ret.one HE.out.1)) rfl ?_
    rw [HV.out]
    exact ⟨_, rfl, HE.out.2.1, HE.out.2.2⟩
  | true =>
    by_cases h6 : 6 < n
    · have HV := Lib.hid (rdN_no (b := b) (i := i) (Or.inr (by rw [← HNN.out]; exact h6)))
      have HE := Lib.hid (end0 HXA.out HBA.out)
      go_wp2_with fail
      refine bodyPost_ret (Ret.results_ctt rfl _ _ w.heap.size [_] rfl aggN (Ret.one HE.out.1)) rfl ?_
      rw [HV.out]
      exact ⟨_, rfl, HE.out.2.1, HE.out.2.2⟩
    · have hbd := Sl.readV_bounds (l := b) (i := i) HBY.out HOK.out.symm
      rw [← HNN.out, ← HJ.out, ← HM.out] at hbd
      obtain ⟨n, rfl⟩ := Int.eq_ofNat_of_zero_le hbd.1
      obtain ⟨j, rfl⟩ := Int.eq_ofNat_of_zero_le (show 0 ≤ j by omega)
      have HV : Hid (rdN b i = match rdP n b j [] with
        | none => ([], 0, false)
        | some (l, j) => if validN l = true then (l, j, true) else ([], 0, false)) := Lib.hid (by
          rw [rdN_go (by rw [← HNN.out, ← HOK.out]; simp; omega), ← HNN.out, ← HJ.out]; rfl)
      have hn6 : n ≤ 6 := by omega
      have HSZ := Lib.hid (show w.heap.size < w1.heap.size by have := HXA.out.lt; omega)
      clear hbd h6 HR
      go_wp2_with (at_make; refine wpList_make_own _ rfl _ _ 22 rfl w1.heap.size 9 i0 (.string ByteArray.empty) 1 Try.underlying22 HI.out HZ0.out HZ1.out _ _ _ n rfl rfl rfl (by rw [HZ2.out]; omega) (by unfold maxLen; omega) (Nat.le_refl _) ?_)
      intro w2 hown hgrow
      have hb2 : Below w1.heap.size w1 w2 := (Below.refl _ _).grown hgrow (Nat.le_refl _) (fun k hk => by cases hk)
      have ho2 : Own 9 Value.string w1.heap.size w2 (.slice (some ⟨w1.heap.size, 0, none⟩) 0 n) [] := hown
      have hal := (Below.refl w2.heap.size w2).alloc (Nat.le_refl _) (.cells #[.slice (some ⟨w1.heap.size, 0, none⟩) 0 n] 29)
      have HO1 := Lib.hid (ho2.on hal)
      have HX1 := Lib.hid ((HXA.out.on hb2).on hal)
      have HY1 := Lib.hid (Ret.Box.new w2 (.slice (some ⟨w1.heap.size, 0, none⟩) 0 n) 29)
      have HB1 := Lib.hid ((HBA.out.trans (hb2.mono HBA.out.size)).trans (hal.mono (Nat.le_trans HBA.out.size hb2.size)))
      have HW12 := Lib.hid hb2.size
      have HGZ := Lib.hid (show w.heap.size < w2.heap.size from Nat.lt_of_lt_of_le HSZ.out hb2.size)
      clear hown hgrow hb2 ho2 hal hx0 hf0 HXA
      go_wp2_with fail
      go_loopw [1, 31] (fun jv iv wr => ∃ (k : Nat) (jj : Int) (acc : List ByteArray) (xa : Option Addr) (na ca : Nat), k ≤ n ∧ iv = .int .i64 k ∧ jv = .int .i64 jj ∧ Hid (na = k) ∧ Hid (bulk acc ≤ 9 * k) ∧ Hid (na = acc.length) ∧ Hid (∀ x ∈ acc, validP x = true) ∧ Hid (rdP n b j [] = rdP (n - k) b jj acc) ∧ Hid (Own 9 Value.string w1.heap.size wr (.slice xa na ca) acc) ∧ Hid (Ret.Box wr w2.heap.size (.slice xa na ca) 29) ∧ Hid (Ret.Box wr w.heap.size (.slice none 0 0) 29) ∧ Hid (Below w.heap.size w wr)) (fun _ iv _ => n - (intOf iv).toNat)
      case atStart => exact ⟨0, j, [], _, 0, n, Nat.zero_le _, rfl, rfl, Lib.hid rfl, Lib.hid (by simp [bulk_nil]), Lib.hid rfl, Lib.hid (fun x hx => by cases hx), Lib.hid rfl, HO1, HY1, HX1, HB1⟩
      case round =>
        obtain ⟨k, jj, acc, xa, na, ca, hk, rfl, rfl, hna, hbk, HNA, HAV, HRD, HO, HY, HX, HB⟩ := hrel
        have hy := HY.out.cell
        have hyf := HY.out.frozen
        have hx := HX.out.cell
        have hxf := HX.out.frozen
        by_cases hlt : k < n
        · have HRB := Lib.hid (Sl.implReadBytes _ b jj 8 wr (HH0.out.on HB.out) HBY.out (by rw [← HM.out]; exact hl))
          go_wp2_with fail
          refine HRB.out.mono ?_
          rintro e w3 ⟨v2, rfl, ho2, hb2⟩
          have h8 := readB8 b jj
          obtain ⟨bs, hbs⟩ : ∃ bs, bs = (Sl.readB b jj 8).1 := ⟨_, rfl⟩
          obtain ⟨j2, hj2⟩ : ∃ j2, j2 = (Sl.readB b jj 8).2.1 := ⟨_, rfl⟩
          obtain ⟨o2, ho2'⟩ : ∃ o2, o2 = (Sl.readB b jj 8).2.2 := ⟨_, rfl⟩
          rw [← hbs] at ho2 h8
          rw [← hj2, ← ho2']
          have HBS := Lib.hid hbs; have HJ2 := Lib.hid hj2; have HO2' := Lib.hid ho2'
          obtain ⟨x2, c2, rfl, hc2, ho2s⟩ := ho2.holds.shape
          have HCV := Lib.hid (fun wx (hx : Below w3.heap.size w3 wx) => Sl.conv_holds (w := wx) (ho2s.on hx))
          have hcv := HCV.out _ (Below.refl _ _)
          have HY2 := Lib.hid (HY.out.on hb2); have HX2 := Lib.hid (HX.out.on hb2); have HO2 := Lib.hid (HO.out.on hb2)
          have HB2 := Lib.hid (HB.out.trans (hb2.mono HB.out.size))
          clear ho2 hb2 hbs hj2 ho2' ho2s hy hyf hx hxf HRB
          have hy2 := HY2.out.cell
          have hyf2 := HY2.out.frozen
          have hx2 := HX2.out.cell
          have hxf2 := HX2.out.frozen
          cases o2 with
          | false =>
            have HV2 : Hid (rdN b i = ([], 0, false)) := Lib.hid (by
              rw [HV.out, HRD.out, show n - k = (n - (k + 1)) + 1 by omega, rdP, if_neg (by rw [← HO2'.out]; simp)])
            have HE := Lib.hid (end0 HX2.out HB2.out)
            go_wp2_with fail
            refine bodyPost_ret (Ret.results_ctt rfl _ _ w.heap.size [_] rfl aggN (Ret.one HE.out.1)) rfl ?_
            rw [HV2.out]
            exact ⟨_, rfl, HE.out.2.1, HE.out.2.2⟩
          | true =>
            have HST := Lib.hid (show rdP (n - k) b jj acc = rdP (n - (k + 1)) b j2 (acc ++ [strOfNums bs]) by
              rw [show n - k = (n - (k + 1)) + 1 by omega, rdP, if_pos HO2'.out.symm, ← HJ2.out, ← HBS.out])
            have HRD4 := Lib.hid (HRD.out.trans HST.out)
            obtain ⟨z, hz⟩ : ∃ z, validP (strOfNums bs) = z := ⟨_, rfl⟩
            have HZ := Lib.hid hz
            go_wp2_with fail
            refine (implValidPart (strOfNums bs) _ (by rw [strOfNums_size]; omega)).mono ?_
            rintro e w4 ⟨rfl, hb4⟩
            rw [hz]
            have HY3 := Lib.hid (HY2.out.on hb4); have HX3 := Lib.hid (HX2.out.on hb4); have HO3 := Lib.hid (HO2.out.on hb4)
            have HB3 := Lib.hid (HB2.out.trans (hb4.mono HB2.out.size))
            have hcv4 := HCV.out _ hb4
            clear hb4 hz hy2 hyf2 hx2 hxf2 hcv
            have hy3 := HY3.out.cell
            have hyf3 := HY3.out.frozen
            have hx3 := HX3.out.cell
            have hxf3 := HX3.out.frozen
            cases z with
            | false =>
              have HV2 : Hid (rdN b i = ([], 0, false)) := Lib.hid (by
                rw [HV.out, HRD4.out]
                exact rdP_bad (x := strOfNums bs) (by simp) HZ.out)
              have HE := Lib.hid (end0 HX3.out HB3.out)
              go_wp2_with fail
              refine bodyPost_ret (Ret.results_ctt rfl _ _ w.heap.size [_] rfl aggN (Ret.one HE.out.1)) rfl ?_
              rw [HV2.out]
              exact ⟨_, rfl, HE.out.2.1, HE.out.2.2⟩
            | true =>
              have hal := (Below.refl w4.heap.size w4).alloc (Nat.le_refl _) (.cells #[.string (strOfNums bs)] 9)
              have HOA := Lib.hid (HO3.out.on hal)
              have HYA := Lib.hid (HY3.out.on hal)
              have HXA := Lib.hid (HX3.out.on hal)
              have HBA := Lib.hid (HB3.out.trans (hal.mono HB3.out.size))
              have HLM := Lib.hid (show (acc.length + [strOfNums bs].length) * 16 ≤ 140737488355328 by rw [← HNA.out, hna.out]; simp; omega)
              have HLX := Lib.hid (show acc.length + [strOfNums bs].length ≤ maxLen by rw [← HNA.out, hna.out]; unfold maxLen; simp; omega)
              have HSB := Lib.hid (show w1.heap.size ≤ (w4.alloc (.cells #[.string (strOfNums bs)] 9)).heap.size by have h1 := HYA.out.lt; have h2 := HW12.out; omega)
              clear hal
              go_wp2_with (at_builtin; refine wpList_app (enc := Value.string) (B := w1.heap.size) (l := acc) (m := [strOfNums bs]) rfl _ _ rfl Try.underlying22 elemSTR rfl rfl rfl HOA.out (holds_one Value.string 9 w4 _) oneStr HLM.out HLX.out HSB.out ?_)
              intro v3 w5 ho3 hg3
              obtain ⟨x3, n3, c3, rfl, hn3, -, ho3⟩ := ho3.shapeN
              have HN3 := Lib.hid hn3
              have hn3' : n3 = k + 1 := by rw [hn3, List.length_append, ← HNA.out, hna.out]; rfl
              have HY5 := Lib.hid (HYA.out.grown hg3 (Own.notBox HOA.out HYA.out (by decide)))
              have HX5 := Lib.hid (HXA.out.grown hg3 (Own.notBox HOA.out HXA.out (by decide)))
              have HB5 := Lib.hid (HBA.out.grown hg3 HBA.out.size (fun g e => by have h1 := (HOA.out.lt g e).1; have h2 := HSZ.out; omega))
              have HO5 := Lib.hid ho3
              have hy5 := HY5.out.cell
              have hyf5 := HY5.out.frozen
              have HY6 := Lib.hid (Ret.Box.set HY5.out (.slice x3 n3 c3))
              have HX6 := Lib.hid (HX5.out.grown (Ret.grownBy_set w5 ⟨w2.heap.size, 0, none⟩ (.slice x3 n3 c3)) (by have := HGZ.out; simp; omega))
              have HO6 := Lib.hid (own_setne (g := w2.heap.size) (i := 0) (u := .slice x3 n3 c3) HO5.out (Own.notBox HO5.out HY5.out (by decide)))
              have HB6 := Lib.hid (HB5.out.setCell (p := ⟨w2.heap.size, 0, none⟩) (Nat.le_of_lt HGZ.out) (.slice x3 n3 c3))
              have HBK := Lib.hid (show bulk (acc ++ [strOfNums bs]) ≤ 9 * (k + 1) by
                have := hbk.out
                rw [bulk_append, bulk_one, strOfNums_size]; omega)
              have HAV6 := Lib.hid (show ∀ x ∈ acc ++ [strOfNums bs], validP x = true from fun x hx => (List.mem_append.1 hx).elim (HAV.out x) (fun e => by rw [List.mem_singleton.1 e]; exact HZ.out))
              have HNE := Lib.hid hn3'
              clear ho3 hg3 hn3 hn3' hcv4 hy3 hyf3 hx3 hxf3
              go_wp2_with fail
              go_roundw
              case rel => exact ⟨k + 1, j2, _, x3, n3, c3, by omega, by go_num, rfl, HNE, HBK, HN3, HAV6, HRD4, HO6, HY6, HX6, HB6⟩
              case measure => simp [intOf]; omega
        · obtain rfl : k = n := by omega
          clear hlt
          have HVN : Hid (validN acc = true) := Lib.hid (validN_iff.2 ⟨by rw [← HNA.out, hna.out]; exact hn6, HAV.out⟩)
          have HV2 : Hid (rdN b i = (acc, jj, true)) := Lib.hid (by
            rw [HV.out, HRD.out, Nat.sub_self]
            show (if validN acc = true then _ else _) = _
            rw [if_pos HVN.out])
          have HE1 := Lib.hid (Ret.set_same (v := .slice xa na ca) HX.out.cell)
          have HE2 := Lib.hid ((own_setne (g := w.heap.size) (i := 0) (u := .slice xa na ca) HO.out (Own.notBox HO.out HX.out (by decide))).mono (Nat.le_of_lt HSZ.out))
          have HE3 := Lib.hid (HB.out.setCell (p := ⟨w.heap.size, 0, none⟩) (Nat.le_refl _) (.slice xa na ca))
          go_wp2_with fail
          refine bodyPost_ret (Ret.results_ctt rfl _ _ w.heap.size [_] rfl aggN (Ret.one HE1.out)) rfl ?_
          rw [HV2.out]
          exact ⟨_, rfl, HE2.out, HE3.out⟩
end Go.Proofs.Ytnnhgcfelkcpfaa.Row
