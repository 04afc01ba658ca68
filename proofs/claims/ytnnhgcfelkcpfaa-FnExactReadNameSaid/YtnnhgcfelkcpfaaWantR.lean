/- Contract of the model's ReadName. No conditions but that lengths fit. -/
import Derived.Test.YtnnhgcfelkcpfaaWantE
namespace Go.Proofs.Ytnnhgcfelkcpfaa.Row
open Go.ChangeShapes Go.WideShapes Go.ChangeAt Go.RowKit Go.Instr
set_option linter.unusedVariables false
set_option maxRecDepth 100000

/-- So many parts are read from place i on, behind those that were read. -/
def rdP : Nat → List Int → Int → List ByteArray → Option (List ByteArray × Int)
  | 0, _, i, acc => some (acc, i)
  | k + 1, b, i, acc => if (Sl.readB b i 8).2.2 = true then rdP k b (Sl.readB b i 8).2.1 (acc ++ [strOfNums (Sl.readB b i 8).1]) else none
def rdN (b : List Int) (i : Int) : List ByteArray × Int × Bool :=
  if (Var.readV b i).2.2 = false ∨ 6 < (Var.readV b i).1 then ([], 0, false)
  else match rdP (Var.readV b i).1.toNat b (Var.readV b i).2.1 [] with
    | none => ([], 0, false)
    | some (l, j) => if validN l = true then (l, j, true) else ([], 0, false)
theorem rdN_no {b : List Int} {i : Int} (h : (Var.readV b i).2.2 = false ∨ 6 < (Var.readV b i).1) : rdN b i = ([], 0, false) := if_pos h
theorem rdN_go {b : List Int} {i : Int} (h : ¬ ((Var.readV b i).2.2 = false ∨ 6 < (Var.readV b i).1)) : rdN b i = match rdP (Var.readV b i).1.toNat b (Var.readV b i).2.1 [] with
    | none => ([], 0, false)
    | some (l, j) => if validN l = true then (l, j, true) else ([], 0, false) := if_neg h
def GivesN3 (w : World) (l : List ByteArray) (n : Int) (ok : Bool) (e : Ending) (w' : World) : Prop := ∃ v, e = .returned (.tuple #[.agg #[v], .int .i64 n, .bool ok]) ∧ Own 9 Value.string w.heap.size w' v l ∧ Below w.heap.size w w'
theorem ret_n3 {v : Value} {n m : Int} {a b : Bool} (h : n = m) (g : a = b) : Ending.returned (.tuple #[.agg #[v], .int .i64 n, .bool a]) = .returned (.tuple #[.agg #[v], .int .i64 m, .bool b]) := by rw [h, g]
end Go.Proofs.Ytnnhgcfelkcpfaa.Row
namespace Go.Proofs.Ytnnhgcfelkcpfaa.Ret
variable {P : Program}
theorem results_ctt {fn : Func} {p u u2 : Tmp} {ty : TypeId} (h : fn.results = #[.cell p ty, .tmp u, .tmp u2]) (tmps : Array Value) (w : World) (b : Nat) (cs : List Value) (hp : tmps.getD p undef = .pointer (some ⟨b, 0, none⟩))
    (ha : AggOf P ty cs.length) (hc : ∀ j v, cs[j]? = some v → w.cell? ⟨b, j, none⟩ = some v) : (results fn tmps).run P w = .ok (.tuple #[.agg cs.toArray, tmps.getD u undef, tmps.getD u2 undef]) w := by
  have hp' : tmps[p]?.getD undef = .pointer (some ⟨b, 0, none⟩) := by simpa using hp
  have hl := run_loadVar_cells (P := P) w b ty cs hc ha
  simp [results, h, hp', asAddr, hl, Result.andThen]
end Go.Proofs.Ytnnhgcfelkcpfaa.Ret
namespace Go.Proofs.Ytnnhgcfelkcpfaa.Row
open Go.ChangeShapes Go.WideShapes Go.ChangeAt Go.RowKit Go.Instr
set_option linter.unusedVariables false
set_option maxRecDepth 100000
/-- Nothing is read: the result cell is as it was made, or made so again. -/
theorem end0 {w W : World} (hX : Ret.Box W w.heap.size (.slice none 0 0) 29) (hb : Below w.heap.size w W) : (W.setCell ⟨w.heap.size, 0, none⟩ (.slice none 0 0)).cell? ⟨w.heap.size, 0, none⟩ = some (.slice none 0 0) ∧ Own 9 Value.string w.heap.size (W.setCell ⟨w.heap.size, 0, none⟩ (.slice none 0 0)) (.slice none 0 0) [] ∧ Below w.heap.size w (W.setCell ⟨w.heap.size, 0, none⟩ (.slice none 0 0)) :=
  ⟨Ret.set_same hX.cell, Own.nil _ _ _ _, hb.setCell (p := ⟨w.heap.size, 0, none⟩) (Nat.le_refl _) _⟩

theorem readB8 (b : List Int) (i : Int) : (Sl.readB b i 8).1.length ≤ 8 := by
  by_cases h : (Var.readV b i).2.2 = false ∨ 8 < (Var.readV b i).1 ∨ (b.length : Int) - (Var.readV b i).2.1 < (Var.readV b i).1
  · rw [Sl.readB_no h]; simp
  · rw [Sl.readB_yes h]
    simp only [List.length_take]
    omega

set_option maxHeartbeats 8000000 in
theorem specReadName (v : Value) (b : List Int) (i : Int) (w : World) (h : Sl.Holds .u8 w v b) (hB : Sl.Byt b) (hl : b.length ≤ 100000000) :
    Calls Try.prog 25 #[v, .int .i64 i] w (GivesN3 w (rdN b i).1 (rdN b i).2.1 (rdN b i).2.2) := by
  obtain ⟨x, cx, rfl, hcx, hh⟩ := h.shape
  obtain ⟨m, hm⟩ : ∃ m, m = b.length := ⟨_, rfl⟩
  rw [← hm] at hcx hh hl ⊢
  have hb0 := (Below.refl w.heap.size w).alloc (Nat.le_refl _) (.cells #[.slice none 0 0] 29)
  have HB0 := Lib.hid hb0
  have HX0 := Lib.hid (Ret.Box.new w (.slice none 0 0) 29)
  have HH0 := Lib.hid hh
  have HBY := Lib.hid hB
  have HM := Lib.hid hm
  have HR := Lib.hid (Sl.specReadV _ b i _ (hh.on hb0) hB (by rw [← hm]; exact hl))
  clear h hh hB hb0 hm
  obtain ⟨n, hn⟩ : ∃ n, n = (Var.readV b i).1 := ⟨_, rfl⟩
  obtain ⟨j, hj⟩ : ∃ j, j = (Var.readV b i).2.1 := ⟨_, rfl⟩
  obtain ⟨ok, hok⟩ : ∃ z, z = (Var.readV b i).2.2 := ⟨_, rfl⟩
  have hrd : Sl.rdV (Var.readV b i) = .tuple #[.int .i64 n, .int .i64 j, .bool ok] := by rw [hn, hj, hok]; rfl
  rw [hrd] at HR
  have HNN := Lib.hid hn; have HJ := Lib.hid hj; have HOK := Lib.hid hok
  clear hrd hn hj hok
  go_enter Try.func25, Try.ntmps25
  go_wp2_with fail
  refine HR.out.mono ?_
  rintro e w1 ⟨rfl, rfl⟩
  have hx0 := HX0.out.cell
  have hf0 := HX0.out.frozen
  cases ok with
  | false =>
    have HV := Lib.hid (rdN_no (b := b) (i := i) (Or.inl HOK.out.symm))
    go_wp2_with fail
    refine bodyPost_ret (Ret.results_ctt rfl _ _ w.heap.size [_] rfl aggN (Ret.one HX0.out.cell)) rfl ?_
    rw [HV.out]
    exact ⟨_, rfl, Own.nil _ _ _ _, HB0.out⟩
  | true =>
    by_cases h6 : 6 < n
    · have HV := Lib.hid (rdN_no (b := b) (i := i) (Or.inr (by rw [← HNN.out]; exact h6)))
      go_wp2_with fail
      refine bodyPost_ret (Ret.results_ctt rfl _ _ w.heap.size [_] rfl aggN (Ret.one HX0.out.cell)) rfl ?_
      rw [HV.out]
      exact ⟨_, rfl, Own.nil _ _ _ _, HB0.out⟩
    · have hbd := Sl.readV_bounds (l := b) (i := i) HBY.out HOK.out.symm
      rw [← HNN.out, ← HJ.out, ← HM.out] at hbd
      obtain ⟨n, rfl⟩ := Int.eq_ofNat_of_zero_le hbd.1
      obtain ⟨j, rfl⟩ := Int.eq_ofNat_of_zero_le (show 0 ≤ j by omega)
      have HV : Hid (rdN b i = match rdP n b j [] with
        | none => ([], 0, false)
        | some (l, j) => if validN l = true then (l, j, true) else ([], 0, false)) := Lib.hid (by
          rw [rdN_go (by rw [← HNN.out, ← HOK.out]; simp; omega), ← HNN.out, ← HJ.out]; rfl)
      have hn6 : n ≤ 6 := by omega
      have hal := (Below.refl (w.alloc (.cells #[.slice none 0 0] 29)).heap.size (w.alloc (.cells #[.slice none 0 0] 29))).alloc (Nat.le_refl _) (.cells #[.slice none 0 0] 29)
      have HX1 := Lib.hid (HX0.out.on hal)
      have HY1 := Lib.hid (Ret.Box.new' (w := w.alloc (.cells #[.slice none 0 0] 29)) (n := w.heap.size + 1) (.slice none 0 0) 29 (by simp))
      have HB1 := Lib.hid (HB0.out.trans (hal.mono (by simp)))
      clear hal hbd h6 hx0 hf0 HR
      go_wp2_with fail
      go_loopw [8, 11] (fun jv iv wr => ∃ (k : Nat) (jj : Int) (acc : List ByteArray) (xa : Option Addr) (na ca : Nat), k ≤ n ∧ iv = .int .i64 k ∧ jv = .int .i64 jj ∧ Hid (na = k) ∧ bulk acc ≤ 9 * k ∧ Hid (na = acc.length) ∧ Hid (rdP n b j [] = rdP (n - k) b jj acc) ∧ Hid (Own 9 Value.string (w.heap.size + 2) wr (.slice xa na ca) acc) ∧ Hid (Ret.Box wr (w.heap.size + 1) (.slice xa na ca) 29) ∧ Hid (Ret.Box wr w.heap.size (.slice none 0 0) 29) ∧ Hid (Below w.heap.size w wr)) (fun _ iv _ => n - (intOf iv).toNat)
      case atStart => exact ⟨0, j, [], none, 0, 0, Nat.zero_le _, rfl, rfl, Lib.hid rfl, by simp [bulk_nil], Lib.hid rfl, Lib.hid rfl, Lib.hid (Own.nil _ _ _ _), HY1, HX1, HB1⟩
      case round =>
        obtain ⟨k, jj, acc, xa, na, ca, hk, rfl, rfl, hna, hbk, HNA, HRD, HO, HY, HX, HB⟩ := hrel
        have hy := HY.out.cell
        have hyf := HY.out.frozen
        have hx := HX.out.cell
        have hxf := HX.out.frozen
        by_cases hlt : k < n
        · have HRB := Lib.hid (Sl.specReadBytes _ b jj 8 wr (HH0.out.on HB.out) HBY.out (by rw [← HM.out]; exact hl))
          go_wp2_with fail
          refine HRB.out.mono ?_
          rintro e w2 ⟨v2, rfl, ho2, hb2⟩
          have h8 := readB8 b jj
          obtain ⟨bs, hbs⟩ : ∃ bs, bs = (Sl.readB b jj 8).1 := ⟨_, rfl⟩
          obtain ⟨j2, hj2⟩ : ∃ j2, j2 = (Sl.readB b jj 8).2.1 := ⟨_, rfl⟩
          obtain ⟨o2, ho2'⟩ : ∃ o2, o2 = (Sl.readB b jj 8).2.2 := ⟨_, rfl⟩
          rw [← hbs] at ho2 h8
          rw [← hj2, ← ho2']
          have HBS := Lib.hid hbs; have HJ2 := Lib.hid hj2; have HO2' := Lib.hid ho2'
          obtain ⟨x2, c2, rfl, hc2, ho2s⟩ := ho2.holds.shape
          have hcv := Sl.conv_holds (w := w2) ho2s
          have HCV := Lib.hid hcv
          have HY2 := Lib.hid (HY.out.on hb2); have HX2 := Lib.hid (HX.out.on hb2); have HO2 := Lib.hid (HO.out.on hb2)
          have HB2 := Lib.hid (HB.out.trans (hb2.mono HB.out.size))
          clear ho2 hb2 hbs hj2 ho2' ho2s hy hyf hx hxf HRB
          have hy2 := HY2.out.cell
          have hyf2 := HY2.out.frozen
          have hx2 := HX2.out.cell
          have hxf2 := HX2.out.frozen
          cases o2 with
          | false =>
            have HV2 : Hid (rdN b i = ([], 0, false)) := Lib.hid (by
              rw [HV.out, HRD.out, show n - k = (n - (k + 1)) + 1 by omega, rdP, if_neg (by rw [← HO2'.out]; simp)])
            have HE := Lib.hid (end0 HX2.out HB2.out)
            go_wp2_with fail
            refine bodyPost_ret (Ret.results_ctt rfl _ _ w.heap.size [_] rfl aggN (Ret.one HE.out.1)) rfl ?_
            rw [HV2.out]
            exact ⟨_, rfl, HE.out.2.1, HE.out.2.2⟩
          | true =>
            have HST := Lib.hid (show rdP (n - k) b jj acc = rdP (n - (k + 1)) b j2 (acc ++ [strOfNums bs]) by
              rw [show n - k = (n - (k + 1)) + 1 by omega, rdP, if_pos HO2'.out.symm, ← HJ2.out, ← HBS.out])
            have hal := (Below.refl w2.heap.size w2).alloc (Nat.le_refl _) (.cells #[.string (strOfNums bs)] 9)
            have HOA := Lib.hid (HO2.out.on hal)
            have HYA := Lib.hid (HY2.out.on hal)
            have HXA := Lib.hid (HX2.out.on hal)
            have HBA := Lib.hid (HB2.out.trans (hal.mono HB2.out.size))
            have HLM := Lib.hid (show (acc.length + [strOfNums bs].length) * 16 ≤ 140737488355328 by rw [← HNA.out, hna.out]; simp; omega)
            have HLX := Lib.hid (show acc.length + [strOfNums bs].length ≤ maxLen by rw [← HNA.out, hna.out]; unfold maxLen; simp; omega)
            have HSB := Lib.hid (show w.heap.size + 2 ≤ (w2.alloc (.cells #[.string (strOfNums bs)] 9)).heap.size by have := HY2.out.lt; simp; omega)
            clear hal
            go_wp2_with (at_builtin; refine wpList_app (enc := Value.string) (B := w.heap.size + 2) (l := acc) (m := [strOfNums bs]) rfl _ _ rfl Try.underlying22 elemSTR rfl rfl rfl HOA.out (holds_one Value.string 9 w2 _) oneStr HLM.out HLX.out HSB.out ?_)
            intro v3 w3 ho3 hg3
            obtain ⟨x3, n3, c3, rfl, hn3, -, ho3⟩ := ho3.shapeN
            have HN3 := Lib.hid hn3
            have hn3' : n3 = k + 1 := by rw [hn3, List.length_append, ← HNA.out, hna.out]; rfl
            have HY3 := Lib.hid (HYA.out.grown hg3 (Own.notBox HOA.out HYA.out (by decide)))
            have HX3 := Lib.hid (HXA.out.grown hg3 (Own.notBox HOA.out HXA.out (by decide)))
            have HB3 := Lib.hid (HBA.out.grown hg3 HBA.out.size (fun g e => by have := (HOA.out.lt g e).1; omega))
            have HO3 := Lib.hid ho3
            have hy3 := HY3.out.cell
            have hyf3 := HY3.out.frozen
            have HY4 := Lib.hid (Ret.Box.set HY3.out (.slice x3 n3 c3))
            have HX4 := Lib.hid (HX3.out.grown (Ret.grownBy_set w3 ⟨w.heap.size + 1, 0, none⟩ (.slice x3 n3 c3)) (by simp))
            have HO4 := Lib.hid (own_set (g := w.heap.size + 1) (i := 0) (u := .slice x3 n3 c3) HO3.out (by omega))
            have HB4 := Lib.hid (HB3.out.setCell (p := ⟨w.heap.size + 1, 0, none⟩) (by simp) (.slice x3 n3 c3))
            have HRD4 := Lib.hid (HRD.out.trans HST.out)
            have hbk4 : bulk (acc ++ [strOfNums bs]) ≤ 9 * (k + 1) := by
              rw [bulk_append, bulk_one, strOfNums_size]; omega
            have HNE := Lib.hid hn3'
            clear ho3 hg3 hn3 hn3' hcv hy2 hyf2 hx2 hxf2
            go_wp2_with fail
            go_roundw
            case rel => exact ⟨k + 1, j2, _, x3, n3, c3, by omega, by go_num, rfl, HNE, hbk4, HN3, HRD4, HO4, HY4, HX4, HB4⟩
            case measure => simp [intOf]; omega
        · obtain rfl : k = n := by omega
          clear hlt
          have HRF : Hid (rdP k b j [] = some (acc, jj)) := Lib.hid (by rw [HRD.out, Nat.sub_self]; rfl)
          obtain ⟨z, hz⟩ : ∃ z, validN acc = z := ⟨_, rfl⟩
          have HZ := Lib.hid hz
          have HNM := Lib.hid HO.out.holds
          go_wp2_with fail
          refine (specValidName _ acc _ HNM.out (by omega)).mono ?_
          rintro e w2 ⟨rfl, hb2⟩
          rw [hz]
          have HY2 := Lib.hid (HY.out.on hb2); have HX2 := Lib.hid (HX.out.on hb2); have HO2 := Lib.hid (HO.out.on hb2)
          have HB2 := Lib.hid (HB.out.trans (hb2.mono HB.out.size))
          clear hb2 hz hy hyf hx hxf
          have hy2 := HY2.out.cell
          have hx2 := HX2.out.cell
          have hxf2 := HX2.out.frozen
          cases z with
          | false =>
            have HV2 : Hid (rdN b i = ([], 0, false)) := Lib.hid (by
              rw [HV.out, HRF.out]
              show (if validN acc = true then _ else _) = _
              rw [if_neg (by rw [HZ.out]; simp)])
            have HE := Lib.hid (end0 HX2.out HB2.out)
            go_wp2_with fail
            refine bodyPost_ret (Ret.results_ctt rfl _ _ w.heap.size [_] rfl aggN (Ret.one HE.out.1)) rfl ?_
            rw [HV2.out]
            exact ⟨_, rfl, HE.out.2.1, HE.out.2.2⟩
          | true =>
            have HV2 : Hid (rdN b i = (acc, jj, true)) := Lib.hid (by
              rw [HV.out, HRF.out]
              show (if validN acc = true then _ else _) = _
              rw [if_pos HZ.out])
            have HE1 := Lib.hid (Ret.set_same (v := .slice xa na ca) HX2.out.cell)
            have HE2 := Lib.hid ((own_set (g := w.heap.size) (i := 0) (u := .slice xa na ca) HO2.out (by omega)).mono (show w.heap.size ≤ w.heap.size + 2 by omega))
            have HE3 := Lib.hid (HB2.out.setCell (p := ⟨w.heap.size, 0, none⟩) (Nat.le_refl _) (.slice xa na ca))
            go_wp2_with fail
            refine bodyPost_ret (Ret.results_ctt rfl _ _ w.heap.size [_] rfl aggN (Ret.one HE1.out)) rfl ?_
            rw [HV2.out]
            exact ⟨_, rfl, HE2.out, HE3.out⟩
end Go.Proofs.Ytnnhgcfelkcpfaa.Row
