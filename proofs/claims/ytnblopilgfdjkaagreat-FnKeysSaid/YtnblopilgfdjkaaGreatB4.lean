/- Contracts and mathematics, joined: AppP, WantS, Thing, KThing, WantV, ReadB, WantE, WantR, DecI, VarBack, WantD, ThingS. No conditions but those that each states. -/
import Derived.Test.YtnblopilgfdjkaaGreatB3
import Derived.Test.YtnblopilgfdjkaaGreatB2
import Derived.SizedLaws
import Derived.ChangeSlices
import Derived.ChangeSame
import Derived.ChangeArms
import Derived.Deep.Strs
import Derived.Lib.SmallJoins
import Derived.Deep.Cut
import Derived.Deep.RegionHeld3
import Derived.Deep.RegionLaw
/- Contracts of AppendPart, the program's and the reference model's. No conditions but that lengths fit. -/
namespace Go.Proofs.YtnblopilgfdjkaaGreat.Row
open Go.ChangeShapes Go.WideShapes Go.ChangeAt Go.RowKit Go.Instr
set_option linter.unusedVariables false
set_option maxRecDepth 100000

theorem bulk_append (l m : List ByteArray) : bulk (l ++ m) = bulk l + bulk m := by
  unfold bulk bulkTo
  rw [List.take_length, List.take_length, List.take_length, List.map_append, List.sum_append, List.length_append]
  omega
theorem bulk_one (s : ByteArray) : bulk [s] = 1 + s.size := by simp [bulk, bulkTo]
theorem bulk_cons (x : ByteArray) (l : List ByteArray) : bulk (x :: l) = 1 + x.size + bulk l := by
  have := bulk_append [x] l
  rw [bulk_one] at this
  exact this
theorem bulk_nil : bulk [] = 0 := by simp [bulk, bulkTo]
theorem bulk_valid {l : List ByteArray} (h : validN l = true) : bulk l ≤ 60 := by
  obtain ⟨h1, h2⟩ := validN_iff.1 h
  have key : ∀ l : List ByteArray, (∀ x ∈ l, validP x = true) → bulk l ≤ 9 * l.length := by
    intro l
    induction l with
    | nil => intro _; rw [bulk_nil]; simp
    | cons x r ih =>
      intro hx
      have h3 := ih (fun y hy => hx y (by simp [hy]))
      have h4 := (validP_iff.1 (hx x (by simp))).2.1
      rw [bulk_cons, List.length_cons]; omega
  have := key l h2
  omega
def appN (l : List ByteArray) (s : ByteArray) : List ByteArray := if validN (l ++ [s]) = true then l ++ [s] else l
theorem appN_yes {l : List ByteArray} {s : ByteArray} (h : validN (l ++ [s]) = true) : appN l s = l ++ [s] := if_pos h
theorem appN_no {l : List ByteArray} {s : ByteArray} (h : validN (l ++ [s]) = false) : appN l s = l := if_neg (by simp [h])

theorem ret_nb {v : Value} {a b : Bool} (h : a = b) : Ending.returned (.tuple #[v, .bool a]) = .returned (.tuple #[v, .bool b]) := by rw [h]
def vs2 (a b : Value) (j : Nat) : Value := if j = 0 then a else b
def ls2 (a b : List ByteArray) (j : Nat) : List ByteArray := if j = 0 then a else b
set_option maxHeartbeats 1000000 in
theorem l4Copy (v : Value) (l : List ByteArray) (w : World) (h : Holds Value.string w v l) (hl : l.length ≤ 10000000) :
    Calls Tryz.prog 43 #[.agg #[v]] w (GivesN w l) := by
  obtain ⟨x, n, cap, rfl, hn, hcap, hh⟩ := h.shapeN
  rw [← hn] at hl
  have HB0 := Lib.hid ((((Below.refl w.heap.size w).alloc (Nat.le_refl _) (.cells #[.slice x n cap] 27)).alloc (by simp) (.cells #[.slice none 0 0] 27)).alloc (by simp; omega) (.cells #[] 9))
  have HN := Lib.hid hn
  have HT2 := Lib.hid (hh.on HB0.out)
  have HO := Lib.hid (own_empty Value.string 9 ((w.alloc (.cells #[.slice x n cap] 27)).alloc (.cells #[.slice none 0 0] 27)))
  simp only [World.size_alloc] at HO
  have HR := Lib.hid ((Ret.NC.new' (.slice none 0 0) 27 (w := w.alloc (.cells #[.slice x n cap] 27)) (n := w.heap.size + 1) (by simp)).alloc (.cells #[] 9))
  clear hh h hn
  go_enter Tryz.func43, Tryz.ntmps43
  go_wp2_with (at_builtin; refine wpList_app (enc := Value.string) (B := w.heap.size + 1 + 1) (l := []) (m := l) rfl _ _ rfl Tryz.underlying25 elemSTR rfl rfl rfl HO.out HT2.out oneStr (by rw [← HN.out]; simp; omega) (by rw [← HN.out]; unfold maxLen; simp; omega) (by simp) ?_)
  intro v3 w3 ho3 hg3
  obtain ⟨x3, n3, c3, rfl, hn3, hc3, ho3⟩ := ho3.shapeN
  clear hn3
  have HB4 := Lib.hid (HB0.out.grown hg3 (by simp; omega) (fun g hh => by have := (HO.out.lt g hh).1; omega))
  obtain ⟨hk2, hf2⟩ := HR.out.grown hg3 (by simp [Value.ownBlock])
  obtain ⟨q1, q2, q3⟩ := endN (w := w) (g := w.heap.size + 1) (by omega) (by omega) ho3 hk2 HB4.out
  have HQ1 := Lib.hid q1; have HQ2 := Lib.hid q2; have HQ3 := Lib.hid q3
  clear q1 q2 q3 ho3 hg3
  go_wp2
  refine bodyPost_ret (Ret.results_c rfl _ _ (w.heap.size + 1) [_] rfl aggN (Ret.one HQ1.out)) rfl ?_
  exact ⟨_, rfl, HQ2.out, HQ3.out⟩

set_option maxHeartbeats 2000000 in
theorem specAppendPart (v : Value) (l : List ByteArray) (s : ByteArray) (w : World) (h : Holds Value.string w v l) (hl : bulk l ≤ 10000000) (hs : s.size ≤ 10000000) :
    Calls Tryz.prog 84 #[.agg #[v], .string s] w (GivesNB w (appN l s) (validN (l ++ [s]))) := by
  obtain ⟨x, n, cap, rfl, hn, hcap, hh⟩ := h.shapeN
  have hll := bigLen hl
  have HBK := Lib.hid (show bulk (l ++ [s]) ≤ 100000000 by rw [bulk_append, bulk_one]; omega)
  rw [← hn] at hll
  have HB0 := Lib.hid ((((Below.refl w.heap.size w).alloc (Nat.le_refl _) (.cells #[.slice x n cap] 27)).alloc (by simp) (.cells #[.slice none 0 0] 27)).alloc (by simp; omega) (.cells #[] 9))
  have HN := Lib.hid hn
  have HT2 := Lib.hid (hh.on HB0.out)
  have HO := Lib.hid (own_empty Value.string 9 ((w.alloc (.cells #[.slice x n cap] 27)).alloc (.cells #[.slice none 0 0] 27)))
  simp only [World.size_alloc] at HO
  have HX := Lib.hid (((Ret.NC.new' (w := w) (.slice x n cap) 27 rfl).alloc (.cells #[.slice none 0 0] 27)).alloc (.cells #[] 9))
  have HR := Lib.hid ((Ret.NC.new' (.slice none 0 0) 27 (w := w.alloc (.cells #[.slice x n cap] 27)) (n := w.heap.size + 1) (by simp)).alloc (.cells #[] 9))
  have HH := Lib.hid hh
  clear hh h hn hl
  go_enter Tryz.func84, Tryz.ntmps84
  go_wp2_with (at_builtin; refine wpList_app (enc := Value.string) (B := w.heap.size + 1 + 1) (l := []) (m := l) rfl _ _ rfl Tryz.underlying25 elemSTR rfl rfl rfl HO.out HT2.out oneStr (by rw [← HN.out]; simp; omega) (by rw [← HN.out]; unfold maxLen; simp; omega) (by simp) ?_)
  intro v3 w3 ho3 hg3
  obtain ⟨x3, n3, c3, rfl, hn3, hc3, ho3⟩ := ho3.shapeN
  have HN3 := Lib.hid hn3
  have HB3 := Lib.hid (HB0.out.grown hg3 (by simp; omega) (fun g hh => by have := (HO.out.lt g hh).1; omega))
  have HR3 := Lib.hid (HR.out.grown hg3 (by simp [Value.ownBlock]))
  have HX3 := Lib.hid (HX.out.grown hg3 (by simp [Value.ownBlock]; omega))
  have hz3 := hg3.size
  simp only [World.size_alloc] at hz3
  have HO3 := Lib.hid (ho3.on ((Below.refl _ _).alloc (Nat.le_refl _) (.cells #[.string s] 9)))
  clear hn3 ho3 hg3
  go_wp2_with (at_builtin; refine wpList_app (enc := Value.string) (B := w.heap.size + 1 + 1) (l := l) (m := [s]) rfl _ _ rfl Tryz.underlying25 elemSTR rfl rfl rfl HO3.out (holds_one Value.string 9 w3 s) oneStr (by rw [← HN.out]; simp; omega) (by rw [← HN.out]; unfold maxLen; simp; omega) (by simp; omega) ?_)
  intro v4 w4 ho4 hg4
  obtain ⟨x4, n4, c4, rfl, hn4, hc4, ho4⟩ := ho4.shapeN
  clear hn4
  have HB4 := Lib.hid ((HB3.out.alloc (by omega) (.cells #[.string s] 9)).grown hg4 (by simp; omega) (fun g hh => by have := (HO3.out.lt g hh).1; omega))
  have hne : ∀ g, g ≤ w.heap.size + 1 → some g ≠ (Value.slice x3 n3 c3).ownBlock := fun g hg e => by have := (HO3.out.lt g e.symm).1; omega
  have HR4 := Lib.hid ((HR3.out.alloc (.cells #[.string s] 9)).grown hg4 (hne _ (by omega)))
  have HX4 := Lib.hid ((HX3.out.alloc (.cells #[.string s] 9)).grown hg4 (hne _ (by omega)))
  have hz4 := hg4.size
  simp only [World.size_alloc] at hz4
  have HO4 := Lib.hid (ho4.on ((Below.refl _ _).alloc (Nat.le_refl _) (.cells #[.slice x4 n4 c4] 27)))
  clear ho4 hg4 hne
  go_wp2_with fail
  refine (specValidName _ _ _ HO4.out.holds HBK.out).mono ?_
  rintro e w5 ⟨rfl, hb5⟩
  have HT5 := Lib.hid ((Ret.NC.new' (w := w4) (.slice x4 n4 c4) 27 rfl).on hb5)
  have HR5 := Lib.hid ((HR4.out.alloc (.cells #[.slice x4 n4 c4] 27)).on hb5)
  have HX5 := Lib.hid ((HX4.out.alloc (.cells #[.slice x4 n4 c4] 27)).on hb5)
  have HO5 := Lib.hid (HO4.out.on hb5)
  have HB5 := Lib.hid ((HB4.out.alloc (by omega) (.cells #[.slice x4 n4 c4] 27)).trans (hb5.mono (by simp; omega)))
  have hz5 := hb5.size
  simp only [World.size_alloc] at hz5
  clear hb5
  cases hv : validN (l ++ [s]) with
  | true =>
    have HY := Lib.hid (appN_yes hv)
    have HV := Lib.hid hv
    obtain ⟨hk6, hf6⟩ := HT5.out
    obtain ⟨hk2, hf2⟩ := HR5.out
    obtain ⟨q1, q2, q3⟩ := endN (w := w) (g := w.heap.size + 1) (by omega) (by omega) HO5.out hk2 HB5.out
    have HQ1 := Lib.hid q1; have HQ2 := Lib.hid q2; have HQ3 := Lib.hid q3
    clear q1 q2 q3
    go_wp2
    refine bodyPost_ret (Ret.results_ct rfl _ _ (w.heap.size + 1) [_] rfl aggN (Ret.one HQ1.out)) rfl ?_
    exact ⟨_, ret_nb HV.out.symm, by rw [HY.out]; exact HQ2.out, HQ3.out⟩
  | false =>
    have HY := Lib.hid (appN_no hv)
    have HV := Lib.hid hv
    have hx5 := HX5.out.1
    go_wp2_with fail
    refine (l4Copy _ l _ (HH.out.on HB5.out) (by rw [← HN.out]; exact hll)).mono ?_
    rintro e w6 ⟨v6, rfl, ho6, hb6⟩
    obtain ⟨x6, n6, c6, rfl, hn6, hc6, ho6⟩ := ho6.shapeN
    clear hn6
    have HB6 := Lib.hid (HB5.out.trans (hb6.mono HB5.out.size))
    obtain ⟨hk2, hf2⟩ := HR5.out.on hb6
    obtain ⟨q1, q2, q3⟩ := endN (w := w) (g := w.heap.size + 1) (by omega) (by omega) ho6 hk2 HB6.out
    have HQ1 := Lib.hid q1; have HQ2 := Lib.hid q2; have HQ3 := Lib.hid q3
    clear q1 q2 q3 ho6 hb6
    go_wp2
    refine bodyPost_ret (Ret.results_ct rfl _ _ (w.heap.size + 1) [_] rfl aggN (Ret.one HQ1.out)) rfl ?_
    exact ⟨_, ret_nb HV.out.symm, by rw [HY.out]; exact HQ2.out, HQ3.out⟩

end Go.Proofs.YtnblopilgfdjkaaGreat.Row
/- Contracts of the model's functions on interests: AppendName. No conditions but that lengths fit. -/
namespace Go.Proofs.YtnblopilgfdjkaaGreat.Row
open Go.ChangeShapes Go.WideShapes Go.ChangeAt Go.RowKit Go.Instr
set_option linter.unusedVariables false
set_option maxRecDepth 100000

/-- The parts' encodings, one behind the other. -/
def encPs (l : List ByteArray) : List Int := l.flatMap fun s => Var.var s.size ++ Sl.bytesOf s
def encN (l : List ByteArray) : List Int := Var.var l.length ++ encPs l
def appName (b : List Int) (l : List ByteArray) : List Int := if validN l = true then b ++ encN l else b
theorem encPs_next {l : List ByteArray} {k : Nat} (h : k < l.length) : encPs (l.take (k + 1)) = encPs (l.take k) ++ (Var.var (nth l k).size ++ Sl.bytesOf (nth l k)) := by
  unfold encPs
  rw [List.take_succ_eq_append_getElem h, List.flatMap_append, nth_eq h]
  simp
theorem encPs_len : ∀ l : List ByteArray, (encPs l).length ≤ 6 * bulk l
  | [] => by simp [encPs]
  | s :: r => by
    have h1 := encPs_len r
    have h2 := Var.var_len s.size
    have h3 : encPs (s :: r) = (Var.var s.size ++ Sl.bytesOf s) ++ encPs r := by simp [encPs]
    have h4 : bulk (s :: r) = 1 + s.size + bulk r := by simp [bulk_cons]
    rw [h3, List.length_append, List.length_append, Sl.bytesOf_length]
    omega
theorem bulk_take_le (l : List ByteArray) (k : Nat) : bulk (l.take k) ≤ bulk l := by
  have := bulk_append (l.take k) (l.drop k)
  rw [List.take_append_drop] at this
  omega
theorem size_bulk {l : List ByteArray} {k : Nat} (h : k < l.length) : (nth l k).size ≤ bulk l := by
  have h1 := bulk_append (l.take k) (l.drop k)
  rw [List.take_append_drop, List.drop_eq_getElem_cons h, bulk_cons, ← nth_eq h] at h1
  omega

set_option maxHeartbeats 2000000 in
theorem specAppendName (v u : Value) (b : List Int) (l : List ByteArray) (w : World) (h : Sl.Holds .u8 w v b) (g : Holds Value.string w u l) (hb : b.length ≤ 2000000) (hl : bulk l ≤ 1200000) :
    Calls Tryz.prog 88 #[v, .agg #[u]] w (Sl.GivesB w (appName b l)) := by
  obtain ⟨x, cx, rfl, hcx, hh⟩ := h.shape
  obtain ⟨y, q, cy, rfl, hq, hcy, hg⟩ := g.shapeN
  obtain ⟨m, hm⟩ : ∃ m, m = b.length := ⟨_, rfl⟩
  rw [← hm] at hcx hh hb ⊢
  have HM := Lib.hid hm; have HQ := Lib.hid hq
  have hb0 := (Below.refl w.heap.size w).alloc (Nat.le_refl _) (.cells #[.slice y q cy] 27)
  have hb1 := hb0.alloc (by simp) (.cells #[] 5)
  have HB1 := Lib.hid hb1
  have HH := Lib.hid (hh.on hb1)
  have HG := Lib.hid (hg.on hb1)
  have HX := Lib.hid ((Ret.Box.new w (.slice y q cy) 27).on ((Below.refl _ _).alloc (Nat.le_refl _) (.cells #[] 5)))
  have hoe := Sl.own_empty .u8 5 (w.alloc (.cells #[.slice y q cy] 27))
  rw [World.size_alloc] at hoe
  have HOE := Lib.hid hoe
  have HBL := Lib.hid hl
  have HG0 := Lib.hid hg
  have hql : q ≤ 1200000 := by rw [hq]; exact Nat.le_trans (bulk_len l) hl
  clear hh h g hg hm hq hb0 hb1 hoe
  go_enter Tryz.func88, Tryz.ntmps88
  go_wp2_with (at_builtin; refine Sl.wpList_app (k := .u8) (B := w.heap.size + 1) (l := []) (m := b) rfl _ _ rfl Tryz.underlying22 Sl.elemBYTE rfl rfl rfl HOE.out HH.out ?_ (by decide) ?_ ?_)
  · have := HM.out; simp; omega
  · simp
  intro v1 w1 ho hg
  have HB := Lib.hid (HB1.out.grown hg (by simp; omega) (fun g e => by cases e; exact Nat.le_succ _))
  have HO := Lib.hid (show Sl.Own 5 .u8 w.heap.size w1 v1 b from ho.mono (Nat.le_succ _))
  have HX1 := Lib.hid (HX.out.grown hg (by simp [Value.ownBlock]))
  have HG1 := Lib.hid (HG0.out.on HB.out)
  have hx1 := HX1.out.cell
  clear ho hg HX HOE HH HG
  obtain ⟨ok, hok⟩ : ∃ z, validN l = z := ⟨_, rfl⟩
  have HOK := Lib.hid hok
  go_wp2_with fail
  refine (specValidName _ l _ HG1.out (by omega)).mono ?_
  rintro e w2 ⟨rfl, hb2⟩
  rw [hok]
  have HB2 := Lib.hid (HB.out.trans (hb2.mono HB.out.size))
  have HO2 := Lib.hid (HO.out.on hb2)
  have HX2 := Lib.hid (HX1.out.on hb2)
  have hx2 := HX2.out.cell
  clear hb2 hok hx1
  cases ok with
  | false =>
    have HV : Hid (appName b l = b) := Lib.hid (by unfold appName; rw [if_neg (by rw [HOK.out]; simp)])
    go_wp2_with fail
    go_ret
    exact ⟨_, rfl, by rw [HV.out]; exact HO2.out, HB2.out⟩
  | true =>
    have HV : Hid (appName b l = b ++ encN l) := Lib.hid (by unfold appName; rw [if_pos HOK.out])
    go_wp2_with fail
    refine (Sl.specAppendVarint _ b q _ HO2.out.holds (by rw [← HM.out]; omega)).mono ?_
    rintro e w3 ⟨v3, rfl, ho3, hb3⟩
    have HO3 := Lib.hid (show Sl.Own 5 .u8 w.heap.size w3 v3 (b ++ Var.var q ++ encPs (l.take 0)) by rw [List.take_zero, show encPs [] = [] from rfl, List.append_nil]; exact ho3.mono HB2.out.size)
    have HB3 := Lib.hid (HB2.out.trans (hb3.mono HB2.out.size))
    have HX3 := Lib.hid (HX2.out.on hb3)
    clear ho3 hb3 hx2
    have hx3 := HX3.out.cell
    go_wp2_with fail
    go_loopw [5, 6] (fun tv iv wr => ∃ k : Nat, k ≤ q ∧ iv = .int .i64 k ∧ Hid (Sl.Own 5 .u8 w.heap.size wr tv (b ++ Var.var q ++ encPs (l.take k))) ∧ Hid (Below w.heap.size w wr) ∧ Hid (Ret.Box wr w.heap.size (.slice y q cy) 27)) (fun _ iv _ => q - (intOf iv).toNat)
    case atStart => exact ⟨0, Nat.zero_le _, rfl, HO3, HB3, HX3⟩
    case round =>
      obtain ⟨k, hk, rfl, hO, hB, hX⟩ := hrel
      have hxr := hX.out.cell
      by_cases hlt : k < q
      · obtain ⟨b0, off0, hy, hc⟩ := (HG0.out.on hB.out).at (j := k) (by rw [← HQ.out]; exact hlt)
        subst hy
        have hsz : (nth l k).size ≤ 1200000 := by
          have h2 := size_bulk (l := l) (k := k) (by rw [← HQ.out]; exact hlt)
          have h3 := HBL.out
          omega
        have hle : (encPs (l.take k)).length ≤ 7200000 := by
          have h1 := encPs_len (l.take k)
          have h2 := bulk_take_le l k
          have h3 := HBL.out
          omega
        have hll : (b ++ Var.var q ++ encPs (l.take k)).length ≤ 10000000 := by
          have h1 := Var.var_len q
          rw [List.length_append, List.length_append, ← HM.out]; omega
        have HN := Lib.hid (encPs_next (l := l) (k := k) (by rw [← HQ.out]; exact hlt))
        obtain ⟨cp, wc', e0, h0, b0'⟩ := Sl.conv_bytes wr (nth l k)
        have H0 := Lib.hid h0; have B0 := Lib.hid b0'
        have HLL := Lib.hid hll
        clear h0 b0' hle hll
        go_wp2_with fail
        refine (Sl.specAppendBytes _ _ (b ++ Var.var q ++ encPs (l.take k)) (Sl.bytesOf (nth l k)) wc' (hO.out.on B0.out).holds H0.out HLL.out (by rw [Sl.bytesOf_length]; omega)).mono ?_
        rintro e w4 ⟨v4, rfl, ho4, hb4⟩
        have HB4 := Lib.hid ((hB.out.trans (B0.out.mono hB.out.size)).trans (hb4.mono (Nat.le_trans hB.out.size B0.out.size)))
        have HO4 := Lib.hid (show Sl.Own 5 .u8 w.heap.size w4 v4 (b ++ Var.var q ++ encPs (l.take (k + 1))) by
          have h9 := ho4.mono (Nat.le_trans hB.out.size B0.out.size)
          rw [HN.out, ← List.append_assoc, ← Sl.bytesOf_length, ← List.append_assoc]
          exact h9)
        have HX4 := Lib.hid ((hX.out.on B0.out).on hb4)
        clear ho4 hb4 e0 hxr hc
        go_wp2_with fail
        go_roundw
        case rel => exact ⟨k + 1, by omega, by go_num, HO4, HB4, HX4⟩
        case measure => simp [intOf]; omega
      · obtain rfl : k = q := by omega
        clear hlt
        go_wp2_with fail
        go_ret
        refine ⟨_, rfl, ?_, hB.out⟩
        have h9 := hO.out
        rw [HQ.out, List.take_length] at h9
        rw [HV.out]
        unfold encN
        rw [← List.append_assoc]
        exact h9
end Go.Proofs.YtnblopilgfdjkaaGreat.Row
/- Contracts of the helpers by which the laws measure, copy, compare, mark and look at data packets (a name, bytes, a name, two numbers). No conditions but that lengths fit. -/
namespace Go.Proofs.YtnblopilgfdjkaaGreat.Row
open Go.ChangeShapes Go.WideShapes Go.ChangeAt Go.RowKit Go.Instr
set_option linter.unusedVariables false
set_option maxRecDepth 100000

abbrev Dt := List ByteArray × List Int × List ByteArray × Int × Int
/-- A packet's cells. -/
abbrev dc (a b c : Value) (f s : Int) : Array Value := #[a, b, c, .int .i64 f, .int .i64 s]
abbrev nil : Value := .slice none 0 0
theorem aggD : Ret.AggOf Tryz.prog 31 5 := ⟨by kernel_rfl, by kernel_rfl⟩
/-- What the call's own slices of a packet are: in blocks from B on, no two the same. -/
def DOwn (B : Nat) (w : World) (a b c : Value) (x : Dt) : Prop := Own 9 Value.string B w a x.1 ∧ Sl.Own 5 .u8 B w b x.2.1 ∧ Own 9 Value.string B w c x.2.2.1 ∧ Apart a b ∧ Apart a c ∧ Apart b c
def DHold (w : World) (a b c : Value) (x : Dt) : Prop := Holds Value.string w a x.1 ∧ Sl.Holds .u8 w b x.2.1 ∧ Holds Value.string w c x.2.2.1
theorem DHold.on {w w' : World} {a b c : Value} {x : Dt} (h : DHold w a b c x) (hb : Below w.heap.size w w') : DHold w' a b c x := ⟨h.1.on hb, h.2.1.on hb, h.2.2.on hb⟩
theorem DOwn.hold {B : Nat} {w : World} {a b c : Value} {x : Dt} (h : DOwn B w a b c x) : DHold w a b c x := by
  exact ⟨h.1.holds, h.2.1.holds, h.2.2.1.holds⟩
theorem DHold.shape {w : World} {a b c : Value} {x : Dt} (h : DHold w a b c x) : ∃ xa na ca xb nb cb xc nc cc, a = .slice xa na ca ∧ b = .slice xb nb cb ∧ c = .slice xc nc cc := by
  obtain ⟨xa, na, ca, rfl, -⟩ := h.1.shapeN
  obtain ⟨xb, cb, rfl, -⟩ := h.2.1.shape
  obtain ⟨xc, nc, cc, rfl, -⟩ := h.2.2.shapeN
  exact ⟨_, _, _, _, _, _, _, _, _, rfl, rfl, rfl⟩
theorem sl_own_set {k : IntKind} {e : TypeId} {B g i : Nat} {w : World} {v u : Value} {l : List Int} (h : Sl.Own e k B w v l) (hg : g < B) : Sl.Own e k B (w.setCell ⟨g, i, none⟩ u) v l := own_set (enc := Value.int k) h hg

def bulkD (x : Dt) : Nat := bulk x.1 + x.2.1.length + bulk x.2.2.1
def szD (x : Dt) (left : Int) : Int := if (bulkD x : Int) ≤ left then left - bulkD x else -1
/-- Its parts are small enough for the contracts. -/
def smD (x : Dt) : Prop := bulk x.1 ≤ 1200000 ∧ x.2.1.length ≤ 1200000 ∧ bulk x.2.2.1 ≤ 1200000
theorem smD_of {x : Dt} (h : bulkD x ≤ 1200000) : smD x := by unfold bulkD at h; unfold smD; omega
def advD (x : Dt) : Nat := x.1.length + x.2.1.length + x.2.2.1.length
/-- A packet whose parts are marked. -/
def mkD (k : Int) (x : Dt) : Dt := (marks markT k x.1.length, Sl.marks .u8 (k + x.1.length) x.2.1.length, marks markT (k + x.1.length + x.2.1.length) x.2.2.1.length, x.2.2.2)
end Go.Proofs.YtnblopilgfdjkaaGreat.Row
/- Data packets in the words of the exact laws: the kind; the laws' helpers for it; a packet that came in as an argument. No conditions but that lengths fit. -/
namespace Go.Proofs.YtnblopilgfdjkaaGreat.Row
open Go.ChangeShapes Go.WideShapes Go.ChangeAt Go.RowKit Go.Instr
set_option linter.unusedVariables false
set_option maxRecDepth 100000

theorem u8one (x : Int) : (Value.int .u8 x).oneCell' = true := rfl
def kBs : Kd (List Int) (Rw Int) := kS 5 (Value.int .u8) u8one
def kD : Kd Dt (Rw ByteArray × Rw Int × Rw ByteArray × Int × Int) := (kNm 9).pair (kBs.pair ((kNm 9).pair (kInt.pair kInt)))
section
variable {w : World} {a b c V : Value} {x : Dt} {B E : Nat}
theorem kD_at (h : kD.At w V x) : ∃ a b c, V = .agg (dc a b c x.2.2.2.1 x.2.2.2.2) ∧ DHold w a b c x := by
  obtain ⟨⟨r, q, t, f, s⟩, rfl, rfl, h⟩ := h
  exact ⟨r.v, q.v, t.v, rfl, kNm_at (e := 9) ⟨r, rfl, rfl, h.1⟩, kS_at (h1 := u8one) (e := 5) ⟨q, rfl, rfl, h.2.1⟩, kNm_at (e := 9) ⟨t, rfl, rfl, h.2.2.1⟩⟩
theorem kD_of (h : DHold w a b c x) : kD.At w (.agg (dc a b c x.2.2.2.1 x.2.2.2.2)) x := by
  obtain ⟨l, m, k, f, s⟩ := x
  obtain ⟨r, rfl, e1, h1⟩ := kNm_of (e := 9) h.1
  obtain ⟨q, rfl, e2, h2⟩ := kS_of (enc := Value.int .u8) (h1 := u8one) (e := 5) h.2.1
  obtain ⟨t, rfl, e3, h3⟩ := kNm_of (e := 9) h.2.2
  exact ⟨(r, q, t, f, s), rfl, Prod.ext e1 (Prod.ext e2 (Prod.ext e3 rfl)), h1, h2, h3, trivial, trivial⟩
theorem nodup3 {u v t : Option Nat} : (u.toList ++ (v.toList ++ t.toList)).Nodup ↔ (∀ g, u = some g → v ≠ some g) ∧ (∀ g, u = some g → t ≠ some g) ∧ (∀ g, v = some g → t ≠ some g) := by
  cases u <;> cases v <;> cases t <;> simp <;> (try constructor) <;> (try intro h) <;> (try omega)
theorem kD_blocks (r : Rw ByteArray) (q : Rw Int) (t : Rw ByteArray) (f s : Int) : kD.blocks (r, q, t, f, s) = r.v.ownBlock.toList ++ (q.v.ownBlock.toList ++ t.v.ownBlock.toList) := by
  show (kNm 9).blocks r ++ (kBs.blocks q ++ ((kNm 9).blocks t ++ ([] ++ []))) = _
  rw [kNm_blocks, kNm_blocks, List.append_nil, List.append_nil]
  unfold kBs
  rw [kS_blocks]
theorem kD_mk (h : DOwn B w a b c x) (hE : (∀ g, a.ownBlock = some g → g < E) ∧ (∀ g, b.ownBlock = some g → g < E) ∧ ∀ g, c.ownBlock = some g → g < E) : kD.In B E w (.agg (dc a b c x.2.2.2.1 x.2.2.2.2)) x := by
  obtain ⟨l, m, k, f, s⟩ := x
  obtain ⟨o1, o2, o3, ab, ac, bc⟩ := h
  obtain ⟨r, rfl, e1, h1, -⟩ := kNm_mk o1 hE.1
  obtain ⟨q, rfl, e2, h2, -⟩ := kS_mk (h1 := u8one) (e := 5) (enc := Value.int .u8) o2 hE.2.1
  obtain ⟨t, rfl, e3, h3, -⟩ := kNm_mk o3 hE.2.2
  refine ⟨(r, q, t, f, s), rfl, Prod.ext e1 (Prod.ext e2 (Prod.ext e3 rfl)), ⟨h1, h2, h3, trivial, trivial⟩, ?_, ?_⟩
  · rw [kD_blocks]; exact nodup3.2 ⟨ab, ac, bc⟩
  · rw [kD_blocks]
    intro g hg
    rcases List.mem_append.1 hg with hg | hg
    · exact hE.1 g (show r.v.ownBlock = some g by simpa using hg)
    · rcases List.mem_append.1 hg with hg | hg
      · exact hE.2.1 g (show q.v.ownBlock = some g by simpa using hg)
      · exact hE.2.2 g (show t.v.ownBlock = some g by simpa using hg)
theorem kD_own (h : DOwn B w a b c x) : kD.In B w.heap.size w (.agg (dc a b c x.2.2.2.1 x.2.2.2.2)) x := kD_mk h ⟨fun g hg => (h.1.lt g hg).2, fun g hg => (Sl.Own.lt h.2.1 g hg).2, fun g hg => (h.2.2.1.lt g hg).2⟩
theorem kD_in (h : kD.In B E w V x) : ∃ a b c, V = .agg (dc a b c x.2.2.2.1 x.2.2.2.2) ∧ DOwn B w a b c x ∧ (∀ g, a.ownBlock = some g → g < E) ∧ (∀ g, b.ownBlock = some g → g < E) ∧ ∀ g, c.ownBlock = some g → g < E := by
  obtain ⟨⟨r, q, t, f, s⟩, rfl, rfl, h, hn, hl⟩ := h
  rw [kD_blocks] at hn hl
  obtain ⟨ab, ac, bc⟩ := nodup3.1 hn
  have la : ∀ g, r.v.ownBlock = some g → g < E := fun g hg => hl g (List.mem_append_left _ (by simp [hg]))
  have lb : ∀ g, q.v.ownBlock = some g → g < E := fun g hg => hl g (List.mem_append_right _ (List.mem_append_left _ (by simp [hg])))
  have lc : ∀ g, t.v.ownBlock = some g → g < E := fun g hg => hl g (List.mem_append_right _ (List.mem_append_right _ (by simp [hg])))
  have nd : ∀ u : Option Nat, u.toList.Nodup := fun u => by cases u <;> simp
  have i1 := kNm_in (E := E) (e := 9) ⟨r, rfl, rfl, h.1, by rw [kNm_blocks]; exact nd _, by rw [kNm_blocks]; intro g hg; exact la g (by simpa using hg)⟩
  have i2 := kS_in (E := E) (h1 := u8one) (e := 5) (enc := Value.int .u8) ⟨q, rfl, rfl, h.2.1, by rw [kS_blocks]; exact nd _, by rw [kS_blocks]; intro g hg; exact lb g (by simpa using hg)⟩
  have i3 := kNm_in (E := E) (e := 9) ⟨t, rfl, rfl, h.2.2.1, by rw [kNm_blocks]; exact nd _, by rw [kNm_blocks]; intro g hg; exact lc g (by simpa using hg)⟩
  exact ⟨r.v, q.v, t.v, rfl, ⟨i1.1, i2.1, i3.1, ab, ac, bc⟩, la, lb, lc⟩
theorem kD_shape (h : kD.In B E w V x) : ∃ xa na ca xb nb cb xc nc cc, V = .agg #[.slice xa na ca, .slice xb nb cb, .slice xc nc cc, .int .i64 x.2.2.2.1, .int .i64 x.2.2.2.2] ∧ kD.In B E w (.agg #[.slice xa na ca, .slice xb nb cb, .slice xc nc cc, .int .i64 x.2.2.2.1, .int .i64 x.2.2.2.2]) x := by
  obtain ⟨a, b, c, rfl, ho, -⟩ := kD_in h
  obtain ⟨xa, na, ca, xb, nb, cb, xc, nc, cc, rfl, rfl, rfl⟩ := ho.hold.shape
  exact ⟨_, _, _, _, _, _, _, _, _, rfl, h⟩
theorem kD_shapeA (h : kD.At w V x) : ∃ xa na ca xb nb cb xc nc cc, V = .agg #[.slice xa na ca, .slice xb nb cb, .slice xc nc cc, .int .i64 x.2.2.2.1, .int .i64 x.2.2.2.2] ∧ kD.At w (.agg #[.slice xa na ca, .slice xb nb cb, .slice xc nc cc, .int .i64 x.2.2.2.1, .int .i64 x.2.2.2.2]) x := by
  obtain ⟨a, b, c, rfl, ho⟩ := kD_at h
  obtain ⟨xa, na, ca, xb, nb, cb, xc, nc, cc, rfl, rfl, rfl⟩ := ho.shape
  exact ⟨_, _, _, _, _, _, _, _, _, rfl, h⟩
end
/-- Its parts' sizes and its numbers fit. -/
def WfD (x : Dt) : Prop := (∀ y ∈ x.1, y.size ≤ maxLen) ∧ (∀ y ∈ x.2.1, (Lit.int .u8 y).wf = true) ∧ (∀ y ∈ x.2.2.1, y.size ≤ maxLen) ∧ (Lit.int .i64 x.2.2.2.1).wf = true ∧ (Lit.int .i64 x.2.2.2.2).wf = true
theorem five {α : Type} {cs : Array α} (h : cs.size = 5) : ∃ c0 c1 c2 c3 c4, cs = #[c0, c1, c2, c3, c4] := by
  obtain ⟨l⟩ := cs
  match l, h with
  | [c0, c1, c2, c3, c4], _ => exact ⟨c0, c1, c2, c3, c4, rfl⟩
end Go.Proofs.YtnblopilgfdjkaaGreat.Row
/- Contracts of the model's functions on interests: validity, copy, equality, the hop limit. No conditions but that lengths fit. -/
namespace Go.Proofs.YtnblopilgfdjkaaGreat.Row
open Go.ChangeShapes Go.WideShapes Go.ChangeAt Go.RowKit Go.Instr
set_option linter.unusedVariables false
set_option maxRecDepth 100000

abbrev Wt := List ByteArray × Int × Int × Int
def validW (x : Wt) : Bool := validN x.1 && decide (0 < x.1.length) && decide (0 ≤ x.2.1 ∧ x.2.1 ≤ 1000000) && decide (0 ≤ x.2.2.1 ∧ x.2.2.1 ≤ 16) && decide (1 ≤ x.2.2.2 ∧ x.2.2.2 ≤ 20)
/-- A result that is an interest whose name is the call's own. -/
def GivesW (w : World) (x : Wt) (e : Ending) (w' : World) : Prop := ∃ v', e = .returned (.agg (wc v' x.2.1 x.2.2.1 x.2.2.2)) ∧ Own 9 Value.string w.heap.size w' v' x.1 ∧ Below w.heap.size w w'
def GivesWB (w : World) (x : Wt) (z : Bool) (e : Ending) (w' : World) : Prop := ∃ v', e = .returned (.tuple #[.agg (wc v' x.2.1 x.2.2.1 x.2.2.2), .bool z]) ∧ Own 9 Value.string w.heap.size w' v' x.1 ∧ Below w.heap.size w w'

def decW (x : Wt) : Wt := if x.2.2.1 < 1 then x else (x.1, x.2.1, x.2.2.1 - 1, x.2.2.2)
def decOk (x : Wt) : Bool := decide (1 ≤ x.2.2.1)
end Go.Proofs.YtnblopilgfdjkaaGreat.Row
/- Contracts of ReadBytes, the reference model's and the program's: the bytes behind the length at the offset, the offset behind them, true; or an empty slice, 0 and false. What is returned lies in memory of the call's own. No conditions but that the elements are bytes and the lengths fit. -/
namespace Go.Proofs.YtnblopilgfdjkaaGreat.Sl
open Go.ChangeShapes Go.WideShapes Go.ChangeAt Go.RowKit Go.Instr
set_option linter.unusedVariables false
set_option maxRecDepth 100000

/-- What ReadBytes returns. -/
def readB (l : List Int) (i most : Int) : List Int × Int × Bool :=
  let r := Var.readV l i
  if r.2.2 = false ∨ most < r.1 ∨ (l.length : Int) - r.2.1 < r.1 then ([], 0, false)
  else ((l.drop r.2.1.toNat).take r.1.toNat, r.2.1 + r.1, true)
theorem holds_empty (k : IntKind) (w : World) (x : Option Addr) (c : Nat) : Holds k w (.slice x 0 c) [] := ⟨x, c, rfl, by simp, Or.inl rfl⟩

def GivesB3 (w : World) (l : List Int) (n : Int) (ok : Bool) (e : Ending) (w' : World) : Prop := ∃ v, e = .returned (.tuple #[v, .int .i64 n, .bool ok]) ∧ Own 5 .u8 w.heap.size w' v l ∧ Below w.heap.size w w'
theorem GivesB3.of {w w' : World} {v : Value} {l m : List Int} {n p : Int} {a b : Bool} (h : (l, n, a) = (m, p, b)) (ho : Own 5 .u8 w.heap.size w' v l) (hb : Below w.heap.size w w') :
    GivesB3 w m p b (.returned (.tuple #[v, .int .i64 n, .bool a])) w' := by
  cases h; exact ⟨v, rfl, ho, hb⟩

end Go.Proofs.YtnblopilgfdjkaaGreat.Sl
/- Contract of the model's EncodeInterest. No conditions but that lengths fit. -/
namespace Go.Proofs.YtnblopilgfdjkaaGreat.Sl
open Go.ChangeShapes Go.WideShapes Go.ChangeAt Go.RowKit Go.Instr
set_option linter.unusedVariables false
/-- append to a slice of numbers of the call's own, as a step of a statement that draws its order. -/
theorem step_app2 {P : Program} {ops : Array Oper} {o : Oper} {a : Act} {w : World} {K : Act → World → Prop} {Q : Exit → Act → World → Prop} {E : Prop} {k : IntKind} {e t : TypeId} {bytes : Nat} {z : Value}
    (hg : o.guard = none) (s x : Operand) (hop : o.op = Op.call { callee := Callee.builtin Builtin.append, args := #[s, x], argTypes := #[t, t] }) (ht : P.underlying t = some (.slice e)) (hi : Elem P e z bytes) (hz : z.cells.size = 1)
    {B : Nat} {v : Value} {ad : Addr} {n c : Nat} {l m : List Int} (hs : a.eval s = v) (hx : a.eval x = .slice (some ad) n c) (hown : Own e k B w v l) (hsrc : Holds k w (.slice (some ad) n c) m) (hlen : (l.length + m.length) * 8 ≤ 140737488355328) (hby : bytes ≤ 8) (hB : B ≤ w.heap.size)
    (hK : ∀ v' w', Own e k B w' v' (l ++ m) → w.grownBy w' v.ownBlock → K (a.put o.dst v') w') :
    if Region.wanted o (yielded ops a.tmps) = true then Oper.wp P o a w K Q else E := by
  have hw : Region.wanted o (yielded ops a.tmps) = true := by simp [Region.wanted, hg]
  rw [if_pos hw]
  obtain ⟨i, h1, h2, h3, h4⟩ := info_parts hi
  have hbytes : (l.length + m.length) * bytes ≤ 140737488355328 := Nat.le_trans (Nat.mul_le_mul_left _ hby) hlen
  have h63 : l.length + m.length ≤ maxLen := by unfold maxLen; omega
  obtain rfl := hsrc.lenEq
  obtain ⟨v', w', hrun, r1, r2, _⟩ := run_append_own (P := P) w B t o.type e i z 1 bytes ht h1 h2 h3 h4 hz (by decide) v l.length (l.map (Value.int k)) hown ad m.length c (m.map (Value.int k)) (by simp) hsrc.cells (oneCell k m) h63 hbytes hB
  unfold Oper.wp
  simp [execOp, hop, resolve, invoke, builtin, hs, hx, hrun, Result.andThen]
  refine hK v' w' ?_ r2
  unfold Own
  rw [List.length_append, List.map_append]; exact r1
end Go.Proofs.YtnblopilgfdjkaaGreat.Sl
namespace Go.Proofs.YtnblopilgfdjkaaGreat.Row
open Go.ChangeShapes Go.WideShapes Go.ChangeAt Go.RowKit Go.Instr
set_option linter.unusedVariables false
set_option maxRecDepth 100000

def encW (x : Wt) : List Int := if validW x = true then appName [] x.1 ++ Sl.encs [x.2.1, x.2.2.1, x.2.2.2] else []
end Go.Proofs.YtnblopilgfdjkaaGreat.Row
/- Contract of the model's ReadName. No conditions but that lengths fit. -/
namespace Go.Proofs.YtnblopilgfdjkaaGreat.Row
open Go.ChangeShapes Go.WideShapes Go.ChangeAt Go.RowKit Go.Instr
set_option linter.unusedVariables false
set_option maxRecDepth 100000

/-- So many parts are read from place i on, behind those that were read. -/
def rdP : Nat → List Int → Int → List ByteArray → Option (List ByteArray × Int)
  | 0, _, i, acc => some (acc, i)
  | k + 1, b, i, acc => if (Sl.readB b i 8).2.2 = true then rdP k b (Sl.readB b i 8).2.1 (acc ++ [strOfNums (Sl.readB b i 8).1]) else none
def rdN (b : List Int) (i : Int) : List ByteArray × Int × Bool :=
  if (Var.readV b i).2.2 = false ∨ 6 < (Var.readV b i).1 then ([], 0, false)
  else match rdP (Var.readV b i).1.toNat b (Var.readV b i).2.1 [] with
    | none => ([], 0, false)
    | some (l, j) => if validN l = true then (l, j, true) else ([], 0, false)
def GivesN3 (w : World) (l : List ByteArray) (n : Int) (ok : Bool) (e : Ending) (w' : World) : Prop := ∃ v, e = .returned (.tuple #[.agg #[v], .int .i64 n, .bool ok]) ∧ Own 9 Value.string w.heap.size w' v l ∧ Below w.heap.size w w'
end Go.Proofs.YtnblopilgfdjkaaGreat.Row
namespace Go.Proofs.YtnblopilgfdjkaaGreat.Ret
variable {P : Program}
end Go.Proofs.YtnblopilgfdjkaaGreat.Ret
namespace Go.Proofs.YtnblopilgfdjkaaGreat.Row
open Go.ChangeShapes Go.WideShapes Go.ChangeAt Go.RowKit Go.Instr
set_option linter.unusedVariables false
set_option maxRecDepth 100000
end Go.Proofs.YtnblopilgfdjkaaGreat.Row
/- Contracts of DecodeInts, the reference model's and the program's: so many numbers at the offset, the offset behind them, true; or an empty slice, 0 and false. What is returned lies in memory of the call's own. No conditions but that the elements are bytes and the length fits. -/
namespace Go.Proofs.YtnblopilgfdjkaaGreat.Sl
open Go.ChangeShapes Go.WideShapes Go.ChangeAt Go.RowKit Go.Instr
set_option linter.unusedVariables false
set_option maxRecDepth 100000

def decA : Nat → List Int → Int → List Int → List Int × Int × Bool
  | 0, _, i, acc => (acc, i, true)
  | k + 1, l, i, acc => if (Var.readV l i).2.2 = true then decA k l (Var.readV l i).2.1 (acc ++ [(Var.readV l i).1]) else ([], 0, false)
/-- What DecodeInts returns. -/
def readIs (l : List Int) (i n : Int) : List Int × Int × Bool := if (0 ≤ n ∧ n ≤ 100) ∧ 0 ≤ i ∧ i ≤ l.length then decA n.toNat l i [] else ([], 0, false)
def GivesI3 (w : World) (l : List Int) (n : Int) (ok : Bool) (e : Ending) (w' : World) : Prop := ∃ v, e = .returned (.tuple #[v, .int .i64 n, .bool ok]) ∧ Own 3 .i64 w.heap.size w' v l ∧ Below w.heap.size w w'
theorem GivesI3.of {w w' : World} {v : Value} {l m : List Int} {n p : Int} {a b : Bool} (h : (l, n, a) = (m, p, b)) (ho : Own 3 .i64 w.heap.size w' v l) (hb : Below w.heap.size w w') :
    GivesI3 w m p b (.returned (.tuple #[v, .int .i64 n, .bool a])) w' := by
  cases h; exact ⟨v, rfl, ho, hb⟩
end Go.Proofs.YtnblopilgfdjkaaGreat.Sl
/- Plain mathematics: what the encoding writes is read back, and what is read is what the encoding writes. No program in sight. -/
namespace Go.Proofs.YtnblopilgfdjkaaGreat.Var
open Sl (Byt)

end Go.Proofs.YtnblopilgfdjkaaGreat.Var
/- Contract of the model's DecodeInterest. No conditions but that lengths fit. -/
namespace Go.Proofs.YtnblopilgfdjkaaGreat.Row
open Go.ChangeShapes Go.WideShapes Go.ChangeAt Go.RowKit Go.Instr
set_option linter.unusedVariables false
set_option maxRecDepth 100000

def w0 : Wt := ([], 0, 0, 0)
/-- What DecodeInterest reads. -/
def gotW (b : List Int) : Wt := ((rdN b 0).1, Sl.nth (Sl.readIs b (rdN b 0).2.1 3).1 0, Sl.nth (Sl.readIs b (rdN b 0).2.1 3).1 1, Sl.nth (Sl.readIs b (rdN b 0).2.1 3).1 2)
def dcW (b : List Int) : Wt × Bool :=
  if (rdN b 0).2.2 = true ∧ (Sl.readIs b (rdN b 0).2.1 3).2.2 = true ∧ (Sl.readIs b (rdN b 0).2.1 3).2.1 = b.length ∧ validW (gotW b) = true then (gotW b, true) else (w0, false)
end Go.Proofs.YtnblopilgfdjkaaGreat.Row
/- Contracts of the model's functions on data packets: copy, validity, freshness, equality. No conditions but that lengths fit. -/
namespace Go.Proofs.YtnblopilgfdjkaaGreat.Row
open Go.ChangeShapes Go.WideShapes Go.ChangeAt Go.RowKit Go.Instr
set_option linter.unusedVariables false
set_option maxRecDepth 100000

/-- A result that is a packet of the call's own. -/
def GivesD (w : World) (x : Dt) (e : Ending) (w' : World) : Prop := ∃ a b c, e = .returned (.agg (dc a b c x.2.2.2.1 x.2.2.2.2)) ∧ DOwn w.heap.size w' a b c x ∧ Below w.heap.size w w'
def GivesDB (w : World) (x : Dt) (z : Bool) (e : Ending) (w' : World) : Prop := ∃ a b c, e = .returned (.tuple #[.agg (dc a b c x.2.2.2.1 x.2.2.2.2), .bool z]) ∧ DOwn w.heap.size w' a b c x ∧ Below w.heap.size w w'

set_option maxHeartbeats 4000000 in
theorem l8Copy (a b c : Value) (x : Dt) (w : World) (h : DHold w a b c x) (h1 : x.1.length ≤ 9000000) (h2 : x.2.1.length ≤ 9000000) (h3 : x.2.2.1.length ≤ 9000000) :
    Calls Tryz.prog 65 #[.agg (dc a b c x.2.2.2.1 x.2.2.2.2)] w (GivesD w x) := by
  obtain ⟨l, m, k, f, s⟩ := x
  unfold GivesD
  simp only at h1 h2 h3 ⊢
  obtain ⟨xa, na, ca, xb, nb, cb, xc, nc, cc, rfl, rfl, rfl⟩ := h.shape
  have hb0 := (Below.refl w.heap.size w).alloc (Nat.le_refl _) (.cells (dc (.slice xa na ca) (.slice xb nb cb) (.slice xc nc cc) f s) 31)
  have hb1 := hb0.alloc (by simp) (.cells (dc nil nil nil 0 0) 31)
  have hb2 := hb1.alloc (by simp; omega) (.cells (dc (.slice xa na ca) (.slice xb nb cb) (.slice xc nc cc) f s) 31)
  have HB := Lib.hid hb2
  have H0 := Lib.hid h
  have HX := Lib.hid (((Ret.Blk.new w (dc (.slice xa na ca) (.slice xb nb cb) (.slice xc nc cc) f s) 31).on ((Below.refl _ _).alloc (Nat.le_refl _) (.cells (dc nil nil nil 0 0) 31))).on ((Below.refl _ _).alloc (Nat.le_refl _) (.cells (dc (.slice xa na ca) (.slice xb nb cb) (.slice xc nc cc) f s) 31)))
  have HR := Lib.hid ((Ret.Blk.new' (w := (w.alloc (.cells (dc (.slice xa na ca) (.slice xb nb cb) (.slice xc nc cc) f s) 31))) (n := w.heap.size + 1) (dc nil nil nil 0 0) 31 (by simp)).on ((Below.refl _ _).alloc (Nat.le_refl _) (.cells (dc (.slice xa na ca) (.slice xb nb cb) (.slice xc nc cc) f s) 31)))
  have HL := Lib.hid (Ret.Blk.new' (w := (w.alloc (.cells (dc (.slice xa na ca) (.slice xb nb cb) (.slice xc nc cc) f s) 31)).alloc (.cells (dc nil nil nil 0 0) 31)) (n := w.heap.size + 1 + 1) (dc (.slice xa na ca) (.slice xb nb cb) (.slice xc nc cc) f s) 31 (by simp))
  have hz0 : (((w.alloc (.cells (dc (.slice xa na ca) (.slice xb nb cb) (.slice xc nc cc) f s) 31)).alloc (.cells (dc nil nil nil 0 0) 31)).alloc (.cells (dc (.slice xa na ca) (.slice xb nb cb) (.slice xc nc cc) f s) 31)).heap.size = w.heap.size + 3 := by simp
  have hml : m.length * 1 ≤ 9000000 := by omega
  clear h hb0 hb1 hb2
  go_enter Tryz.func65, Tryz.ntmps65
  go_wp2_with fail
  refine (l4Copy _ l _ (H0.out.on HB.out).1 (by omega)).mono ?_
  rintro e w1 ⟨a1, rfl, ho1, hb1⟩
  obtain ⟨ya, ma, da, rfl, -, -, ho1⟩ := ho1.shapeN
  have hs1 := hb1.size
  rw [hz0] at ho1 hs1
  replace HX := Lib.hid (HX.out.on hb1); replace HR := Lib.hid (HR.out.on hb1); replace HL := Lib.hid (HL.out.on hb1)
  replace HB := Lib.hid (HB.out.trans (hb1.mono HB.out.size))
  have HO1 := Lib.hid ho1
  have HLA := Lib.hid (fun g hg => (ho1.lt g hg).2)
  clear ho1 hb1 hz0
  have q0 : w1.cell? ⟨w.heap.size, 0, none⟩ = some (.slice xa na ca) := HX.out.cell 0
  have q1 : w1.cell? ⟨w.heap.size, 1, none⟩ = some (.slice xb nb cb) := HX.out.cell 1
  have q2 : w1.cell? ⟨w.heap.size, 2, none⟩ = some (.slice xc nc cc) := HX.out.cell 2
  have q3 : w1.cell? ⟨w.heap.size, 3, none⟩ = some (.int .i64 f) := HX.out.cell 3
  have q4 : w1.cell? ⟨w.heap.size, 4, none⟩ = some (.int .i64 s) := HX.out.cell 4
  have p0 : w1.cell? ⟨w.heap.size + 1 + 1, 0, none⟩ = some (.slice xa na ca) := HL.out.cell 0
  have p1 : w1.cell? ⟨w.heap.size + 1 + 1, 1, none⟩ = some (.slice xb nb cb) := HL.out.cell 1
  have p2 : w1.cell? ⟨w.heap.size + 1 + 1, 2, none⟩ = some (.slice xc nc cc) := HL.out.cell 2
  have p3 : w1.cell? ⟨w.heap.size + 1 + 1, 3, none⟩ = some (.int .i64 f) := HL.out.cell 3
  have p4 : w1.cell? ⟨w.heap.size + 1 + 1, 4, none⟩ = some (.int .i64 s) := HL.out.cell 4
  have t0 := HL.out.frozen 0; have t1 := HL.out.frozen 1; have t2 := HL.out.frozen 2; have t3 := HL.out.frozen 3; have t4 := HL.out.frozen 4
  go_upto_region 3 with fail
  clear q0 q1 q2 q3 q4 p0 p1 p2 p3 p4 t0 t1 t2 t3 t4
  replace HX := Lib.hid (HX.out.other (a := ⟨w.heap.size + 1 + 1, 0, none⟩) (by show w.heap.size + 1 + 1 ≠ w.heap.size; omega) (.slice ya ma da))
  replace HR := Lib.hid (HR.out.other (a := ⟨w.heap.size + 1 + 1, 0, none⟩) (by show w.heap.size + 1 + 1 ≠ w.heap.size + 1; omega) (.slice ya ma da))
  replace HL := Lib.hid (HL.out.set 0 (.slice ya ma da))
  replace HB := Lib.hid (HB.out.setCell (p := ⟨w.heap.size + 1 + 1, 0, none⟩) (by show w.heap.size ≤ w.heap.size + 1 + 1; omega) (.slice ya ma da))
  replace HO1 := Lib.hid (own_set (g := w.heap.size + 1 + 1) (i := 0) (u := .slice ya ma da) HO1.out (by omega))
  have hzs : (w1.setCell ⟨w.heap.size + 1 + 1, 0, none⟩ (.slice ya ma da)).heap.size = w1.heap.size := by simp [World.setCell]
  rw [← hzs] at HLA hs1
  clear hzs
  generalize w1.setCell ⟨w.heap.size + 1 + 1, 0, none⟩ (.slice ya ma da) = W at *
  have hal : Below W.heap.size W (W.alloc (.cells #[] 5)) := (Below.refl _ _).alloc (Nat.le_refl _) _
  have HOE := Lib.hid (Sl.own_empty .u8 5 W)
  have HHE := Lib.hid ((H0.out.on HB.out).2.1.on hal)
  have q0 : W.cell? ⟨w.heap.size, 0, none⟩ = some (.slice xa na ca) := HX.out.cell 0
  have q1 : W.cell? ⟨w.heap.size, 1, none⟩ = some (.slice xb nb cb) := HX.out.cell 1
  have q2 : W.cell? ⟨w.heap.size, 2, none⟩ = some (.slice xc nc cc) := HX.out.cell 2
  have q3 : W.cell? ⟨w.heap.size, 3, none⟩ = some (.int .i64 f) := HX.out.cell 3
  have q4 : W.cell? ⟨w.heap.size, 4, none⟩ = some (.int .i64 s) := HX.out.cell 4
  have p0 : W.cell? ⟨w.heap.size + 1 + 1, 0, none⟩ = some (.slice ya ma da) := HL.out.cell 0
  have p1 : W.cell? ⟨w.heap.size + 1 + 1, 1, none⟩ = some (.slice xb nb cb) := HL.out.cell 1
  have p2 : W.cell? ⟨w.heap.size + 1 + 1, 2, none⟩ = some (.slice xc nc cc) := HL.out.cell 2
  have p3 : W.cell? ⟨w.heap.size + 1 + 1, 3, none⟩ = some (.int .i64 f) := HL.out.cell 3
  have p4 : W.cell? ⟨w.heap.size + 1 + 1, 4, none⟩ = some (.int .i64 s) := HL.out.cell 4
  have t0 := HL.out.frozen 0; have t1 := HL.out.frozen 1; have t2 := HL.out.frozen 2; have t3 := HL.out.frozen 3; have t4 := HL.out.frozen 4
  have q1a := kc q1 hal
  go_wp2_with (at_builtin; refine Sl.wpList_app (k := .u8) (B := W.heap.size) (l := []) (m := m) rfl _ _ rfl Tryz.underlying22 Sl.elemBYTE rfl rfl rfl HOE.out HHE.out ?_ (by decide) ?_ ?_)
  all_goals first | (intro v2 w2 ho2 hg2; skip) | omega | (simp; omega) | simp
  obtain ⟨yb, mb, db, rfl, -, -, ho2⟩ := Own.shapeN (enc := Value.int .u8) ho2
  replace ho2 : Sl.Own 5 .u8 W.heap.size w2 (.slice yb mb db) m := ho2
  have hs2 : W.heap.size ≤ w2.heap.size := Nat.le_trans hal.size hg2.size
  have HLB := Lib.hid (fun g hg => (ho2.lt g hg).2)
  have hrow : ∀ q, q < W.heap.size → some q ≠ (Value.slice (some ⟨W.heap.size, 0, none⟩) 0 0).ownBlock := fun q hq e => by have h5 : q = W.heap.size := Option.some.inj e; omega
  replace HX := Lib.hid ((HX.out.on hal).grown hg2 (hrow _ (by omega))); replace HR := Lib.hid ((HR.out.on hal).grown hg2 (hrow _ (by omega))); replace HL := Lib.hid ((HL.out.on hal).grown hg2 (hrow _ (by omega)))
  replace HO1 := Lib.hid ((HO1.out.on hal).grown hg2 (by
    cases hv : (Value.slice ya ma da).ownBlock with
    | none => exact Or.inl rfl
    | some q => exact Or.inr (hrow q (HLA.out q hv))))
  replace HB := Lib.hid ((HB.out.trans (hal.mono HB.out.size)).grown hg2 (Nat.le_trans HB.out.size hal.size) (fun g e => by have h5 : W.heap.size = g := Option.some.inj e; have h6 := HB.out.size; omega))
  have HO2 := Lib.hid ho2
  clear ho2 hg2 hal hrow HOE HHE q1a q0 q1 q2 q3 q4 p0 p1 p2 p3 p4 t0 t1 t2 t3 t4
  have q0 : w2.cell? ⟨w.heap.size, 0, none⟩ = some (.slice xa na ca) := HX.out.cell 0
  have q1 : w2.cell? ⟨w.heap.size, 1, none⟩ = some (.slice xb nb cb) := HX.out.cell 1
  have q2 : w2.cell? ⟨w.heap.size, 2, none⟩ = some (.slice xc nc cc) := HX.out.cell 2
  have q3 : w2.cell? ⟨w.heap.size, 3, none⟩ = some (.int .i64 f) := HX.out.cell 3
  have q4 : w2.cell? ⟨w.heap.size, 4, none⟩ = some (.int .i64 s) := HX.out.cell 4
  have p0 : w2.cell? ⟨w.heap.size + 1 + 1, 0, none⟩ = some (.slice ya ma da) := HL.out.cell 0
  have p1 : w2.cell? ⟨w.heap.size + 1 + 1, 1, none⟩ = some (.slice xb nb cb) := HL.out.cell 1
  have p2 : w2.cell? ⟨w.heap.size + 1 + 1, 2, none⟩ = some (.slice xc nc cc) := HL.out.cell 2
  have p3 : w2.cell? ⟨w.heap.size + 1 + 1, 3, none⟩ = some (.int .i64 f) := HL.out.cell 3
  have p4 : w2.cell? ⟨w.heap.size + 1 + 1, 4, none⟩ = some (.int .i64 s) := HL.out.cell 4
  have t0 := HL.out.frozen 0; have t1 := HL.out.frozen 1; have t2 := HL.out.frozen 2; have t3 := HL.out.frozen 3; have t4 := HL.out.frozen 4
  go_wp2_with fail
  clear q0 q1 q2 q3 q4 p0 p1 p2 p3 p4 t0 t1 t2 t3 t4
  replace HX := Lib.hid (HX.out.other (a := ⟨w.heap.size + 1 + 1, 1, none⟩) (by show w.heap.size + 1 + 1 ≠ w.heap.size; omega) (.slice yb mb db))
  replace HR := Lib.hid (HR.out.other (a := ⟨w.heap.size + 1 + 1, 1, none⟩) (by show w.heap.size + 1 + 1 ≠ w.heap.size + 1; omega) (.slice yb mb db))
  replace HL := Lib.hid (HL.out.set 1 (.slice yb mb db))
  replace HB := Lib.hid (HB.out.setCell (p := ⟨w.heap.size + 1 + 1, 1, none⟩) (by show w.heap.size ≤ w.heap.size + 1 + 1; omega) (.slice yb mb db))
  replace HO1 := Lib.hid (own_set (g := w.heap.size + 1 + 1) (i := 1) (u := .slice yb mb db) HO1.out (by omega))
  replace HO2 := Lib.hid (sl_own_set (g := w.heap.size + 1 + 1) (i := 1) (u := .slice yb mb db) HO2.out (by omega))
  refine (l4Copy _ k _ (H0.out.on HB.out).2.2 (by omega)).mono ?_
  rintro e w3 ⟨c1, rfl, ho3, hb3⟩
  obtain ⟨yc, mc, dc_, rfl, -, -, ho3⟩ := ho3.shapeN
  have hs3 := hb3.size
  simp only [World.size_setCell] at hs3 ho3
  replace HX := Lib.hid (HX.out.on hb3); replace HR := Lib.hid (HR.out.on hb3); replace HL := Lib.hid (HL.out.on hb3)
  replace HO1 := Lib.hid (HO1.out.on hb3); replace HO2 := Lib.hid (HO2.out.on hb3)
  replace HB := Lib.hid (HB.out.trans (hb3.mono HB.out.size))
  have HO3 := Lib.hid ho3
  clear ho3 hb3
  have q0 : w3.cell? ⟨w.heap.size, 0, none⟩ = some (.slice xa na ca) := HX.out.cell 0
  have q1 : w3.cell? ⟨w.heap.size, 1, none⟩ = some (.slice xb nb cb) := HX.out.cell 1
  have q2 : w3.cell? ⟨w.heap.size, 2, none⟩ = some (.slice xc nc cc) := HX.out.cell 2
  have q3 : w3.cell? ⟨w.heap.size, 3, none⟩ = some (.int .i64 f) := HX.out.cell 3
  have q4 : w3.cell? ⟨w.heap.size, 4, none⟩ = some (.int .i64 s) := HX.out.cell 4
  have p0 : w3.cell? ⟨w.heap.size + 1 + 1, 0, none⟩ = some (.slice ya ma da) := HL.out.cell 0
  have p1 : w3.cell? ⟨w.heap.size + 1 + 1, 1, none⟩ = some (.slice yb mb db) := HL.out.cell 1
  have p2 : w3.cell? ⟨w.heap.size + 1 + 1, 2, none⟩ = some (.slice xc nc cc) := HL.out.cell 2
  have p3 : w3.cell? ⟨w.heap.size + 1 + 1, 3, none⟩ = some (.int .i64 f) := HL.out.cell 3
  have p4 : w3.cell? ⟨w.heap.size + 1 + 1, 4, none⟩ = some (.int .i64 s) := HL.out.cell 4
  have t0 := HL.out.frozen 0; have t1 := HL.out.frozen 1; have t2 := HL.out.frozen 2; have t3 := HL.out.frozen 3; have t4 := HL.out.frozen 4
  have r0 : w3.cell? ⟨w.heap.size + 1, 0, none⟩ = some (.slice none 0 0) := HR.out.cell 0
  have r1 : w3.cell? ⟨w.heap.size + 1, 1, none⟩ = some (.slice none 0 0) := HR.out.cell 1
  have r2 : w3.cell? ⟨w.heap.size + 1, 2, none⟩ = some (.slice none 0 0) := HR.out.cell 2
  have r3 : w3.cell? ⟨w.heap.size + 1, 3, none⟩ = some (.int .i64 0) := HR.out.cell 3
  have r4 : w3.cell? ⟨w.heap.size + 1, 4, none⟩ = some (.int .i64 0) := HR.out.cell 4
  have u0 := HR.out.frozen 0; have u1 := HR.out.frozen 1; have u2 := HR.out.frozen 2; have u3 := HR.out.frozen 3; have u4 := HR.out.frozen 4
  have Z1 := Lib.hid ((((((HR.out.other (a := ⟨w.heap.size + 1 + 1, 2, none⟩) (by show w.heap.size + 1 + 1 ≠ w.heap.size + 1; omega) (.slice yc mc dc_)).set 0 (.slice ya ma da)).set 1 (.slice yb mb db)).set 2 (.slice yc mc dc_)).set 3 (.int .i64 f)).set 4 (.int .i64 s))
  have Z2 := Lib.hid (own_set (g := w.heap.size + 1) (i := 4) (u := .int .i64 s) (own_set (g := w.heap.size + 1) (i := 3) (u := .int .i64 f) (own_set (g := w.heap.size + 1) (i := 2) (u := .slice yc mc dc_) (own_set (g := w.heap.size + 1) (i := 1) (u := .slice yb mb db) (own_set (g := w.heap.size + 1) (i := 0) (u := .slice ya ma da) (own_set (g := w.heap.size + 1 + 1) (i := 2) (u := .slice yc mc dc_) HO1.out (by omega)) (by omega)) (by omega)) (by omega)) (by omega)) (by omega))
  have Z3 := Lib.hid (sl_own_set (g := w.heap.size + 1) (i := 4) (u := .int .i64 s) (sl_own_set (g := w.heap.size + 1) (i := 3) (u := .int .i64 f) (sl_own_set (g := w.heap.size + 1) (i := 2) (u := .slice yc mc dc_) (sl_own_set (g := w.heap.size + 1) (i := 1) (u := .slice yb mb db) (sl_own_set (g := w.heap.size + 1) (i := 0) (u := .slice ya ma da) (sl_own_set (g := w.heap.size + 1 + 1) (i := 2) (u := .slice yc mc dc_) HO2.out (by omega)) (by omega)) (by omega)) (by omega)) (by omega)) (by omega))
  have Z4 := Lib.hid (own_set (g := w.heap.size + 1) (i := 4) (u := .int .i64 s) (own_set (g := w.heap.size + 1) (i := 3) (u := .int .i64 f) (own_set (g := w.heap.size + 1) (i := 2) (u := .slice yc mc dc_) (own_set (g := w.heap.size + 1) (i := 1) (u := .slice yb mb db) (own_set (g := w.heap.size + 1) (i := 0) (u := .slice ya ma da) (own_set (g := w.heap.size + 1 + 1) (i := 2) (u := .slice yc mc dc_) HO3.out (by omega)) (by omega)) (by omega)) (by omega)) (by omega)) (by omega))
  have Z5 := Lib.hid ((((((HB.out.setCell (p := ⟨w.heap.size + 1 + 1, 2, none⟩) (by show w.heap.size ≤ w.heap.size + 1 + 1; omega) (.slice yc mc dc_)).setCell (p := ⟨w.heap.size + 1, 0, none⟩) (by show w.heap.size ≤ w.heap.size + 1; omega) (.slice ya ma da)).setCell (p := ⟨w.heap.size + 1, 1, none⟩) (by show w.heap.size ≤ w.heap.size + 1; omega) (.slice yb mb db)).setCell (p := ⟨w.heap.size + 1, 2, none⟩) (by show w.heap.size ≤ w.heap.size + 1; omega) (.slice yc mc dc_)).setCell (p := ⟨w.heap.size + 1, 3, none⟩) (by show w.heap.size ≤ w.heap.size + 1; omega) (.int .i64 f)).setCell (p := ⟨w.heap.size + 1, 4, none⟩) (by show w.heap.size ≤ w.heap.size + 1; omega) (.int .i64 s))
  go_wp2_with fail
  refine bodyPost_ret (Ret.results_c rfl _ _ (w.heap.size + 1) (dc (.slice ya ma da) (.slice yb mb db) (.slice yc mc dc_) f s).toList rfl aggD Z1.out.cells) rfl ?_
  have hlb := fun g hg => (Sl.Own.lt Z3.out g hg).1
  have hlc := fun g hg => (Own.lt Z4.out g hg).1
  exact ⟨_, _, _, rfl, ⟨Z2.out.mono (by omega), Sl.Own.mono Z3.out (by omega), Z4.out.mono (by omega), fun g e1 e2 => by have h5 := HLA.out g e1; have h6 := hlb g e2; omega, fun g e1 e2 => by have h5 := HLA.out g e1; have h6 := hlc g e2; omega, fun g e1 e2 => by have h5 := HLB.out g e1; have h6 := hlc g e2; omega⟩, Z5.out⟩

def validD (x : Dt) : Bool := validN x.1 && decide (0 < x.1.length) && decide (x.2.1.length ≤ 60) && validN x.2.2.1 && decide (0 ≤ x.2.2.2.1 ∧ x.2.2.2.1 ≤ 100000) && decide (0 ≤ x.2.2.2.2 ∧ x.2.2.2.2 ≤ 2147483646)
theorem validD_iff {x : Dt} : validD x = true ↔ validN x.1 = true ∧ 0 < x.1.length ∧ x.2.1.length ≤ 60 ∧ validN x.2.2.1 = true ∧ (0 ≤ x.2.2.2.1 ∧ x.2.2.2.1 ≤ 100000) ∧ (0 ≤ x.2.2.2.2 ∧ x.2.2.2.2 ≤ 2147483646) := by
  unfold validD
  simp only [Bool.and_eq_true, decide_eq_true_eq, and_assoc]
theorem validD_no {x : Dt} (h : ¬ (validN x.1 = true ∧ 0 < x.1.length ∧ x.2.1.length ≤ 60 ∧ validN x.2.2.1 = true ∧ (0 ≤ x.2.2.2.1 ∧ x.2.2.2.1 ≤ 100000) ∧ (0 ≤ x.2.2.2.2 ∧ x.2.2.2.2 ≤ 2147483646))) : validD x = false := by
  cases e : validD x with
  | false => rfl
  | true => exact absurd (validD_iff.1 e) h

set_option maxHeartbeats 4000000 in
theorem specValidData (a b c : Value) (x : Dt) (w : World) (h : DHold w a b c x) (h1 : bulk x.1 ≤ 9000000) (h3 : bulk x.2.2.1 ≤ 9000000) :
    Calls Tryz.prog 38 #[.agg (dc a b c x.2.2.2.1 x.2.2.2.2)] w fun e w' => e = .returned (.bool (validD x)) ∧ Below w.heap.size w w' := by
  obtain ⟨l, m, k, f, s⟩ := x
  simp only at h1 h3 ⊢
  obtain ⟨xa, na, ca, xb, nb, cb, xc, nc, cc, rfl, rfl, rfl⟩ := h.shape
  have HA := Lib.hid (show na = l.length from Holds.lenEq h.1); have HM := Lib.hid (show nb = m.length from Sl.Holds.lenEq h.2.1)
  have HB := Lib.hid ((Below.refl w.heap.size w).alloc (Nat.le_refl _) (.cells (dc (.slice xa na ca) (.slice xb nb cb) (.slice xc nc cc) f s) 31))
  have H0 := Lib.hid h
  have HX := Lib.hid (Ret.Blk.new w (dc (.slice xa na ca) (.slice xb nb cb) (.slice xc nc cc) f s) 31)
  clear h
  obtain ⟨v1, hv1⟩ : ∃ z, validN l = z := ⟨_, rfl⟩
  obtain ⟨v2, hv2⟩ : ∃ z, validN k = z := ⟨_, rfl⟩
  have HV1 := Lib.hid hv1; have HV2 := Lib.hid hv2
  clear hv1 hv2
  go_enter Tryz.func38, Tryz.ntmps38
  go_wp2_with fail
  refine (specValidName _ l _ (H0.out.on HB.out).1 (by omega)).mono ?_
  rintro e w1 ⟨rfl, hb⟩
  rw [HV1.out]
  replace HX := Lib.hid (HX.out.on hb)
  replace HB := Lib.hid (HB.out.trans (hb.mono HB.out.size)); clear hb
  have q0 : w1.cell? ⟨w.heap.size, 0, none⟩ = some (.slice xa na ca) := HX.out.cell 0
  have q1 : w1.cell? ⟨w.heap.size, 1, none⟩ = some (.slice xb nb cb) := HX.out.cell 1
  have q2 : w1.cell? ⟨w.heap.size, 2, none⟩ = some (.slice xc nc cc) := HX.out.cell 2
  have q3 : w1.cell? ⟨w.heap.size, 3, none⟩ = some (.int .i64 f) := HX.out.cell 3
  have q4 : w1.cell? ⟨w.heap.size, 4, none⟩ = some (.int .i64 s) := HX.out.cell 4
  cases v1 with
  | false =>
    have HV := Lib.hid (validD_no (x := (l, m, k, f, s)) (fun e => by have h9 := e.1; rw [show validN l = false from HV1.out] at h9; cases h9))
    go_wp2_with fail
    go_ret
    exact ⟨ret_bool HV.out.symm, HB.out⟩
  | true =>
    by_cases hn : 0 < na
    · have t2 : decide ((0 : Int) < (na : Int)) = true := by simp; omega
      by_cases hm : nb ≤ 60
      · have t3 : decide ((nb : Int) ≤ 60) = true := by simp; omega
        go_wp2_with fail
        clear q0 q1 q2 q3 q4
        refine (specValidName _ k _ (H0.out.on HB.out).2.2 (by omega)).mono ?_
        rintro e w2 ⟨rfl, hb⟩
        rw [HV2.out]
        replace HX := Lib.hid (HX.out.on hb)
        replace HB := Lib.hid (HB.out.trans (hb.mono HB.out.size)); clear hb
        have q0 : w2.cell? ⟨w.heap.size, 0, none⟩ = some (.slice xa na ca) := HX.out.cell 0
        have q1 : w2.cell? ⟨w.heap.size, 1, none⟩ = some (.slice xb nb cb) := HX.out.cell 1
        have q2 : w2.cell? ⟨w.heap.size, 2, none⟩ = some (.slice xc nc cc) := HX.out.cell 2
        have q3 : w2.cell? ⟨w.heap.size, 3, none⟩ = some (.int .i64 f) := HX.out.cell 3
        have q4 : w2.cell? ⟨w.heap.size, 4, none⟩ = some (.int .i64 s) := HX.out.cell 4
        cases v2 with
        | false =>
          have HV := Lib.hid (validD_no (x := (l, m, k, f, s)) (fun e => by have h9 := e.2.2.2.1; rw [show validN k = false from HV2.out] at h9; cases h9))
          go_wp2_with fail
          go_ret
          exact ⟨ret_bool HV.out.symm, HB.out⟩
        | true =>
          by_cases hf : 0 ≤ f ∧ f ≤ 100000
          · have HI := Lib.hid (fun wx => Num.specIn_true hf.1 hf.2 wx)
            have H_hf := Lib.hid hf
            clear hf
            go_wp2_with fail
            refine (HI.out _).mono ?_
            rintro e w' ⟨rfl, rfl⟩
            clear HI
            by_cases hs : 0 ≤ s ∧ s ≤ 2147483646
            · have HI := Lib.hid (fun wx => Num.specIn_true hs.1 hs.2 wx)
              have H_hs := Lib.hid hs
              clear hs
              go_wp2_with fail
              refine (HI.out _).mono ?_
              rintro e w' ⟨rfl, rfl⟩
              clear HI
              have HV := Lib.hid ((validD_iff (x := (l, m, k, f, s))).2 (show validN l = true ∧ 0 < l.length ∧ m.length ≤ 60 ∧ validN k = true ∧ (0 ≤ f ∧ f ≤ 100000) ∧ (0 ≤ s ∧ s ≤ 2147483646) from ⟨HV1.out, by rw [← HA.out]; exact hn, by rw [← HM.out]; exact hm, HV2.out, H_hf.out, H_hs.out⟩))
              go_wp2_with fail
              go_ret
              exact ⟨ret_bool HV.out.symm, HB.out⟩
            · have HI := Lib.hid (fun wx => Num.specIn_false hs wx)
              have HV := Lib.hid (validD_no (x := (l, m, k, f, s)) (fun e => hs e.2.2.2.2.2))
              clear hs
              go_wp2_with fail
              refine (HI.out _).mono ?_
              rintro e w' ⟨rfl, rfl⟩
              go_wp2_with fail
              go_ret
              exact ⟨ret_bool HV.out.symm, HB.out⟩
          · have HI := Lib.hid (fun wx => Num.specIn_false hf wx)
            have HV := Lib.hid (validD_no (x := (l, m, k, f, s)) (fun e => hf e.2.2.2.2.1))
            clear hf
            go_wp2_with fail
            refine (HI.out _).mono ?_
            rintro e w' ⟨rfl, rfl⟩
            go_wp2_with fail
            go_ret
            exact ⟨ret_bool HV.out.symm, HB.out⟩
      · have t3 : decide ((nb : Int) ≤ 60) = false := by simp; omega
        have HV := Lib.hid (validD_no (x := (l, m, k, f, s)) (fun e => hm (by rw [HM.out]; exact e.2.2.1)))
        go_wp2_with fail
        go_ret
        exact ⟨ret_bool HV.out.symm, HB.out⟩
    · have t2 : decide ((0 : Int) < (na : Int)) = false := by simp; omega
      have HV := Lib.hid (validD_no (x := (l, m, k, f, s)) (fun e => hn (by rw [HA.out]; exact e.2.1)))
      go_wp2_with fail
      go_ret
      exact ⟨ret_bool HV.out.symm, HB.out⟩

end Go.Proofs.YtnblopilgfdjkaaGreat.Row
