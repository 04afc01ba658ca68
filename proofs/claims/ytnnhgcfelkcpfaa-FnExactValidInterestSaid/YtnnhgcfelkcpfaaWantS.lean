/- Contracts of the model's functions on interests: AppendName. No conditions but that lengths fit. -/
import Derived.Test.YtnnhgcfelkcpfaaWant
import Derived.Test.YtnnhgcfelkcpfaaConv
import Derived.Test.YtnnhgcfelkcpfaaBytes
import Derived.Test.YtnnhgcfelkcpfaaValid
import Derived.Test.YtnnhgcfelkcpfaaInts
import Derived.Test.YtnnhgcfelkcpfaaAppP
namespace Go.Proofs.Ytnnhgcfelkcpfaa.Row
open Go.ChangeShapes Go.WideShapes Go.ChangeAt Go.RowKit Go.Instr
set_option linter.unusedVariables false
set_option maxRecDepth 100000

/-- The parts' encodings, one behind the other. -/
def encPs (l : List ByteArray) : List Int := l.flatMap fun s => Var.var s.size ++ Sl.bytesOf s
def encN (l : List ByteArray) : List Int := Var.var l.length ++ encPs l
def appName (b : List Int) (l : List ByteArray) : List Int := if validN l = true then b ++ encN l else b
theorem encPs_next {l : List ByteArray} {k : Nat} (h : k < l.length) : encPs (l.take (k + 1)) = encPs (l.take k) ++ (Var.var (nth l k).size ++ Sl.bytesOf (nth l k)) := by
  unfold encPs
  rw [List.take_succ_eq_append_getElem h, List.flatMap_append, nth_eq h]
  simp
theorem encPs_len : ∀ l : List ByteArray, (encPs l).length ≤ 6 * bulk l
  | [] => by simp [encPs]
  | s :: r => by
    have h1 := encPs_len r
    have h2 := Var.var_len s.size
    have h3 : encPs (s :: r) = (Var.var s.size ++ Sl.bytesOf s) ++ encPs r := by simp [encPs]
    have h4 : bulk (s :: r) = 1 + s.size + bulk r := by simp [bulk_cons]
    rw [h3, List.length_append, List.length_append, Sl.bytesOf_length]
    omega
theorem bulk_take_le (l : List ByteArray) (k : Nat) : bulk (l.take k) ≤ bulk l := by
  have := bulk_append (l.take k) (l.drop k)
  rw [List.take_append_drop] at this
  omega
theorem size_bulk {l : List ByteArray} {k : Nat} (h : k < l.length) : (nth l k).size ≤ bulk l := by
  have h1 := bulk_append (l.take k) (l.drop k)
  rw [List.take_append_drop, List.drop_eq_getElem_cons h, bulk_cons, ← nth_eq h] at h1
  omega

set_option maxHeartbeats 2000000 in
theorem specAppendName (v u : Value) (b : List Int) (l : List ByteArray) (w : World) (h : Sl.Holds .u8 w v b) (g : Holds Value.string w u l) (hb : b.length ≤ 2000000) (hl : bulk l ≤ 1200000) :
    Calls Try.prog 16 #[v, .agg #[u]] w (Sl.GivesB w (appName b l)) := by
  obtain ⟨x, cx, rfl, hcx, hh⟩ := h.shape
  obtain ⟨y, q, cy, rfl, hq, hcy, hg⟩ := g.shapeN
  obtain ⟨m, hm⟩ : ∃ m, m = b.length := ⟨_, rfl⟩
  rw [← hm] at hcx hh hb ⊢
  have HM := Lib.hid hm; have HQ := Lib.hid hq
  have hb0 := (Below.refl w.heap.size w).alloc (Nat.le_refl _) (.cells #[.slice y q cy] 29)
  have hb1 := hb0.alloc (by simp) (.cells #[] 5)
  have HB1 := Lib.hid hb1
  have HH := Lib.hid (hh.on hb1)
  have HG := Lib.hid (hg.on hb1)
  have HX := Lib.hid ((Ret.Box.new w (.slice y q cy) 29).on ((Below.refl _ _).alloc (Nat.le_refl _) (.cells #[] 5)))
  have hoe := Sl.own_empty .u8 5 (w.alloc (.cells #[.slice y q cy] 29))
  rw [World.size_alloc] at hoe
  have HOE := Lib.hid hoe
  have HBL := Lib.hid hl
  have HG0 := Lib.hid hg
  have hql : q ≤ 1200000 := by rw [hq]; exact Nat.le_trans (bulk_len l) hl
  clear hh h g hg hm hq hb0 hb1 hoe
  go_enter Try.func16, Try.ntmps16
  go_wp2_with (at_builtin; refine Sl.wpList_app (k := .u8) (B := w.heap.size + 1) (l := []) (m := b) rfl _ _ rfl Try.underlying35 Sl.elemBYTE rfl rfl rfl HOE.out HH.out ?_ (by decide) ?_ ?_)
  · have := HM.out; simp; omega
  · simp
  intro v1 w1 ho hg
  have HB := Lib.hid (HB1.out.grown hg (by simp; omega) (fun g e => by cases e; exact Nat.le_succ _))
  have HO := Lib.hid (show Sl.Own 5 .u8 w.heap.size w1 v1 b from ho.mono (Nat.le_succ _))
  have HX1 := Lib.hid (HX.out.grown hg (by simp [Value.ownBlock]))
  have HG1 := Lib.hid (HG0.out.on HB.out)
  have hx1 := HX1.out.cell
  clear ho hg HX HOE HH HG
  obtain ⟨ok, hok⟩ : ∃ z, validN l = z := ⟨_, rfl⟩
  have HOK := Lib.hid hok
  go_wp2_with fail
  refine (specValidName _ l _ HG1.out (by omega)).mono ?_
  rintro e w2 ⟨rfl, hb2⟩
  rw [hok]
  have HB2 := Lib.hid (HB.out.trans (hb2.mono HB.out.size))
  have HO2 := Lib.hid (HO.out.on hb2)
  have HX2 := Lib.hid (HX1.out.on hb2)
  have hx2 := HX2.out.cell
  clear hb2 hok hx1
  cases ok with
  | false =>
    have HV : Hid (appName b l = b) := Lib.hid (by unfold appName; rw [if_neg (by rw [HOK.out]; simp)])
    go_wp2_with fail
    go_ret
    exact ⟨_, rfl, by rw [HV.out]; exact HO2.out, HB2.out⟩
  | true =>
    have HV : Hid (appName b l = b ++ encN l) := Lib.hid (by unfold appName; rw [if_pos HOK.out])
    go_wp2_with fail
    refine (Sl.specAppendVarint _ b q _ HO2.out.holds (by rw [← HM.out]; omega)).mono ?_
    rintro e w3 ⟨v3, rfl, ho3, hb3⟩
    have HO3 := Lib.hid (show Sl.Own 5 .u8 w.heap.size w3 v3 (b ++ Var.var q ++ encPs (l.take 0)) by rw [List.take_zero, show encPs [] = [] from rfl, List.append_nil]; exact ho3.mono HB2.out.size)
    have HB3 := Lib.hid (HB2.out.trans (hb3.mono HB2.out.size))
    have HX3 := Lib.hid (HX2.out.on hb3)
    clear ho3 hb3 hx2
    have hx3 := HX3.out.cell
    go_wp2_with fail
    go_loopw [5, 6] (fun tv iv wr => ∃ k : Nat, k ≤ q ∧ iv = .int .i64 k ∧ Hid (Sl.Own 5 .u8 w.heap.size wr tv (b ++ Var.var q ++ encPs (l.take k))) ∧ Hid (Below w.heap.size w wr) ∧ Hid (Ret.Box wr w.heap.size (.slice y q cy) 29)) (fun _ iv _ => q - (intOf iv).toNat)
    case atStart => exact ⟨0, Nat.zero_le _, rfl, HO3, HB3, HX3⟩
    case round =>
      obtain ⟨k, hk, rfl, hO, hB, hX⟩ := hrel
      have hxr := hX.out.cell
      by_cases hlt : k < q
      · obtain ⟨b0, off0, hy, hc⟩ := (HG0.out.on hB.out).at (j := k) (by rw [← HQ.out]; exact hlt)
        subst hy
        have hsz : (nth l k).size ≤ 1200000 := by
          have h2 := size_bulk (l := l) (k := k) (by rw [← HQ.out]; exact hlt)
          have h3 := HBL.out
          omega
        have hle : (encPs (l.take k)).length ≤ 7200000 := by
          have h1 := encPs_len (l.take k)
          have h2 := bulk_take_le l k
          have h3 := HBL.out
          omega
        have hll : (b ++ Var.var q ++ encPs (l.take k)).length ≤ 10000000 := by
          have h1 := Var.var_len q
          rw [List.length_append, List.length_append, ← HM.out]; omega
        have HN := Lib.hid (encPs_next (l := l) (k := k) (by rw [← HQ.out]; exact hlt))
        obtain ⟨cp, wc', e0, h0, b0'⟩ := Sl.conv_bytes wr (nth l k)
        have H0 := Lib.hid h0; have B0 := Lib.hid b0'
        have HLL := Lib.hid hll
        clear h0 b0' hle hll
        go_wp2_with fail
        refine (Sl.specAppendBytes _ _ (b ++ Var.var q ++ encPs (l.take k)) (Sl.bytesOf (nth l k)) wc' (hO.out.on B0.out).holds H0.out HLL.out (by rw [Sl.bytesOf_length]; omega)).mono ?_
        rintro e w4 ⟨v4, rfl, ho4, hb4⟩
        have HB4 := Lib.hid ((hB.out.trans (B0.out.mono hB.out.size)).trans (hb4.mono (Nat.le_trans hB.out.size B0.out.size)))
        have HO4 := Lib.hid (show Sl.Own 5 .u8 w.heap.size w4 v4 (b ++ Var.var q ++ encPs (l.take (k + 1))) by
          have h9 := ho4.mono (Nat.le_trans hB.out.size B0.out.size)
          rw [HN.out, ← List.append_assoc, ← Sl.bytesOf_length, ← List.append_assoc]
          exact h9)
        have HX4 := Lib.hid ((hX.out.on B0.out).on hb4)
        clear ho4 hb4 e0 hxr hc
        go_wp2_with fail
        go_roundw
        case rel => exact ⟨k + 1, by omega, by go_num, HO4, HB4, HX4⟩
        case measure => simp [intOf]; omega
      · obtain rfl : k = q := by omega
        clear hlt
        go_wp2_with fail
        go_ret
        refine ⟨_, rfl, ?_, hB.out⟩
        have h9 := hO.out
        rw [HQ.out, List.take_length] at h9
        rw [HV.out]
        unfold encN
        rw [← List.append_assoc]
        exact h9
end Go.Proofs.Ytnnhgcfelkcpfaa.Row
