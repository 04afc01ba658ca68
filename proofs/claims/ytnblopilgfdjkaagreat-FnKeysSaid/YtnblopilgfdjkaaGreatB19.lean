/- Contracts and mathematics, joined: RingD. No conditions but those that each states. -/
import Derived.Test.YtnblopilgfdjkaaGreatB18
import Derived.Test.YtnblopilgfdjkaaGreatB10
/- Contracts of VerifySignature and MatchingKeys, the program's and the model's. No conditions but that lengths fit. -/
namespace Go.Proofs.YtnblopilgfdjkaaGreat.Row.Ring
open Go.ChangeShapes Go.WideShapes Go.ChangeAt Go.RowKit Go.Instr
set_option linter.unusedVariables false
set_option maxRecDepth 100000

/-- A packet's cells, with its parts' slices. -/
theorem kD_cells {w : World} {xa xb xc : Option Addr} {na ca nb cb nc cc : Nat} {f0 s0 : Int} {x : Dt} (h : kD.At w (.agg #[.slice xa na ca, .slice xb nb cb, .slice xc nc cc, .int .i64 f0, .int .i64 s0]) x) : DHold w (.slice xa na ca) (.slice xb nb cb) (.slice xc nc cc) x ∧ f0 = x.2.2.2.1 ∧ s0 = x.2.2.2.2 := by
  obtain ⟨a, b, c, e, hd⟩ := kD_at h
  simp only [Value.agg.injEq] at e
  have e2 := congrArg Array.toList e
  simp only [List.cons.injEq, Value.int.injEq, true_and, and_true] at e2
  obtain ⟨rfl, rfl, rfl, rfl, rfl⟩ := e2
  exact ⟨hd, rfl, rfl⟩
/-- The places of the keys that verify, up to place k. -/
def matTo (T : List (List ByteArray × Int)) (x : Dt) (k : Nat) : List Int := ((List.range k).filter (fun i => verD (nth T i).2 x)).map (fun i : Nat => (i : Int))
def matK (T : List (List ByteArray × Int)) (x : Dt) : List Int := matTo T x T.length
theorem matTo_yes {T : List (List ByteArray × Int)} {x : Dt} {k : Nat} (h : verD (nth T k).2 x = true) : matTo T x (k + 1) = matTo T x k ++ [(k : Int)] := by
  unfold matTo
  rw [List.range_succ, List.filter_append, List.map_append]
  simp [h]
theorem matTo_no {T : List (List ByteArray × Int)} {x : Dt} {k : Nat} (h : verD (nth T k).2 x = false) : matTo T x (k + 1) = matTo T x k := by
  unfold matTo
  rw [List.range_succ, List.filter_append, List.map_append]
  simp [h]
theorem matTo_le (T : List (List ByteArray × Int)) (x : Dt) (k : Nat) : (matTo T x k).length ≤ k := by
  unfold matTo
  rw [List.length_map]
  have := List.length_filter_le (fun i => verD (nth T i).2 x) (List.range k)
  rwa [List.length_range] at this

set_option maxHeartbeats 4000000 in
theorem specVerifySignature (v V : Value) (T : List (List ByteArray × Int)) (x : Dt) (w : World) (h : TabHolds w v T) (g : kD.At w V x) (gn : WfD x) (hl : T.length ≤ 4000000) (hT : smT T) (hx : bulkD x ≤ 1200000) :
    Calls Tryz.prog 15 #[v, V] w fun e w' => e = .returned (.bool (verD (lkN T x.2.2.1) x)) ∧ Below w.heap.size w w' := by
  obtain ⟨y, n, cy, rfl, -, -, hh⟩ := h.shapeN
  obtain ⟨xa, na, ca, xb, nb, cb, xc, nc, cc, rfl, hg⟩ := kD_shapeA g
  obtain ⟨l, m, k, f, s⟩ := x
  simp only at hg ⊢
  have hb0 := ((Below.refl w.heap.size w).alloc (Nat.le_refl _) (.cells #[.slice xa na ca, .slice xb nb cb, .slice xc nc cc, .int .i64 f, .int .i64 s] 31)).drew
  have HB := Lib.hid hb0; have HH := Lib.hid (hh.on hb0); have HG := Lib.hid (hg.on hb0)
  have HK := Lib.hid ((kD_cells hg).1.2.2.on hb0)
  have HX := Lib.hid (Ret.Blk.new w #[.slice xa na ca, .slice xb nb cb, .slice xc nc cc, .int .i64 f, .int .i64 s] 31)
  have HL := Lib.hid hl; have HT := Lib.hid hT; have HN := Lib.hid gn; have HZ := Lib.hid hx
  have HKB := Lib.hid (show bulk k ≤ 9000000 by unfold bulkD at hx; simp only at hx; omega)
  obtain ⟨r, hr⟩ : ∃ r, lkN T k = r := ⟨_, rfl⟩
  obtain ⟨z, hz⟩ : ∃ z, verD r (l, m, k, f, s) = z := ⟨_, rfl⟩
  have HRR := Lib.hid hr; have HZZ := Lib.hid hz
  have KS0 := Lib.hid (show (w.alloc (.cells #[.slice xa na ca, .slice xb nb cb, .slice xc nc cc, .int .i64 f, .int .i64 s] 31)).drew.cell? ⟨w.heap.size, 0, none⟩ = some (.slice xa na ca) ∧ (w.alloc (.cells #[.slice xa na ca, .slice xb nb cb, .slice xc nc cc, .int .i64 f, .int .i64 s] 31)).drew.cell? ⟨w.heap.size, 1, none⟩ = some (.slice xb nb cb) ∧ (w.alloc (.cells #[.slice xa na ca, .slice xb nb cb, .slice xc nc cc, .int .i64 f, .int .i64 s] 31)).drew.cell? ⟨w.heap.size, 2, none⟩ = some (.slice xc nc cc) ∧ (w.alloc (.cells #[.slice xa na ca, .slice xb nb cb, .slice xc nc cc, .int .i64 f, .int .i64 s] 31)).drew.cell? ⟨w.heap.size, 3, none⟩ = some (.int .i64 f) ∧ (w.alloc (.cells #[.slice xa na ca, .slice xb nb cb, .slice xc nc cc, .int .i64 f, .int .i64 s] 31)).drew.cell? ⟨w.heap.size, 4, none⟩ = some (.int .i64 s) ∧ Below w.heap.size w (w.alloc (.cells #[.slice xa na ca, .slice xb nb cb, .slice xc nc cc, .int .i64 f, .int .i64 s] 31)).drew from ⟨HX.out.cell 0, HX.out.cell 1, HX.out.cell 2, HX.out.cell 3, HX.out.cell 4, HB.out⟩)
  rw [hr, hz]
  clear hb0 hh hg h g gn hl hT hx hr hz
  go_enter Tryz.func15, Tryz.ntmps15
  go_wp2_with fail
  go_region_held3 (fun w' => w'.cell? ⟨w.heap.size, 0, none⟩ = some (.slice xa na ca) ∧ w'.cell? ⟨w.heap.size, 1, none⟩ = some (.slice xb nb cb) ∧ w'.cell? ⟨w.heap.size, 2, none⟩ = some (.slice xc nc cc) ∧ w'.cell? ⟨w.heap.size, 3, none⟩ = some (.int .i64 f) ∧ w'.cell? ⟨w.heap.size, 4, none⟩ = some (.int .i64 s) ∧ Below w.heap.size w w') (first | exact KS0.out | exact KS1.out | exact KS2.out) (first | (go_at_call 46; refine (specVerifyDataK _ r (l, m, k, f, s) _ (HG.out.on hb1) HN.out HZ.out).mono ?_; rintro e w2 ⟨rfl, hb2⟩; rw [HZZ.out]; have KS2 := Lib.hid (show w2.cell? ⟨w.heap.size, 0, none⟩ = some (.slice xa na ca) ∧ w2.cell? ⟨w.heap.size, 1, none⟩ = some (.slice xb nb cb) ∧ w2.cell? ⟨w.heap.size, 2, none⟩ = some (.slice xc nc cc) ∧ w2.cell? ⟨w.heap.size, 3, none⟩ = some (.int .i64 f) ∧ w2.cell? ⟨w.heap.size, 4, none⟩ = some (.int .i64 s) ∧ Below w.heap.size w w2 from ⟨kc KS1.out.1 hb2, kc KS1.out.2.1 hb2, kc KS1.out.2.2.1 hb2, kc KS1.out.2.2.2.1 hb2, kc KS1.out.2.2.2.2.1 hb2, KS1.out.2.2.2.2.2.trans (hb2.mono KS1.out.2.2.2.2.2.size)⟩)) | (go_at_call 21; refine (specSecretOf _ _ T k _ HH.out HK.out HL.out HT.out HKB.out).mono ?_; rintro e w1 ⟨rfl, hb1⟩; rw [HRR.out]; have KS1 := Lib.hid (show w1.cell? ⟨w.heap.size, 0, none⟩ = some (.slice xa na ca) ∧ w1.cell? ⟨w.heap.size, 1, none⟩ = some (.slice xb nb cb) ∧ w1.cell? ⟨w.heap.size, 2, none⟩ = some (.slice xc nc cc) ∧ w1.cell? ⟨w.heap.size, 3, none⟩ = some (.int .i64 f) ∧ w1.cell? ⟨w.heap.size, 4, none⟩ = some (.int .i64 s) ∧ Below w.heap.size w w1 from ⟨kc KS0.out.1 hb1, kc KS0.out.2.1 hb1, kc KS0.out.2.2.1 hb1, kc KS0.out.2.2.2.1 hb1, kc KS0.out.2.2.2.2.1 hb1, KS0.out.2.2.2.2.2.trans (hb1.mono KS0.out.2.2.2.2.2.size)⟩)))
  all_goals
    go_wp2_with fail
    go_ret
    exact ⟨rfl, KS2.out.2.2.2.2.2⟩

set_option maxHeartbeats 4000000 in
theorem implVerifySignature (v V : Value) (T : List (List ByteArray × Int)) (x : Dt) (w : World) (h : TabHolds w v T) (g : kD.At w V x) (gn : WfD x) (hl : T.length ≤ 4000000) (hT : smT T) (hx : bulkD x ≤ 1200000) :
    Calls Tryz.prog 14 #[v, V] w fun e w' => e = .returned (.bool (verD (lkN T x.2.2.1) x)) ∧ Below w.heap.size w w' := by
  obtain ⟨y, n, cy, rfl, -, -, hh⟩ := h.shapeN
  obtain ⟨xa, na, ca, xb, nb, cb, xc, nc, cc, rfl, hg⟩ := kD_shapeA g
  obtain ⟨l, m, k, f, s⟩ := x
  simp only at hg ⊢
  have hb0 := ((Below.refl w.heap.size w).alloc (Nat.le_refl _) (.cells #[.slice xa na ca, .slice xb nb cb, .slice xc nc cc, .int .i64 f, .int .i64 s] 31)).drew
  have HB := Lib.hid hb0; have HH := Lib.hid (hh.on hb0); have HG := Lib.hid (hg.on hb0)
  have HK := Lib.hid ((kD_cells hg).1.2.2.on hb0)
  have HX := Lib.hid (Ret.Blk.new w #[.slice xa na ca, .slice xb nb cb, .slice xc nc cc, .int .i64 f, .int .i64 s] 31)
  have HL := Lib.hid hl; have HT := Lib.hid hT; have HN := Lib.hid gn; have HZ := Lib.hid hx
  have HKB := Lib.hid (show bulk k ≤ 9000000 by unfold bulkD at hx; simp only at hx; omega)
  obtain ⟨r, hr⟩ : ∃ r, lkN T k = r := ⟨_, rfl⟩
  obtain ⟨z, hz⟩ : ∃ z, verD r (l, m, k, f, s) = z := ⟨_, rfl⟩
  have HRR := Lib.hid hr; have HZZ := Lib.hid hz
  have KS0 := Lib.hid (show (w.alloc (.cells #[.slice xa na ca, .slice xb nb cb, .slice xc nc cc, .int .i64 f, .int .i64 s] 31)).drew.cell? ⟨w.heap.size, 0, none⟩ = some (.slice xa na ca) ∧ (w.alloc (.cells #[.slice xa na ca, .slice xb nb cb, .slice xc nc cc, .int .i64 f, .int .i64 s] 31)).drew.cell? ⟨w.heap.size, 1, none⟩ = some (.slice xb nb cb) ∧ (w.alloc (.cells #[.slice xa na ca, .slice xb nb cb, .slice xc nc cc, .int .i64 f, .int .i64 s] 31)).drew.cell? ⟨w.heap.size, 2, none⟩ = some (.slice xc nc cc) ∧ (w.alloc (.cells #[.slice xa na ca, .slice xb nb cb, .slice xc nc cc, .int .i64 f, .int .i64 s] 31)).drew.cell? ⟨w.heap.size, 3, none⟩ = some (.int .i64 f) ∧ (w.alloc (.cells #[.slice xa na ca, .slice xb nb cb, .slice xc nc cc, .int .i64 f, .int .i64 s] 31)).drew.cell? ⟨w.heap.size, 4, none⟩ = some (.int .i64 s) ∧ Below w.heap.size w (w.alloc (.cells #[.slice xa na ca, .slice xb nb cb, .slice xc nc cc, .int .i64 f, .int .i64 s] 31)).drew from ⟨HX.out.cell 0, HX.out.cell 1, HX.out.cell 2, HX.out.cell 3, HX.out.cell 4, HB.out⟩)
  rw [hr, hz]
  clear hb0 hh hg h g gn hl hT hx hr hz
  go_enter Tryz.func14, Tryz.ntmps14
  go_wp2_with fail
  go_region_held3 (fun w' => w'.cell? ⟨w.heap.size, 0, none⟩ = some (.slice xa na ca) ∧ w'.cell? ⟨w.heap.size, 1, none⟩ = some (.slice xb nb cb) ∧ w'.cell? ⟨w.heap.size, 2, none⟩ = some (.slice xc nc cc) ∧ w'.cell? ⟨w.heap.size, 3, none⟩ = some (.int .i64 f) ∧ w'.cell? ⟨w.heap.size, 4, none⟩ = some (.int .i64 s) ∧ Below w.heap.size w w') (first | exact KS0.out | exact KS1.out | exact KS2.out) (first | (go_at_call 45; refine (implVerifyDataK _ r (l, m, k, f, s) _ (HG.out.on hb1) HN.out HZ.out).mono ?_; rintro e w2 ⟨rfl, hb2⟩; rw [HZZ.out]; have KS2 := Lib.hid (show w2.cell? ⟨w.heap.size, 0, none⟩ = some (.slice xa na ca) ∧ w2.cell? ⟨w.heap.size, 1, none⟩ = some (.slice xb nb cb) ∧ w2.cell? ⟨w.heap.size, 2, none⟩ = some (.slice xc nc cc) ∧ w2.cell? ⟨w.heap.size, 3, none⟩ = some (.int .i64 f) ∧ w2.cell? ⟨w.heap.size, 4, none⟩ = some (.int .i64 s) ∧ Below w.heap.size w w2 from ⟨kc KS1.out.1 hb2, kc KS1.out.2.1 hb2, kc KS1.out.2.2.1 hb2, kc KS1.out.2.2.2.1 hb2, kc KS1.out.2.2.2.2.1 hb2, KS1.out.2.2.2.2.2.trans (hb2.mono KS1.out.2.2.2.2.2.size)⟩)) | (go_at_call 20; refine (implSecretOf _ _ T k _ HH.out HK.out HL.out HT.out HKB.out).mono ?_; rintro e w1 ⟨rfl, hb1⟩; rw [HRR.out]; have KS1 := Lib.hid (show w1.cell? ⟨w.heap.size, 0, none⟩ = some (.slice xa na ca) ∧ w1.cell? ⟨w.heap.size, 1, none⟩ = some (.slice xb nb cb) ∧ w1.cell? ⟨w.heap.size, 2, none⟩ = some (.slice xc nc cc) ∧ w1.cell? ⟨w.heap.size, 3, none⟩ = some (.int .i64 f) ∧ w1.cell? ⟨w.heap.size, 4, none⟩ = some (.int .i64 s) ∧ Below w.heap.size w w1 from ⟨kc KS0.out.1 hb1, kc KS0.out.2.1 hb1, kc KS0.out.2.2.1 hb1, kc KS0.out.2.2.2.1 hb1, kc KS0.out.2.2.2.2.1 hb1, KS0.out.2.2.2.2.2.trans (hb1.mono KS0.out.2.2.2.2.2.size)⟩)))
  all_goals
    go_wp2_with fail
    go_ret
    exact ⟨rfl, KS2.out.2.2.2.2.2⟩

set_option maxHeartbeats 8000000 in
theorem specMatchingKeys (v V : Value) (T : List (List ByteArray × Int)) (x : Dt) (w : World) (h : TabHolds w v T) (g : kD.At w V x) (gn : WfD x) (hl : T.length ≤ 4000000) (hT : smT T) (hx : bulkD x ≤ 1200000) :
    Calls Tryz.prog 18 #[v, V] w (Sl.GivesI w (matK T x)) := by
  obtain ⟨L, rfl, h⟩ := h
  obtain ⟨y, n, cy, rfl, hn, -, hh⟩ := h.shapeN
  obtain ⟨xa, na, ca, xb, nb, cb, xc, nc, cc, rfl, hg⟩ := kD_shapeA g
  obtain ⟨l, m, k, f, s⟩ := x
  simp only at hg ⊢
  rw [strip_length, ← hn] at hl
  have hb0 := (Below.refl w.heap.size w).alloc (Nat.le_refl _) (.cells #[.slice xa na ca, .slice xb nb cb, .slice xc nc cc, .int .i64 f, .int .i64 s] 31)
  have hb1 := hb0.alloc (by simp) (.cells #[] 3)
  have HB0 := Lib.hid hb1; have HH := Lib.hid hh; have HG := Lib.hid hg
  have HX0 := Lib.hid ((Ret.Blk.new w #[.slice xa na ca, .slice xb nb cb, .slice xc nc cc, .int .i64 f, .int .i64 s] 31).on ((Below.refl _ _).alloc (Nat.le_refl _) (.cells #[] 3)))
  have hoe := Sl.own_empty .i64 3 (w.alloc (.cells #[.slice xa na ca, .slice xb nb cb, .slice xc nc cc, .int .i64 f, .int .i64 s] 31))
  rw [World.size_alloc] at hoe
  have HO0 := Lib.hid (show Sl.Own 3 .i64 (w.heap.size + 1) ((w.alloc (.cells #[.slice xa na ca, .slice xb nb cb, .slice xc nc cc, .int .i64 f, .int .i64 s] 31)).alloc (.cells #[] 3)) (.slice (some ⟨w.heap.size + 1, 0, none⟩) 0 0) (matTo (strip L) (l, m, k, f, s) 0) from hoe)
  have HL := Lib.hid hl; have HT := Lib.hid hT; have HN := Lib.hid gn; have HZ := Lib.hid hx; have HLN := Lib.hid hn
  clear hb0 hb1 hh hg h g gn hT hx hn hoe
  go_enter Tryz.func18, Tryz.ntmps18
  go_wp2_with fail
  go_loopw [5, 6] (fun ov i wr => ∃ j : Nat, j ≤ n ∧ i = .int .i64 j ∧ Hid (Sl.Own 3 .i64 (w.heap.size + 1) wr ov (matTo (strip L) (l, m, k, f, s) j)) ∧ Hid (Below w.heap.size w wr) ∧ Hid (Ret.Blk wr w.heap.size #[.slice xa na ca, .slice xb nb cb, .slice xc nc cc, .int .i64 f, .int .i64 s] 31)) (fun _ i _ => n - (intOf i).toNat)
  case atStart => exact ⟨0, Nat.zero_le _, rfl, HO0, HB0, HX0⟩
  case round =>
    obtain ⟨j, hj, rfl, hO, hB, hX⟩ := hrel
    obtain ⟨xo, co, rfl, -, -⟩ := hO.out.holds.shape
    obtain ⟨no, hno⟩ : ∃ z, z = (matTo (strip L) (l, m, k, f, s) j).length := ⟨_, rfl⟩
    rw [← hno] at hO ⊢
    have HNO := Lib.hid hno
    clear hno
    by_cases hlt : j < n
    · have HJL := Lib.hid (show j < L.length by have := HLN.out; omega)
      obtain ⟨b, off, rfl, hc, hd, -⟩ := (HH.out.on hB.out).at HJL.out
      have HE := Lib.hid (strip_nth HJL.out)
      obtain ⟨z, hz⟩ : ∃ z, verD (nth L j).val (l, m, k, f, s) = z := ⟨_, rfl⟩
      have HZZ := Lib.hid hz
      have hj0 : (0 : Int) ≤ (j : Int) := by omega
      have hj1 : (j : Int) < (n : Int) := by omega
      clear hz hc
      have hdr : Below wr.heap.size wr wr.drew := (Below.refl _ _).drew
      have HGr := Lib.hid ((HG.out.on hB.out).on hdr)
      have HOr := Lib.hid (hO.out.on hdr); have HXr := Lib.hid (hX.out.on hdr)
      have HSr := Lib.hid (show w.heap.size + 1 ≤ wr.drew.heap.size from hX.out.lt)
      have KS0 := Lib.hid (show wr.drew.cell? ⟨b, off + j * 2 + 1, none⟩ = some (.int .i64 (nth L j).val) ∧ wr.drew.cell? ⟨w.heap.size, 0, none⟩ = some (.slice xa na ca) ∧ wr.drew.cell? ⟨w.heap.size, 1, none⟩ = some (.slice xb nb cb) ∧ wr.drew.cell? ⟨w.heap.size, 2, none⟩ = some (.slice xc nc cc) ∧ wr.drew.cell? ⟨w.heap.size, 3, none⟩ = some (.int .i64 f) ∧ wr.drew.cell? ⟨w.heap.size, 4, none⟩ = some (.int .i64 s) ∧ Below w.heap.size w wr.drew from ⟨hd, hX.out.cell 0, hX.out.cell 1, hX.out.cell 2, hX.out.cell 3, hX.out.cell 4, hB.out.drew⟩)
      clear hdr hd
      go_wp2_with fail
      go_region_held3 (fun w' => w'.cell? ⟨b, off + j * 2 + 1, none⟩ = some (.int .i64 (nth L j).val) ∧ w'.cell? ⟨w.heap.size, 0, none⟩ = some (.slice xa na ca) ∧ w'.cell? ⟨w.heap.size, 1, none⟩ = some (.slice xb nb cb) ∧ w'.cell? ⟨w.heap.size, 2, none⟩ = some (.slice xc nc cc) ∧ w'.cell? ⟨w.heap.size, 3, none⟩ = some (.int .i64 f) ∧ w'.cell? ⟨w.heap.size, 4, none⟩ = some (.int .i64 s) ∧ Below w.heap.size w w') (first | exact KS0.out | exact KS1.out) ((go_at_call 46; refine (specVerifyDataK _ (nth L j).val (l, m, k, f, s) _ HGr.out HN.out HZ.out).mono ?_; rintro e wz ⟨rfl, hb1⟩; rw [HZZ.out]; have KS1 := Lib.hid (show wz.cell? ⟨b, off + j * 2 + 1, none⟩ = some (.int .i64 (nth L j).val) ∧ wz.cell? ⟨w.heap.size, 0, none⟩ = some (.slice xa na ca) ∧ wz.cell? ⟨w.heap.size, 1, none⟩ = some (.slice xb nb cb) ∧ wz.cell? ⟨w.heap.size, 2, none⟩ = some (.slice xc nc cc) ∧ wz.cell? ⟨w.heap.size, 3, none⟩ = some (.int .i64 f) ∧ wz.cell? ⟨w.heap.size, 4, none⟩ = some (.int .i64 s) ∧ Below w.heap.size w wz from ⟨kc KS0.out.1 hb1, kc KS0.out.2.1 hb1, kc KS0.out.2.2.1 hb1, kc KS0.out.2.2.2.1 hb1, kc KS0.out.2.2.2.2.1 hb1, kc KS0.out.2.2.2.2.2.1 hb1, KS0.out.2.2.2.2.2.2.trans (hb1.mono KS0.out.2.2.2.2.2.2.size)⟩)))
      have HO2 := Lib.hid (HOr.out.on hb1); have HX2 := Lib.hid (HXr.out.on hb1)
      have HB2 := Lib.hid KS1.out.2.2.2.2.2.2
      have HS2 := Lib.hid (show w.heap.size + 1 ≤ wz.heap.size by have := hb1.size; have := HSr.out; omega)
      clear hb1 KS0 KS1 HOr HXr
      cases z with
      | true =>
        have HM := Lib.hid (matTo_yes (T := strip L) (x := (l, m, k, f, s)) (k := j) (by rw [HE.out]; exact HZZ.out))
        go_wp2_with (at_builtin; refine Sl.wpList_app (k := .i64) (B := w.heap.size + 1) (l := matTo (strip L) (l, m, k, f, s) j) (m := [(j : Int)]) rfl _ _ rfl Tryz.underlying47 Sl.elemINT rfl rfl rfl (HO2.out.on ((Below.refl _ _).alloc (Nat.le_refl _) _)) (Sl.holds_one .i64 _ _ _) ?_ (by decide) ?_ ?_)
        · have := matTo_le (strip L) (l, m, k, f, s) j; simp; omega
        · have := HB2.out.size; have := HS2.out; simp; omega
        intro v4 w4 ho4 hg4
        have hal := (Below.refl wz.heap.size wz).alloc (Nat.le_refl _) (.cells #[.int .i64 (j : Int)] 3)
        have HO4 := Lib.hid (show Sl.Own 3 .i64 (w.heap.size + 1) w4 v4 (matTo (strip L) (l, m, k, f, s) (j + 1)) by rw [HM.out]; exact ho4)
        have HB4 := Lib.hid (((HB2.out.trans (hal.mono HB2.out.size))).grown hg4 (by have := HB2.out.size; simp; omega) (fun g hg => Nat.le_trans (Nat.le_succ _) (HO2.out.lt g hg).1))
        have HX4 := Lib.hid ((HX2.out.on hal).grown hg4 (fun e => by have := (HO2.out.lt _ e.symm).1; omega))
        clear ho4 hg4 hal
        go_wp2_with fail
        go_roundw
        case rel => exact ⟨j + 1, by omega, by go_num, HO4, HB4, HX4⟩
        case measure => simp [intOf]; omega
      | false =>
        have HM := Lib.hid (matTo_no (T := strip L) (x := (l, m, k, f, s)) (k := j) (by rw [HE.out]; exact HZZ.out))
        have HO4 := Lib.hid (show Sl.Own 3 .i64 (w.heap.size + 1) wz (.slice xo no co) (matTo (strip L) (l, m, k, f, s) (j + 1)) by rw [HM.out]; exact HO2.out)
        go_wp2_with fail
        go_roundw
        case rel => exact ⟨j + 1, by omega, by go_num, HO4, HB2, HX2⟩
        case measure => simp [intOf]; omega
    · obtain rfl : j = n := by omega
      have HV := Lib.hid (show matTo (strip L) (l, m, k, f, s) j = matK (strip L) (l, m, k, f, s) by unfold matK; rw [strip_length, ← HLN.out])
      clear hlt
      go_wp2_with fail
      go_ret
      exact ⟨_, rfl, by rw [← HV.out]; exact hO.out.mono (Nat.le_succ _), hB.out⟩

set_option maxHeartbeats 8000000 in
theorem implMatchingKeys (v V : Value) (T : List (List ByteArray × Int)) (x : Dt) (w : World) (h : TabHolds w v T) (g : kD.At w V x) (gn : WfD x) (hl : T.length ≤ 4000000) (hT : smT T) (hx : bulkD x ≤ 1200000) :
    Calls Tryz.prog 17 #[v, V] w (Sl.GivesI w (matK T x)) := by
  obtain ⟨L, rfl, h⟩ := h
  obtain ⟨y, n, cy, rfl, hn, -, hh⟩ := h.shapeN
  obtain ⟨xa, na, ca, xb, nb, cb, xc, nc, cc, rfl, hg⟩ := kD_shapeA g
  obtain ⟨l, m, k, f, s⟩ := x
  simp only at hg ⊢
  rw [strip_length, ← hn] at hl
  have hb0 := (Below.refl w.heap.size w).alloc (Nat.le_refl _) (.cells #[.slice xa na ca, .slice xb nb cb, .slice xc nc cc, .int .i64 f, .int .i64 s] 31)
  have hb1 := hb0.alloc (by simp) (.cells #[] 3)
  have HB0 := Lib.hid hb1; have HH := Lib.hid hh; have HG := Lib.hid hg
  have HX0 := Lib.hid ((Ret.Blk.new w #[.slice xa na ca, .slice xb nb cb, .slice xc nc cc, .int .i64 f, .int .i64 s] 31).on ((Below.refl _ _).alloc (Nat.le_refl _) (.cells #[] 3)))
  have hoe := Sl.own_empty .i64 3 (w.alloc (.cells #[.slice xa na ca, .slice xb nb cb, .slice xc nc cc, .int .i64 f, .int .i64 s] 31))
  rw [World.size_alloc] at hoe
  have HO0 := Lib.hid (show Sl.Own 3 .i64 (w.heap.size + 1) ((w.alloc (.cells #[.slice xa na ca, .slice xb nb cb, .slice xc nc cc, .int .i64 f, .int .i64 s] 31)).alloc (.cells #[] 3)) (.slice (some ⟨w.heap.size + 1, 0, none⟩) 0 0) (matTo (strip L) (l, m, k, f, s) 0) from hoe)
  have HL := Lib.hid hl; have HT := Lib.hid hT; have HN := Lib.hid gn; have HZ := Lib.hid hx; have HLN := Lib.hid hn
  clear hb0 hb1 hh hg h g gn hT hx hn hoe
  go_enter Tryz.func17, Tryz.ntmps17
  go_wp2_with fail
  go_loopw [5, 11] (fun ov i wr => ∃ j : Nat, j ≤ n ∧ i = .int .i64 j ∧ Hid (Sl.Own 3 .i64 (w.heap.size + 1) wr ov (matTo (strip L) (l, m, k, f, s) j)) ∧ Hid (Below w.heap.size w wr) ∧ Hid (Ret.Blk wr w.heap.size #[.slice xa na ca, .slice xb nb cb, .slice xc nc cc, .int .i64 f, .int .i64 s] 31)) (fun _ i _ => n - (intOf i).toNat)
  case atStart => exact ⟨0, Nat.zero_le _, rfl, HO0, HB0, HX0⟩
  case round =>
    obtain ⟨j, hj, rfl, hO, hB, hX⟩ := hrel
    obtain ⟨xo, co, rfl, -, -⟩ := hO.out.holds.shape
    obtain ⟨no, hno⟩ : ∃ z, z = (matTo (strip L) (l, m, k, f, s) j).length := ⟨_, rfl⟩
    rw [← hno] at hO ⊢
    have HNO := Lib.hid hno
    clear hno
    by_cases hlt : j < n
    · have HJL := Lib.hid (show j < L.length by have := HLN.out; omega)
      obtain ⟨b, off, rfl, hc, hd, -⟩ := (HH.out.on hB.out).at HJL.out
      have HE := Lib.hid (strip_nth HJL.out)
      obtain ⟨z, hz⟩ : ∃ z, verD (nth L j).val (l, m, k, f, s) = z := ⟨_, rfl⟩
      have HZZ := Lib.hid hz
      have hj0 : (0 : Int) ≤ (j : Int) := by omega
      have hj1 : (j : Int) < (n : Int) := by omega
      clear hz
      have hal := (Below.refl wr.heap.size wr).alloc (Nat.le_refl _) (.cells #[.slice (nth L j).ad (nth L j).n (nth L j).cap, .int .i64 (nth L j).val] 37)
      have HGr := Lib.hid ((HG.out.on hB.out).on hal)
      have HOr := Lib.hid (hO.out.on hal); have HXr := Lib.hid (hX.out.on hal)
      have HBr := Lib.hid (hB.out.trans (hal.mono hB.out.size))
      have q0 := HXr.out.cell 0; have q1 := HXr.out.cell 1; have q2 := HXr.out.cell 2; have q3 := HXr.out.cell 3; have q4 := HXr.out.cell 4
      have q0 : (wr.alloc (.cells #[.slice (nth L j).ad (nth L j).n (nth L j).cap, .int .i64 (nth L j).val] 37)).cell? ⟨w.heap.size, 0, none⟩ = some (.slice xa na ca) := q0
      have q1 : (wr.alloc (.cells #[.slice (nth L j).ad (nth L j).n (nth L j).cap, .int .i64 (nth L j).val] 37)).cell? ⟨w.heap.size, 1, none⟩ = some (.slice xb nb cb) := q1
      have q2 : (wr.alloc (.cells #[.slice (nth L j).ad (nth L j).n (nth L j).cap, .int .i64 (nth L j).val] 37)).cell? ⟨w.heap.size, 2, none⟩ = some (.slice xc nc cc) := q2
      have q3 : (wr.alloc (.cells #[.slice (nth L j).ad (nth L j).n (nth L j).cap, .int .i64 (nth L j).val] 37)).cell? ⟨w.heap.size, 3, none⟩ = some (.int .i64 f) := q3
      have q4 : (wr.alloc (.cells #[.slice (nth L j).ad (nth L j).n (nth L j).cap, .int .i64 (nth L j).val] 37)).cell? ⟨w.heap.size, 4, none⟩ = some (.int .i64 s) := q4
      clear hal
      go_wp2_with fail
      refine (implVerifyDataK _ (nth L j).val (l, m, k, f, s) _ HGr.out HN.out HZ.out).mono ?_
      rintro e wz ⟨rfl, hb1⟩
      rw [HZZ.out]
      have HO2 := Lib.hid (HOr.out.on hb1); have HX2 := Lib.hid (HXr.out.on hb1)
      have HB2 := Lib.hid (HBr.out.trans (hb1.mono HBr.out.size))
      have HS2 := Lib.hid (show w.heap.size + 1 ≤ wz.heap.size from HX2.out.lt)
      clear hb1 HOr HXr HBr q0 q1 q2 q3 q4 hc hd
      cases z with
      | true =>
        have HM := Lib.hid (matTo_yes (T := strip L) (x := (l, m, k, f, s)) (k := j) (by rw [HE.out]; exact HZZ.out))
        go_wp2_with (at_builtin; refine Sl.wpList_app (k := .i64) (B := w.heap.size + 1) (l := matTo (strip L) (l, m, k, f, s) j) (m := [(j : Int)]) rfl _ _ rfl Tryz.underlying47 Sl.elemINT rfl rfl rfl (HO2.out.on ((Below.refl _ _).alloc (Nat.le_refl _) _)) (Sl.holds_one .i64 _ _ _) ?_ (by decide) ?_ ?_)
        · have := matTo_le (strip L) (l, m, k, f, s) j; simp; omega
        · have := HB2.out.size; have := HS2.out; simp; omega
        intro v4 w4 ho4 hg4
        have hal := (Below.refl wz.heap.size wz).alloc (Nat.le_refl _) (.cells #[.int .i64 (j : Int)] 3)
        have HO4 := Lib.hid (show Sl.Own 3 .i64 (w.heap.size + 1) w4 v4 (matTo (strip L) (l, m, k, f, s) (j + 1)) by rw [HM.out]; exact ho4)
        have HB4 := Lib.hid (((HB2.out.trans (hal.mono HB2.out.size))).grown hg4 (by have := HB2.out.size; simp; omega) (fun g hg => Nat.le_trans (Nat.le_succ _) (HO2.out.lt g hg).1))
        have HX4 := Lib.hid ((HX2.out.on hal).grown hg4 (fun e => by have := (HO2.out.lt _ e.symm).1; omega))
        clear ho4 hg4 hal
        go_wp2_with fail
        go_roundw
        case rel => exact ⟨j + 1, by omega, by go_num, HO4, HB4, HX4⟩
        case measure => simp [intOf]; omega
      | false =>
        have HM := Lib.hid (matTo_no (T := strip L) (x := (l, m, k, f, s)) (k := j) (by rw [HE.out]; exact HZZ.out))
        have HO4 := Lib.hid (show Sl.Own 3 .i64 (w.heap.size + 1) wz (.slice xo no co) (matTo (strip L) (l, m, k, f, s) (j + 1)) by rw [HM.out]; exact HO2.out)
        go_wp2_with fail
        go_roundw
        case rel => exact ⟨j + 1, by omega, by go_num, HO4, HB2, HX2⟩
        case measure => simp [intOf]; omega
    · obtain rfl : j = n := by omega
      have HV := Lib.hid (show matTo (strip L) (l, m, k, f, s) j = matK (strip L) (l, m, k, f, s) by unfold matK; rw [strip_length, ← HLN.out])
      clear hlt
      go_wp2_with fail
      go_ret
      exact ⟨_, rfl, by rw [← HV.out]; exact hO.out.mono (Nat.le_succ _), hB.out⟩
end Go.Proofs.YtnblopilgfdjkaaGreat.Row.Ring
