/- Contracts of PutEntry, the program's and the model's. No conditions but that lengths fit. -/
import Derived.Test.YtihcebjbkifbpaaTabIns
import Derived.Test.YtihcebjbkifbpaaTabVal
import Derived.Test.YtihcebjbkifbpaaTabCopy2
namespace Go.Proofs.Ytihcebjbkifbpaa.Row
open Go.ChangeShapes Go.WideShapes Go.ChangeAt Go.RowKit Go.Instr
set_option linter.unusedVariables false
set_option maxRecDepth 100000

def putRaw (T : List (List ByteArray × Int)) (n : List ByteArray) (v : Int) : List (List ByteArray × Int) := if T.findIdx (isN n) < T.length then T.set (T.findIdx (isN n)) ((nth T (T.findIdx (isN n))).1, v) else insT T n v
def putOk (T : List (List ByteArray × Int)) (n : List ByteArray) (v : Int) : Bool := validT (putRaw T n v)
def putT (T : List (List ByteArray × Int)) (n : List ByteArray) (v : Int) : List (List ByteArray × Int) := if putOk T n v = true then putRaw T n v else T
theorem insT_length (T : List (List ByteArray × Int)) (n : List ByteArray) (v : Int) : (insT T n v).length = T.length + 1 := by
  unfold insT
  have := List.findIdx_le_length (p := gtN n) (xs := T)
  simp; omega
theorem insT_mem {T : List (List ByteArray × Int)} {n : List ByteArray} {v : Int} {t : List ByteArray × Int} (h : t ∈ insT T n v) : t ∈ T ∨ t = (n, v) := by
  unfold insT at h
  rcases List.mem_append.1 h with h | h
  · exact Or.inl (List.mem_of_mem_take h)
  · rcases List.mem_cons.1 h with h | h
    · exact Or.inr h
    · exact Or.inl (List.mem_of_mem_drop h)
theorem putRaw_length (T : List (List ByteArray × Int)) (n : List ByteArray) (v : Int) : (putRaw T n v).length ≤ T.length + 1 := by
  unfold putRaw; split
  · simp
  · rw [insT_length]; exact Nat.le_refl _
theorem smT_putRaw {T : List (List ByteArray × Int)} {n : List ByteArray} {v : Int} (h : smT T) (hn : bulk n ≤ 9000000) : smT (putRaw T n v) := by
  unfold putRaw
  split
  · rename_i hi
    intro t ht
    rcases List.mem_or_eq_of_mem_set ht with ht | ht
    · exact h t ht
    · rw [ht]; exact (show bulk (nth T (T.findIdx (isN n))).1 ≤ 9000000 from h _ (nth_mem hi))
  · intro t ht
    rcases insT_mem ht with ht | ht
    · exact h t ht
    · rw [ht]; exact hn
theorem putT_length (T : List (List ByteArray × Int)) (n : List ByteArray) (v : Int) : (putT T n v).length ≤ T.length + 1 := by
  unfold putT; split
  · exact putRaw_length T n v
  · omega
theorem smT_putT {T : List (List ByteArray × Int)} {n : List ByteArray} {v : Int} (h : smT T) (hn : bulk n ≤ 9000000) : smT (putT T n v) := by
  unfold putT; split
  · exact smT_putRaw h hn
  · exact h
/-- A table of the call's own and a bool. -/
def GivesTB (w : World) (T : List (List ByteArray × Int)) (b : Bool) (e : Ending) (w' : World) : Prop := ∃ v, e = .returned (.tuple #[v, .bool b]) ∧ TabOwn w.heap.size w' v T ∧ Below w.heap.size w w'

set_option maxHeartbeats 8000000 in
theorem implPutEntry (v u : Value) (T : List (List ByteArray × Int)) (m : List ByteArray) (a : Int) (w : World) (h : TabHolds w v T) (g : Holds Value.string w u m) (hl : T.length ≤ 3000000) (hT : smT T) (hm : bulk m ≤ 9000000) :
    Calls Try.prog 13 #[v, .agg #[u], .int .i64 a] w (GivesTB w (putT T m a) (putOk T m a)) := by
  obtain ⟨L, rfl, h⟩ := h
  obtain ⟨x, n, cx, rfl, hn, hcx, hh⟩ := h.shapeN
  obtain ⟨y, q, cy, rfl, -, hcy, hg⟩ := g.shapeN
  rw [strip_length, ← hn] at hl
  have hb0 := (Below.refl w.heap.size w).alloc (Nat.le_refl _) (.cells #[.slice y q cy] 27)
  have HB0 := Lib.hid hb0
  have HX0 := Lib.hid (Ret.Box.new w (.slice y q cy) 27)
  have HH := Lib.hid hh
  have HH0 := Lib.hid (hh.on hb0)
  have HG0 := Lib.hid (hg.on hb0)
  have HT := Lib.hid hT
  have HN := Lib.hid hn
  have HLL := Lib.hid (show L.length ≤ 4000000 by omega)
  have HLQ := Lib.hid (show (putRaw (strip L) m a).length ≤ 100000000 by have := putRaw_length (strip L) m a; rw [strip_length] at this; omega)
  have HSM := Lib.hid (smT_putRaw (v := a) hT hm)
  have HML := Lib.hid (Nat.le_trans (bulk_len m) hm)
  clear h hh hb0 g hg hT hn hm
  go_enter Try.func13, Try.ntmps13
  go_wp2_with fail
  refine (cloneTable _ (strip L) _ ⟨L, rfl, HH0.out⟩ (by rw [strip_length]; exact HLL.out) HT.out).mono ?_
  rintro e w1 ⟨v1, rfl, ⟨L1, hL1, ho1⟩, hb1⟩
  have HL1 := Lib.hid hL1
  have HO1 := Lib.hid (ho1.mono (B' := w.heap.size) (by simp))
  have HB1 := Lib.hid (HB0.out.trans (hb1.mono HB0.out.size))
  have HX1 := Lib.hid (HX0.out.on hb1)
  have HH1 := Lib.hid (HH0.out.on hb1)
  have HG1 := Lib.hid (HG0.out.on hb1)
  have HNB := Lib.hid (show ∀ g, v1.ownBlock = some g → w.heap.size < g from fun g hg => by have := (ho1.lt.1 g hg).1; simp at this; omega)
  have HNN := Lib.hid (show ∀ x ∈ L1, ∀ g, x.v.ownBlock = some g → w.heap.size < g from fun x hx g hg => by have := (ho1.lt.2 x hx g hg).1; simp at this; omega)
  obtain ⟨xv, nv, cv, rfl, hnv, -, -⟩ := ho1.shapeN
  have HNV := Lib.hid hnv
  clear hnv
  have hx1 := HX1.out.cell
  clear ho1 hb1 hL1
  go_wp2_with fail
  refine (entryIndex _ _ (strip L) m _ ⟨L, rfl, HH1.out⟩ HG1.out (by rw [strip_length]; have := HLL.out; omega) HT.out HML.out).mono ?_
  rintro e w2 ⟨rfl, hb2⟩
  have HO2 := Lib.hid (HO1.out.on hb2)
  have HB2 := Lib.hid (HB1.out.trans (hb2.mono HB1.out.size))
  have HX2 := Lib.hid (HX1.out.on hb2)
  have HG2 := Lib.hid (HG1.out.on hb2)
  have HLE := Lib.hid (show L1.length = L.length by rw [← strip_length L1, HL1.out, strip_length])
  clear hb2 hx1
  have hx2 := HX2.out.cell
  rcases ixT_cases (isN m) (strip L) with ⟨h1, h2, h3⟩ | ⟨i, hi, h1, h2, -⟩
  · rw [h1]
    have HRAW : Hid (putRaw (strip L) m a = insT (strip L) m a) := Lib.hid (by unfold putRaw; rw [if_neg (by omega)])
    have HNO := Lib.hid h3
    clear h1 h2 h3
    go_wp2_with fail
    refine (cloneName _ m _ HG2.out HML.out).mono ?_
    rintro e w3 ⟨v3, rfl, ho3, hb3⟩
    obtain ⟨x3, n3, c3, rfl, -, -, ho3⟩ := ho3.shapeN
    have HO3 := Lib.hid (HO2.out.on hb3)
    have HAP := Lib.hid (HO2.out.fresh (fun g hg => (ho3.lt g hg).1))
    have HE3 := Lib.hid (show Own 9 Value.string w.heap.size w3 (Ent.v ⟨x3, n3, c3, m, a⟩) m from ho3.mono HB2.out.size)
    have HB3 := Lib.hid (HB2.out.trans (hb3.mono HB2.out.size))
    have HLL1 := Lib.hid (show L1.length ≤ 4000000 by rw [HLE.out]; exact HLL.out)
    have HT1 := Lib.hid (show smT (strip L1) by rw [HL1.out]; exact HT.out)
    clear ho3 hb3 hx2
    go_wp2_with fail
    have hci := insertEntry w.heap.size _ L1 ⟨x3, n3, c3, m, a⟩ w3 HO3.out HE3.out HAP.out HB3.out.size HLL1.out HT1.out HML.out
    simp only [Ent.v] at hci
    refine hci.mono ?_
    clear hci
    rintro e w4 ⟨v4, rfl, ho4, hb4⟩
    have HQ := Lib.hid ho4
    have HBQ := Lib.hid (HB3.out.trans hb4)
    obtain ⟨x4, n4, c4, rfl, -, -, -⟩ := ho4.shapeN
    obtain ⟨L8, hL8⟩ : ∃ L8, L8 = insE L1 ⟨x3, n3, c3, m, a⟩ := ⟨_, rfl⟩
    rw [← hL8] at HQ
    have HS8 : Hid (strip L8 = putRaw (strip L) m a) := Lib.hid (by rw [HRAW.out, hL8, strip_insE, HL1.out])
    clear ho4 hb4 hL8
    go_wp2_with fail
    refine (implValidTable _ _ _ ⟨L8, rfl, HQ.out.holds⟩ (by rw [HS8.out]; exact HLQ.out) (by rw [HS8.out]; exact HSM.out)).mono ?_
    rintro e w8 ⟨rfl, hb8⟩
    have HQ8 := Lib.hid (HQ.out.on hb8)
    have HB8 := Lib.hid (HBQ.out.trans (hb8.mono HBQ.out.size))
    clear hb8
    obtain ⟨bv, hbv⟩ : ∃ b, validT (strip L8) = b := ⟨_, rfl⟩
    rw [hbv]
    have HOK : Hid (putOk (strip L) m a = bv) := Lib.hid (by unfold putOk; rw [← HS8.out]; exact hbv)
    clear hbv
    cases bv with
    | true =>
      have HP : Hid (putT (strip L) m a = strip L8) := Lib.hid (by unfold putT; rw [if_pos HOK.out, HS8.out])
      go_wp2_with fail
      go_ret2
      refine ⟨.slice x4 n4 c4, by rw [HOK.out]; rfl, by rw [HP.out]; exact ⟨L8, rfl, HQ8.out⟩, HB8.out⟩
    | false =>
      have HP : Hid (putT (strip L) m a = strip L) := Lib.hid (by unfold putT; rw [if_neg (by rw [HOK.out]; simp)])
      go_wp2_with fail
      refine (cloneTable _ (strip L) _ ⟨L, rfl, HH.out.on HB8.out⟩ (by rw [strip_length]; exact HLL.out) HT.out).mono ?_
      rintro e w9 ⟨v9, rfl, ho9, hb9⟩
      have HO9 := Lib.hid (ho9.mono HB8.out.size)
      have HB9 := Lib.hid (HB8.out.trans (hb9.mono HB8.out.size))
      obtain ⟨x9, n9, c9, rfl, -, -, -⟩ := ho9.shapeN
      clear ho9 hb9
      go_wp2_with fail
      go_ret2
      exact ⟨.slice x9 n9 c9, by rw [HOK.out]; rfl, by rw [HP.out]; exact HO9.out, HB9.out⟩
  · rw [h1]
    have hi1 : i < L1.length := by rw [HLE.out]; rwa [strip_length] at hi
    have HRAW : Hid (putRaw (strip L) m a = (strip L).set i ((nth (strip L) i).1, a)) := Lib.hid (by unfold putRaw; rw [if_pos (by omega), h2])
    have hinv : i < nv := by rw [HNV.out]; exact hi1
    rcases HO2.out.1.form with ⟨-, h0⟩ | ⟨g4, c4, hv4, hB4, hlt4, hcap4, -⟩
    · rw [h0] at hi1; simp at hi1
    cases hv4
    rw [← HNV.out] at HO2 hcap4 ⊢
    obtain ⟨-, ⟨k3, k4⟩, -⟩ := HO2.out.cells HNV.out hi1
    obtain ⟨s1, s2⟩ := HO2.out.valued HNV.out hi1 a
    have HQ := Lib.hid s1
    have HBQ := Lib.hid (HB2.out.grown s2 HB2.out.size (fun g hg => by cases hg; exact hB4))
    obtain ⟨L8, hL8⟩ : ∃ L8, L8 = L1.set i ((nth L1 i).setVal a) := ⟨_, rfl⟩
    rw [← hL8] at HQ
    have HS8 : Hid (strip L8 = putRaw (strip L) m a) := Lib.hid (by
      rw [HRAW.out, hL8, strip_set, HL1.out]
      congr 1
      rw [← HL1.out, strip_nth hi1]; rfl)
    clear h1 h2 hi hx2 s1 s2 hL8
    go_wp2_with fail
    refine (implValidTable _ _ _ ⟨L8, rfl, HQ.out.holds⟩ (by rw [HS8.out]; exact HLQ.out) (by rw [HS8.out]; exact HSM.out)).mono ?_
    rintro e w8 ⟨rfl, hb8⟩
    have HQ8 := Lib.hid (HQ.out.on hb8)
    have HB8 := Lib.hid (HBQ.out.trans (hb8.mono HBQ.out.size))
    clear hb8
    obtain ⟨bv, hbv⟩ : ∃ b, validT (strip L8) = b := ⟨_, rfl⟩
    rw [hbv]
    have HOK : Hid (putOk (strip L) m a = bv) := Lib.hid (by unfold putOk; rw [← HS8.out]; exact hbv)
    clear hbv
    cases bv with
    | true =>
      have HP : Hid (putT (strip L) m a = strip L8) := Lib.hid (by unfold putT; rw [if_pos HOK.out, HS8.out])
      go_wp2_with fail
      go_ret2
      refine ⟨.slice (some ⟨g4, 0, none⟩) L1.length cv, by rw [HOK.out]; rfl, by rw [HP.out]; exact ⟨L8, rfl, HQ8.out⟩, HB8.out⟩
    | false =>
      have HP : Hid (putT (strip L) m a = strip L) := Lib.hid (by unfold putT; rw [if_neg (by rw [HOK.out]; simp)])
      go_wp2_with fail
      refine (cloneTable _ (strip L) _ ⟨L, rfl, HH.out.on HB8.out⟩ (by rw [strip_length]; exact HLL.out) HT.out).mono ?_
      rintro e w9 ⟨v9, rfl, ho9, hb9⟩
      have HO9 := Lib.hid (ho9.mono HB8.out.size)
      have HB9 := Lib.hid (HB8.out.trans (hb9.mono HB8.out.size))
      obtain ⟨x9, n9, c9, rfl, -, -, -⟩ := ho9.shapeN
      clear ho9 hb9
      go_wp2_with fail
      go_ret2
      exact ⟨.slice x9 n9 c9, by rw [HOK.out]; rfl, by rw [HP.out]; exact HO9.out, HB9.out⟩

end Go.Proofs.Ytihcebjbkifbpaa.Row
