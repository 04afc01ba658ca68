/- Contracts of slices.DeleteFunc on tables, of the program's RemoveEntry and EntriesUnder. No conditions but that lengths fit. -/
import Derived.Test.YtihcebjbkifbpaaTabCopy2
import Derived.Test.YtihcebjbkifbpaaMany2
namespace Go.Proofs.Ytihcebjbkifbpaa.Row
open Go.ChangeShapes Go.WideShapes Go.ChangeAt Go.RowKit Go.Instr
set_option linter.unusedVariables false
set_option maxRecDepth 100000

/-- What is asked of a closure while a row is written. -/
def ClosG (fid : FuncId) (cap : Array Value) (p : List ByteArray × Int → Bool) (w : World) (row : Option Nat) : Prop :=
  ∀ (x : Ent) (W : World), w.grownBy W row → Holds Value.string W x.v x.ps → x.ps.length ≤ 9000000 → Calls Try.prog fid (#[.agg #[x.v, .int .i64 x.val]] ++ cap) W fun e w' => e = .returned (.bool (p x.t)) ∧ Below W.heap.size W w'
theorem ClosG.plain {fid : FuncId} {cap : Array Value} {p : List ByteArray × Int → Bool} {w : World} {row : Option Nat} (h : ClosG fid cap p w row) : ClosT fid cap p w := fun x W hW => h x W (grown_of_below hW row)
theorem zvE (w : World) : (zeroValue 44).run Try.prog w = .ok (.agg #[.slice none 0 0, .int .i64 0]) w := by kernel_rfl
/-- The entries of a list that a filter leaves out of its first j, with the others behind. -/
structure Mid (q : List ByteArray × Int → Bool) (L L' : List Ent) (i j : Nat) : Prop where
  len : L'.length = L.length
  head : L'.take i = (L.take j).filter (fun x => q x.t)
  rest : ∀ r, j ≤ r → r < L.length → nth L' r = nth L r
  lt : i < j
  all : ∀ x ∈ L', x ∈ L
theorem Mid.keep {q : List ByteArray × Int → Bool} {L L' : List Ent} {i j : Nat} (h : Mid q L L' i j) (hj : j < L.length) (hq : q (nth L j).t = true) : Mid q L (L'.set i (nth L j)) (i + 1) (j + 1) := by
  have h1 := h.len
  have h2 := h.lt
  refine ⟨by simp [h1], ?_, fun r hr hr2 => ?_, by omega, fun x hx => ?_⟩
  · rw [List.take_succ_eq_append_getElem (by simp; omega), List.getElem_set_self, List.take_set_of_le (Nat.le_refl _), h.head, List.take_succ_eq_append_getElem hj, List.filter_append, nth_eq hj]
    rw [nth_eq hj] at hq
    simp [hq]
  · rw [← h.rest r (by omega) hr2]
    simp only [nth, List.getD]
    rw [List.getElem?_set_ne (by omega)]
  · rcases List.mem_or_eq_of_mem_set hx with hx | hx
    · exact h.all x hx
    · rw [hx]; exact nth_mem hj
theorem Mid.skip {q : List ByteArray × Int → Bool} {L L' : List Ent} {i j : Nat} (h : Mid q L L' i j) (hj : j < L.length) (hq : q (nth L j).t = false) : Mid q L L' i (j + 1) := by
  refine ⟨h.len, ?_, fun r hr hr2 => h.rest r (by omega) hr2, by have := h.lt; omega, h.all⟩
  rw [List.take_succ_eq_append_getElem hj, List.filter_append, h.head]
  rw [nth_eq hj] at hq
  simp [hq]
theorem Mid.start {p : List ByteArray × Int → Bool} {L : List Ent} {i : Nat} (hi : i < L.length) (hn : noP p (strip L) i) (hp : p (nth (strip L) i) = true) : Mid (fun x => !p x) L L i (i + 1) := by
  refine ⟨rfl, ?_, fun r _ _ => rfl, by omega, fun x hx => hx⟩
  rw [List.take_succ_eq_append_getElem hi, List.filter_append]
  rw [strip_nth hi, nth_eq hi] at hp
  have h1 : (L.take i).filter (fun x => !p x.t) = L.take i := by
    rw [List.filter_eq_self]
    intro x hx
    obtain ⟨j, hj, rfl⟩ := List.getElem_of_mem hx
    have hji : j < i := by simp at hj; omega
    have := hn j hji
    rw [strip_nth (by omega), nth_eq (by omega)] at this
    rw [List.getElem_take, this]; rfl
  rw [h1]
  simp [hp]
theorem filter_none {p : List ByteArray × Int → Bool} {T : List (List ByteArray × Int)} (h : noP p T T.length) : T.filter (fun x => !p x) = T := by
  rw [List.filter_eq_self]
  intro x hx
  obtain ⟨j, hj, rfl⟩ := List.getElem_of_mem hx
  have := h j hj
  rw [nth_eq hj] at this
  simp [this]

set_option maxHeartbeats 4000000 in
theorem deleteFuncR (a : Addr) (p : List ByteArray × Int → Bool) (B : Nat) (v : Value) (L : List Ent) (w : World) (h : TabO B w v L) (hl : L.length ≤ 4000000) (hT : smT (strip L)) (hc : ClosG 61 #[.pointer (some a)] p w v.ownBlock) :
    Calls Try.prog 60 #[v, .func (.func 61) #[] #[.pointer (some a)]] w fun e w' => ∃ v', e = .returned v' ∧ TabOwn B w' v' ((strip L).filter (fun x => !p x)) ∧ w.grownBy w' v.ownBlock := by
  have HI := Lib.hid (indexFuncTR a p v (strip L) w ⟨L, rfl, h.holds⟩ (by rw [strip_length]; omega) hT hc.plain)
  rcases h.1.form with ⟨rfl, rfl⟩ | ⟨g, cap, rfl, g1, g2, g3, g4⟩
  · have HO := Lib.hid h
    clear h hc
    go_enter Try.func60, Try.ntmps60
    go_wp2_with fail
    refine HI.out.mono ?_
    rintro e w1 ⟨rfl, hb⟩
    have HB := Lib.hid hb
    have hx : ixT p (strip ([] : List Ent)) = -1 := by simp [ixT, strip]
    rw [hx]
    clear hb hx
    go_wp2_with fail
    go_ret
    exact ⟨_, rfl, ⟨[], by simp [strip], HO.out.on HB.out⟩, grown_of_below HB.out _⟩
  · obtain ⟨n, hn⟩ : ∃ n, n = L.length := ⟨_, rfl⟩
    rw [← hn] at h g3 hl HI hc ⊢
    have HN := Lib.hid hn
    have HO := Lib.hid h
    have HC := Lib.hid hc
    have HT := Lib.hid hT
    clear hn h hc hT
    go_enter Try.func60, Try.ntmps60
    go_wp2_with fail
    refine HI.out.mono ?_
    rintro e w1 ⟨rfl, hb⟩
    have HG1 := Lib.hid (grown_of_below hb (some g))
    have HO1 := Lib.hid (HO.out.on hb)
    clear hb
    rcases ixT_cases p (strip L) with ⟨h1, -, h3⟩ | ⟨i0, hi, h1, -, h4, h5⟩
    · rw [h1]
      have HV := Lib.hid (filter_none h3)
      clear h1 h3
      go_wp2_with fail
      go_ret
      exact ⟨_, rfl, ⟨L, HV.out.symm, HO1.out⟩, HG1.out⟩
    · rw [h1]
      have hi' : i0 < L.length := by rwa [strip_length] at hi
      have HM := Lib.hid (Mid.start hi' h5 h4)
      have hi0 : i0 + 1 ≤ n := by have := HN.out; omega
      have hne : ((i0 : Int) == -1) = false := by simp <;> omega
      clear h1 h4 h5 hi hi'
      go_wp2_with fail
      go_loopw [5, 6] (fun iv jv wr => ∃ i j : Nat, j ≤ n ∧ i < j ∧ iv = .int .i64 i ∧ jv = .int .i64 j ∧ ∃ L' : List Ent, Hid (Mid (fun x => !p x) L L' i j) ∧ Hid (OwnK 44 encE 2 B wr (.slice (some ⟨g, 0, none⟩) n cap) L') ∧ Hid (w.grownBy wr (some g))) (fun _ jv _ => n - (intOf jv).toNat)
      case atStart => exact ⟨i0, i0 + 1, hi0, by omega, rfl, by go_num, L, HM, Lib.hid HO1.out.1, HG1⟩
      case round =>
        obtain ⟨i, j, hj, hij, rfl, rfl, L', hM, ho, hg⟩ := hrel
        by_cases hlt : j < n
        · have hlen := HN.out
          have hjl : j < L.length := by omega
          have hln : n = L'.length := by rw [hM.out.len]; exact hlen
          have hnj : nth L' j = nth L j := hM.out.rest j (Nat.le_refl _) hjl
          obtain ⟨q1, q2⟩ := ownK_cell szE ho.out hln (j := j) (i := 0) (by omega) (by decide)
          obtain ⟨q3, q4⟩ := ownK_cell szE ho.out hln (j := j) (i := 1) (by omega) (by decide)
          rw [hnj] at q1 q3
          have hc : wr.cell? ⟨g, j * 2, none⟩ = some (.slice (nth L j).ad (nth L j).n (nth L j).cap) := by simpa [encE, Ent.v] using q1
          have hd : wr.cell? ⟨g, j * 2 + 1, none⟩ = some (.int .i64 (nth L j).val) := by simpa [encE] using q3
          have hal := (Below.refl wr.heap.size wr).alloc (Nat.le_refl _) (.cells #[.slice (nth L j).ad (nth L j).n (nth L j).cap, .int .i64 (nth L j).val] 44)
          have HNM := Lib.hid ((HO.out.names hg.out _ (nth_mem hjl)).holds.on hal)
          have HGA := Lib.hid (Go.World.grownBy.trans hg.out (grown_of_below hal (some g)))
          have HCL := Lib.hid (HC.out (nth L j) _ HGA.out HNM.out (smT_psl HT.out hjl))
          have HOA := Lib.hid (ho.out.on hal)
          have HIL := Lib.hid (show i < L'.length by omega)
          have HLN := Lib.hid hln
          have HJL := Lib.hid hjl
          have hin : i < n := by omega
          clear q1 q2 q3 q4 hnj hlen hal hjl hln
          go_wp2_with fail
          refine HCL.out.mono ?_
          rintro e w2 ⟨rfl, hb2⟩
          have hv2 := var2 hb2
          have hv20 := hv2.1
          have hv21 := hv2.2
          have HO2 := Lib.hid (HOA.out.on hb2)
          have HG2 := Lib.hid (Go.World.grownBy.trans HGA.out (grown_of_below hb2 (some g)))
          clear hc hd hb2 hv2
          by_cases hp : p (nth L j).t = true
          · have HMS := Lib.hid (hM.out.skip HJL.out (by simp [hp]))
            rw [hp]
            clear hp hv20 hv21
            go_wp2_with fail
            go_roundw
            case rel => exact ⟨i, j + 1, by omega, by omega, rfl, by go_num, L', HMS, HO2, HG2⟩
            case measure => simp [intOf]; omega
          · have hp : p (nth L j).t = false := by simpa using hp
            have HMS := Lib.hid (hM.out.keep HJL.out (by simp [hp]))
            rw [hp]
            obtain ⟨r1, r2⟩ := ownK_cell szE HO2.out HLN.out (j := i) (i := 0) HIL.out (by decide)
            obtain ⟨r3, r4⟩ := ownK_cell szE HO2.out HLN.out (j := i) (i := 1) HIL.out (by decide)
            have hci : w2.cell? ⟨g, i * 2, none⟩ = some (.slice (nth L' i).ad (nth L' i).n (nth L' i).cap) := by simpa [encE, Ent.v] using r1
            have hdi : w2.cell? ⟨g, i * 2 + 1, none⟩ = some (.int .i64 (nth L' i).val) := by simpa [encE] using r3
            have hfi : w2.frozen? ⟨g, i * 2, none⟩ = false := by simpa using r2
            have hfj : w2.frozen? ⟨g, i * 2 + 1, none⟩ = false := r4
            obtain ⟨s1, s2⟩ := ent_store HO2.out HLN.out HIL.out (nth L j)
            have HS1 := Lib.hid s1
            have HS2 := Lib.hid (Go.World.grownBy.trans HG2.out s2)
            clear hp r1 r2 r3 r4 s1 s2
            go_wp2_with fail
            go_roundw
            case rel => exact ⟨i + 1, j + 1, by omega, by omega, by go_num, by go_num, _, HMS, HS1, HS2⟩
            case measure => simp [intOf]; omega
        · obtain rfl : j = n := by omega
          have hln : j = L'.length := by rw [hM.out.len]; exact HN.out
          have HKK := Lib.hid (show i + (j - i) = L'.length by omega)
          have HLN := Lib.hid hln
          have hpos : 0 < j - i := by omega
          have hi1 : i ≤ cap := by omega
          clear hlt hln
          go_wp2_with (refine wpList_clearK kindE rfl zvE rfl _ rfl Try.underlying24 (i := i) (k := j - i) rfl ho.out HKK.out hpos ?_)
          intro w3 ho3 hg3
          have HO3 := Lib.hid ho3
          have HG3 := Lib.hid (Go.World.grownBy.trans hg.out hg3)
          clear ho3 hg3
          go_wp2_with fail
          go_ret
          have hlen3 : (L'.take i ++ List.replicate (j - i) default).length = j := by have := HLN.out; simp; omega
          have hfin := HO3.out.take szE (i := i) (by omega)
          have htk : (L'.take i ++ List.replicate (j - i) default).take i = L'.take i := by
            have hl1 : (L'.take i).length = i := by have := HLN.out; rw [List.length_take]; omega
            conv => lhs; arg 1; rw [← hl1]
            rw [List.take_left]
          have hall : L.take j = L := List.take_of_length_le (by rw [← HN.out]; exact Nat.le_refl _)
          rw [htk, hM.out.head, hall] at hfin
          refine ⟨_, rfl, ⟨L.filter (fun x => !p x.t), ?_, hfin, fun x hx => ?_, ?_⟩, HG3.out⟩
          · simp only [strip]
            rw [List.filter_map]
            rfl
          · exact HO.out.names HG3.out x (List.mem_filter.1 hx).1
          · exact HO.out.2.2.filter _

set_option maxHeartbeats 4000000 in
theorem deleteFuncU (a : Addr) (p : List ByteArray × Int → Bool) (B : Nat) (v : Value) (L : List Ent) (w : World) (h : TabO B w v L) (hl : L.length ≤ 4000000) (hT : smT (strip L)) (hc : ClosG 64 #[.pointer (some a)] p w v.ownBlock) :
    Calls Try.prog 60 #[v, .func (.func 64) #[] #[.pointer (some a)]] w fun e w' => ∃ v', e = .returned v' ∧ TabOwn B w' v' ((strip L).filter (fun x => !p x)) ∧ w.grownBy w' v.ownBlock := by
  have HI := Lib.hid (indexFuncTU a p v (strip L) w ⟨L, rfl, h.holds⟩ (by rw [strip_length]; omega) hT hc.plain)
  rcases h.1.form with ⟨rfl, rfl⟩ | ⟨g, cap, rfl, g1, g2, g3, g4⟩
  · have HO := Lib.hid h
    clear h hc
    go_enter Try.func60, Try.ntmps60
    go_wp2_with fail
    refine HI.out.mono ?_
    rintro e w1 ⟨rfl, hb⟩
    have HB := Lib.hid hb
    have hx : ixT p (strip ([] : List Ent)) = -1 := by simp [ixT, strip]
    rw [hx]
    clear hb hx
    go_wp2_with fail
    go_ret
    exact ⟨_, rfl, ⟨[], by simp [strip], HO.out.on HB.out⟩, grown_of_below HB.out _⟩
  · obtain ⟨n, hn⟩ : ∃ n, n = L.length := ⟨_, rfl⟩
    rw [← hn] at h g3 hl HI hc ⊢
    have HN := Lib.hid hn
    have HO := Lib.hid h
    have HC := Lib.hid hc
    have HT := Lib.hid hT
    clear hn h hc hT
    go_enter Try.func60, Try.ntmps60
    go_wp2_with fail
    refine HI.out.mono ?_
    rintro e w1 ⟨rfl, hb⟩
    have HG1 := Lib.hid (grown_of_below hb (some g))
    have HO1 := Lib.hid (HO.out.on hb)
    clear hb
    rcases ixT_cases p (strip L) with ⟨h1, -, h3⟩ | ⟨i0, hi, h1, -, h4, h5⟩
    · rw [h1]
      have HV := Lib.hid (filter_none h3)
      clear h1 h3
      go_wp2_with fail
      go_ret
      exact ⟨_, rfl, ⟨L, HV.out.symm, HO1.out⟩, HG1.out⟩
    · rw [h1]
      have hi' : i0 < L.length := by rwa [strip_length] at hi
      have HM := Lib.hid (Mid.start hi' h5 h4)
      have hi0 : i0 + 1 ≤ n := by have := HN.out; omega
      have hne : ((i0 : Int) == -1) = false := by simp <;> omega
      clear h1 h4 h5 hi hi'
      go_wp2_with fail
      go_loopw [5, 6] (fun iv jv wr => ∃ i j : Nat, j ≤ n ∧ i < j ∧ iv = .int .i64 i ∧ jv = .int .i64 j ∧ ∃ L' : List Ent, Hid (Mid (fun x => !p x) L L' i j) ∧ Hid (OwnK 44 encE 2 B wr (.slice (some ⟨g, 0, none⟩) n cap) L') ∧ Hid (w.grownBy wr (some g))) (fun _ jv _ => n - (intOf jv).toNat)
      case atStart => exact ⟨i0, i0 + 1, hi0, by omega, rfl, by go_num, L, HM, Lib.hid HO1.out.1, HG1⟩
      case round =>
        obtain ⟨i, j, hj, hij, rfl, rfl, L', hM, ho, hg⟩ := hrel
        by_cases hlt : j < n
        · have hlen := HN.out
          have hjl : j < L.length := by omega
          have hln : n = L'.length := by rw [hM.out.len]; exact hlen
          have hnj : nth L' j = nth L j := hM.out.rest j (Nat.le_refl _) hjl
          obtain ⟨q1, q2⟩ := ownK_cell szE ho.out hln (j := j) (i := 0) (by omega) (by decide)
          obtain ⟨q3, q4⟩ := ownK_cell szE ho.out hln (j := j) (i := 1) (by omega) (by decide)
          rw [hnj] at q1 q3
          have hc : wr.cell? ⟨g, j * 2, none⟩ = some (.slice (nth L j).ad (nth L j).n (nth L j).cap) := by simpa [encE, Ent.v] using q1
          have hd : wr.cell? ⟨g, j * 2 + 1, none⟩ = some (.int .i64 (nth L j).val) := by simpa [encE] using q3
          have hal := (Below.refl wr.heap.size wr).alloc (Nat.le_refl _) (.cells #[.slice (nth L j).ad (nth L j).n (nth L j).cap, .int .i64 (nth L j).val] 44)
          have HNM := Lib.hid ((HO.out.names hg.out _ (nth_mem hjl)).holds.on hal)
          have HGA := Lib.hid (Go.World.grownBy.trans hg.out (grown_of_below hal (some g)))
          have HCL := Lib.hid (HC.out (nth L j) _ HGA.out HNM.out (smT_psl HT.out hjl))
          have HOA := Lib.hid (ho.out.on hal)
          have HIL := Lib.hid (show i < L'.length by omega)
          have HLN := Lib.hid hln
          have HJL := Lib.hid hjl
          have hin : i < n := by omega
          clear q1 q2 q3 q4 hnj hlen hal hjl hln
          go_wp2_with fail
          refine HCL.out.mono ?_
          rintro e w2 ⟨rfl, hb2⟩
          have hv2 := var2 hb2
          have hv20 := hv2.1
          have hv21 := hv2.2
          have HO2 := Lib.hid (HOA.out.on hb2)
          have HG2 := Lib.hid (Go.World.grownBy.trans HGA.out (grown_of_below hb2 (some g)))
          clear hc hd hb2 hv2
          by_cases hp : p (nth L j).t = true
          · have HMS := Lib.hid (hM.out.skip HJL.out (by simp [hp]))
            rw [hp]
            clear hp hv20 hv21
            go_wp2_with fail
            go_roundw
            case rel => exact ⟨i, j + 1, by omega, by omega, rfl, by go_num, L', HMS, HO2, HG2⟩
            case measure => simp [intOf]; omega
          · have hp : p (nth L j).t = false := by simpa using hp
            have HMS := Lib.hid (hM.out.keep HJL.out (by simp [hp]))
            rw [hp]
            obtain ⟨r1, r2⟩ := ownK_cell szE HO2.out HLN.out (j := i) (i := 0) HIL.out (by decide)
            obtain ⟨r3, r4⟩ := ownK_cell szE HO2.out HLN.out (j := i) (i := 1) HIL.out (by decide)
            have hci : w2.cell? ⟨g, i * 2, none⟩ = some (.slice (nth L' i).ad (nth L' i).n (nth L' i).cap) := by simpa [encE, Ent.v] using r1
            have hdi : w2.cell? ⟨g, i * 2 + 1, none⟩ = some (.int .i64 (nth L' i).val) := by simpa [encE] using r3
            have hfi : w2.frozen? ⟨g, i * 2, none⟩ = false := by simpa using r2
            have hfj : w2.frozen? ⟨g, i * 2 + 1, none⟩ = false := r4
            obtain ⟨s1, s2⟩ := ent_store HO2.out HLN.out HIL.out (nth L j)
            have HS1 := Lib.hid s1
            have HS2 := Lib.hid (Go.World.grownBy.trans HG2.out s2)
            clear hp r1 r2 r3 r4 s1 s2
            go_wp2_with fail
            go_roundw
            case rel => exact ⟨i + 1, j + 1, by omega, by omega, by go_num, by go_num, _, HMS, HS1, HS2⟩
            case measure => simp [intOf]; omega
        · obtain rfl : j = n := by omega
          have hln : j = L'.length := by rw [hM.out.len]; exact HN.out
          have HKK := Lib.hid (show i + (j - i) = L'.length by omega)
          have HLN := Lib.hid hln
          have hpos : 0 < j - i := by omega
          have hi1 : i ≤ cap := by omega
          clear hlt hln
          go_wp2_with (refine wpList_clearK kindE rfl zvE rfl _ rfl Try.underlying24 (i := i) (k := j - i) rfl ho.out HKK.out hpos ?_)
          intro w3 ho3 hg3
          have HO3 := Lib.hid ho3
          have HG3 := Lib.hid (Go.World.grownBy.trans hg.out hg3)
          clear ho3 hg3
          go_wp2_with fail
          go_ret
          have hlen3 : (L'.take i ++ List.replicate (j - i) default).length = j := by have := HLN.out; simp; omega
          have hfin := HO3.out.take szE (i := i) (by omega)
          have htk : (L'.take i ++ List.replicate (j - i) default).take i = L'.take i := by
            have hl1 : (L'.take i).length = i := by have := HLN.out; rw [List.length_take]; omega
            conv => lhs; arg 1; rw [← hl1]
            rw [List.take_left]
          have hall : L.take j = L := List.take_of_length_le (by rw [← HN.out]; exact Nat.le_refl _)
          rw [htk, hM.out.head, hall] at hfin
          refine ⟨_, rfl, ⟨L.filter (fun x => !p x.t), ?_, hfin, fun x hx => ?_, ?_⟩, HG3.out⟩
          · simp only [strip]
            rw [List.filter_map]
            rfl
          · exact HO.out.names HG3.out x (List.mem_filter.1 hx).1
          · exact HO.out.2.2.filter _

set_option maxHeartbeats 4000000 in
theorem closRemoveEntry (b : Nat) (y : Option Addr) (q cy : Nat) (m : List ByteArray) (w : World) (row : Option Nat) (hr : some b ≠ row) (hc : w.cell? ⟨b, 0, none⟩ = some (.slice y q cy)) (hg : ∀ W, w.grownBy W row → Holds Value.string W (.slice y q cy) m) (hm : m.length ≤ 9000000) : ClosG 61 #[.pointer (some ⟨b, 0, none⟩)] (isN m) w row := by
  intro x W hW hx hxl
  obtain ⟨ad, n, cap, ps, val⟩ := x
  simp only [Ent.v, Ent.t] at hx hxl ⊢
  have hcW : W.cell? ⟨b, 0, none⟩ = some (.slice y q cy) := hW.cell hc hr
  have hB := (Below.refl W.heap.size W).alloc (Nat.le_refl _) (.cells #[.slice ad n cap, .int .i64 val] 44)
  have hcA : (W.alloc (.cells #[.slice ad n cap, .int .i64 val] 44)).cell? ⟨b, 0, none⟩ = some (.slice y q cy) := by rw [World.cell?_alloc_past _ _ _ (cell_lt hcW)]; exact hcW
  have HB := Lib.hid hB
  have HX := Lib.hid (hx.on hB)
  have HG := Lib.hid ((hg W hW).on hB)
  have HXL := Lib.hid hxl
  clear hcW hB hx hg hc hW hxl hr
  go_enter Try.func61, Try.ntmps61
  go_wp2_with fail
  refine (iEqV _ rfl HX.out HG.out HXL.out hm).mono ?_
  rintro e w1 ⟨rfl, hb⟩
  have HB2 := Lib.hid (HB.out.trans (hb.mono HB.out.size)); clear hb
  go_wp2_with fail
  go_ret
  exact ⟨rfl, HB2.out⟩

set_option maxHeartbeats 4000000 in
theorem implRemoveEntry (v u : Value) (T : List (List ByteArray × Int)) (m : List ByteArray) (w : World) (h : TabHolds w v T) (g : Holds Value.string w u m) (hl : T.length ≤ 4000000) (hT : smT T) (hm : m.length ≤ 9000000) :
    Calls Try.prog 25 #[v, .agg #[u]] w (GivesT w (rmT T m)) := by
  obtain ⟨y, q, cy, rfl, -, hcy, hg⟩ := g.shapeN
  have hb0 := (Below.refl w.heap.size w).alloc (Nat.le_refl _) (.cells #[.slice y q cy] 27)
  have HC := Lib.hid (cloneTable v T _ (h.on hb0) hl hT)
  have HB0 := Lib.hid hb0
  have HX := Lib.hid (Ret.Box.new w (.slice y q cy) 27)
  have HG := Lib.hid (hg.on hb0)
  have HT := Lib.hid hT
  obtain ⟨x, n, cap, rfl, -, -, -⟩ := h.shapeN
  clear h hb0 g hg hT
  have hmf : ∀ (fn : Fn) (first cap : Array Value) (w : World), (Instr.makeFunc fn first cap).run Try.prog w = .ok (.func fn first cap) w := fun _ _ _ _ => rfl
  go_enter Try.func25, Try.ntmps25
  go_wp2_with fail
  refine HC.out.mono ?_
  rintro e w1 ⟨v1, rfl, ⟨L, rfl, ho⟩, hb⟩
  have hX := HX.out.on hb
  have HDEL := Lib.hid (deleteFuncR ⟨w.heap.size, 0, none⟩ (isN m) _ v1 L w1 ho (by rw [strip_length] at hl; exact hl) HT.out (closRemoveEntry w.heap.size y q cy m w1 v1.ownBlock (fun e => by have := (ho.lt.1 _ e.symm).1; simp only [World.size_alloc] at this; omega) hX.cell (fun W hW => ((HG.out.far.on hb).grown hW (fun g hg => (ho.lt.1 g hg).1)).holds) hm))
  have HB1 := Lib.hid (HB0.out.trans (hb.mono HB0.out.size))
  have HO := Lib.hid ho
  obtain ⟨x1, n1, c1, rfl, -, -, -⟩ := ho.shapeN
  clear ho hb hX
  go_wp2_with fail
  refine HDEL.out.mono ?_
  rintro e w2 ⟨v2, rfl, ho2, hg2⟩
  replace ho2 : TabOwn (w.alloc (.cells #[.slice y q cy] 27)).heap.size w2 v2 (rmT (strip L) m) := by simpa [rmT] using ho2
  have HO2 := Lib.hid (ho2.mono (B' := w.heap.size) (by simp <;> omega))
  have HB2 := Lib.hid (HB1.out.grown hg2 HB1.out.size (fun g hg => by have := (HO.out.lt.1 g hg).1; simp at this; omega))
  clear ho2 hg2
  go_wp2_with fail
  go_ret
  exact ⟨_, rfl, HO2.out, HB2.out⟩

set_option maxHeartbeats 4000000 in
theorem closEntriesUnder (b : Nat) (y : Option Addr) (q cy : Nat) (m : List ByteArray) (w : World) (row : Option Nat) (hr : some b ≠ row) (hc : w.cell? ⟨b, 0, none⟩ = some (.slice y q cy)) (hg : ∀ W, w.grownBy W row → Holds Value.string W (.slice y q cy) m) (hm : m.length ≤ 9000000) : ClosG 64 #[.pointer (some ⟨b, 0, none⟩)] (fun x => !hpB x.1 m) w row := by
  intro x W hW hx hxl
  obtain ⟨ad, n, cap, ps, val⟩ := x
  simp only [Ent.v, Ent.t] at hx hxl ⊢
  have hcW : W.cell? ⟨b, 0, none⟩ = some (.slice y q cy) := hW.cell hc hr
  have hB := (Below.refl W.heap.size W).alloc (Nat.le_refl _) (.cells #[.slice ad n cap, .int .i64 val] 44)
  have hcA : (W.alloc (.cells #[.slice ad n cap, .int .i64 val] 44)).cell? ⟨b, 0, none⟩ = some (.slice y q cy) := by rw [World.cell?_alloc_past _ _ _ (cell_lt hcW)]; exact hcW
  have HB := Lib.hid hB
  have HX := Lib.hid (hx.on hB)
  have HG := Lib.hid ((hg W hW).on hB)
  have HXL := Lib.hid hxl
  clear hcW hB hx hg hc hW hxl hr
  go_enter Try.func64, Try.ntmps64
  go_wp2_with fail
  refine (iHpV _ rfl HX.out HG.out HXL.out hm).mono ?_
  rintro e w1 ⟨rfl, hb⟩
  have HB2 := Lib.hid (HB.out.trans (hb.mono HB.out.size)); clear hb
  go_wp2_with fail
  go_ret
  exact ⟨rfl, HB2.out⟩

set_option maxHeartbeats 4000000 in
theorem implEntriesUnder (v u : Value) (T : List (List ByteArray × Int)) (m : List ByteArray) (w : World) (h : TabHolds w v T) (g : Holds Value.string w u m) (hl : T.length ≤ 4000000) (hT : smT T) (hm : m.length ≤ 9000000) :
    Calls Try.prog 27 #[v, .agg #[u]] w (GivesT w (unT T m)) := by
  obtain ⟨y, q, cy, rfl, -, hcy, hg⟩ := g.shapeN
  have hb0 := (Below.refl w.heap.size w).alloc (Nat.le_refl _) (.cells #[.slice y q cy] 27)
  have HC := Lib.hid (cloneTable v T _ (h.on hb0) hl hT)
  have HB0 := Lib.hid hb0
  have HX := Lib.hid (Ret.Box.new w (.slice y q cy) 27)
  have HG := Lib.hid (hg.on hb0)
  have HT := Lib.hid hT
  obtain ⟨x, n, cap, rfl, -, -, -⟩ := h.shapeN
  clear h hb0 g hg hT
  have hmf : ∀ (fn : Fn) (first cap : Array Value) (w : World), (Instr.makeFunc fn first cap).run Try.prog w = .ok (.func fn first cap) w := fun _ _ _ _ => rfl
  go_enter Try.func27, Try.ntmps27
  go_wp2_with fail
  refine HC.out.mono ?_
  rintro e w1 ⟨v1, rfl, ⟨L, rfl, ho⟩, hb⟩
  have hX := HX.out.on hb
  have HDEL := Lib.hid (deleteFuncU ⟨w.heap.size, 0, none⟩ (fun x => !hpB x.1 m) _ v1 L w1 ho (by rw [strip_length] at hl; exact hl) HT.out (closEntriesUnder w.heap.size y q cy m w1 v1.ownBlock (fun e => by have := (ho.lt.1 _ e.symm).1; simp only [World.size_alloc] at this; omega) hX.cell (fun W hW => ((HG.out.far.on hb).grown hW (fun g hg => (ho.lt.1 g hg).1)).holds) hm))
  have HB1 := Lib.hid (HB0.out.trans (hb.mono HB0.out.size))
  have HO := Lib.hid ho
  obtain ⟨x1, n1, c1, rfl, -, -, -⟩ := ho.shapeN
  clear ho hb hX
  go_wp2_with fail
  refine HDEL.out.mono ?_
  rintro e w2 ⟨v2, rfl, ho2, hg2⟩
  replace ho2 : TabOwn (w.alloc (.cells #[.slice y q cy] 27)).heap.size w2 v2 (unT (strip L) m) := by simpa [unT] using ho2
  have HO2 := Lib.hid (ho2.mono (B' := w.heap.size) (by simp <;> omega))
  have HB2 := Lib.hid (HB1.out.grown hg2 HB1.out.size (fun g hg => by have := (HO.out.lt.1 g hg).1; simp at this; omega))
  clear ho2 hg2
  go_wp2_with fail
  go_ret
  exact ⟨_, rfl, HO2.out, HB2.out⟩

end Go.Proofs.Ytihcebjbkifbpaa.Row
