/- Contracts and mathematics, joined: CacheEntrySK, ContentStoreK, LibS, Cmp, Num, Trunc, Pref, Part, Valid, AppP, Want, Gives, Conv, VarMath, Var, ReadV, ReadVI, Bytes, Ints, WantS, Thing, KThing, WantV, ReadB, WantE, WantR, DecI, VarBack, WantD, ThingS, KFun8, SealMath, LibI, Same, Seal, SealB, Clone, WantP, Port, PortI, SealC, PortF, ThingE, ThingQ, EqK, FindK, PushK, NameK. No conditions but those that each states. -/
import Derived.Test.YthfljbbigpophaaB1
import Derived.Lib.AppendZerosOnto
import Derived.Lib.SliceRun
import Derived.Deep.RegionHeld3
import Derived.Test.YthfljbbigpophaaRows
import Derived.WalkKit
import Derived.ProofKit
import Derived.WalkLawsBesides
import Derived.Lib.Hide
import Derived.LoopTactic
import Derived.Lib.SmallJoins
import Derived.Laws.RangeAny
import Derived.Lib.ConvBytes
import Derived.Laws.BitsLemmas
import Derived.Laws.Bits128
import Derived.Laws.ShiftsVarLaws
import Derived.Laws.BytesArg
import Derived.SizedLaws
import Derived.ChangeSlices
import Derived.ChangeSame
import Derived.ChangeArms
import Derived.Deep.Strs
import Derived.Deep.Cut
import Derived.Deep.RegionLaw
import Derived.Deep.RegionLawGrows
/- Lists of entries of the content store in the words of kinds: sz, to, eq. No conditions but that lengths fit. -/
namespace Go.Proofs.Ythfljbbigpophaa.Row
open Go.ChangeShapes Go.WideShapes Go.ChangeAt Go.RowKit Go.Instr
set_option linter.unusedVariables false
set_option maxRecDepth 100000
def kLCe : Kd (List Cet) (Rw Cem) := kCe.slice 72
theorem szCe_cells : Sz kCe.cells 6 := fun m => kCe.len m
theorem kindCe : Kind Try.prog 72 kCe.cells (.agg #[.slice none 0 0, .slice none 0 0, .slice none 0 0, .int .i64 0, .int .i64 0, .int .i64 0]) 6 96 where
  elem := by unfold ElemK; kernel_rfl
  zs := rfl
  pos := by decide
  size := szCe_cells
  one := fun m u hu => kCe.one m u hu
def okLCe (l : List Cet) : Prop := l.length ≤ 9223372036854775807 ∧ ∀ x ∈ l, okCe x
section
variable {w : World} {V : Value} {l : List Cet} {B E : Nat}
theorem kLCe_at (h : kLCe.At w V l) : ∃ ad n cap L, V = .slice ad n cap ∧ n = L.length ∧ L.map kCe.strip = l ∧ HoldsK kCe.cells 6 w (.slice ad n cap) L ∧ ∀ x ∈ L, kCe.holds w x := by
  obtain ⟨⟨ad, n, cap, L⟩, hV, hl, hh, hel⟩ := h
  exact ⟨ad, n, cap, L, hV, HoldsK.lenEq (show HoldsK kCe.cells 6 w (.slice ad n cap) L from hh), hl, hh, hel⟩
theorem kLCe_shapeA (h : kLCe.At w V l) : ∃ x n c, V = .slice x n c ∧ kLCe.At w (.slice x n c) l := by
  obtain ⟨ad, n, cap, L, rfl, -⟩ := kLCe_at h
  exact ⟨ad, n, cap, rfl, h⟩
theorem kLCe_elem {x : Option Addr} {n cap : Nat} {L : List Cem} (h : HoldsK kCe.cells 6 w (.slice x n cap) L) (hel : ∀ y ∈ L, kCe.holds w y) {j : Nat} (hj : j < L.length) :
    ∃ (b off : Nat) (x0 : Option Addr) (n0 c0 : Nat) (x1 : Option Addr) (n1 c1 : Nat) (x2 : Option Addr) (n2 c2 : Nat), x = some ⟨b, off, none⟩ ∧ kCe.cells (nth L j) = [.slice x0 n0 c0, .slice x1 n1 c1, .slice x2 n2 c2, .int .i64 (kCe.strip (nth L j)).1.2.2.2.1, .int .i64 (kCe.strip (nth L j)).1.2.2.2.2, .int .i64 (kCe.strip (nth L j)).2] ∧ w.cell? ⟨b, off + j * 6, none⟩ = some (.slice x0 n0 c0) ∧ w.cell? ⟨b, off + j * 6 + 1, none⟩ = some (.slice x1 n1 c1) ∧ w.cell? ⟨b, off + j * 6 + 2, none⟩ = some (.slice x2 n2 c2) ∧ w.cell? ⟨b, off + j * 6 + 3, none⟩ = some (.int .i64 (kCe.strip (nth L j)).1.2.2.2.1) ∧ w.cell? ⟨b, off + j * 6 + 4, none⟩ = some (.int .i64 (kCe.strip (nth L j)).1.2.2.2.2) ∧ w.cell? ⟨b, off + j * 6 + 5, none⟩ = some (.int .i64 (kCe.strip (nth L j)).2) ∧ kCe.At w (.agg #[.slice x0 n0 c0, .slice x1 n1 c1, .slice x2 n2 c2, .int .i64 (kCe.strip (nth L j)).1.2.2.2.1, .int .i64 (kCe.strip (nth L j)).1.2.2.2.2, .int .i64 (kCe.strip (nth L j)).2]) (kCe.strip (nth L j)) := by
  obtain ⟨b, off, hx, hc⟩ := h.at szCe_cells hj
  obtain ⟨x0, n0, c0, x1, n1, c1, x2, n2, c2, e, ha⟩ := kCe_shapeA (Kd.at_of (k := kCe) (hel _ (nth_mem hj)))
  have d : kCe.cells (nth L j) = [.slice x0 n0 c0, .slice x1 n1 c1, .slice x2 n2 c2, .int .i64 (kCe.strip (nth L j)).1.2.2.2.1, .int .i64 (kCe.strip (nth L j)).1.2.2.2.2, .int .i64 (kCe.strip (nth L j)).2] := by injection e with e; exact congrArg Array.toList e
  rw [d] at hc
  exact ⟨b, off, x0, n0, c0, x1, n1, c1, x2, n2, c2, hx, d, by have := hc 0 (by decide); simpa [Nat.add_assoc] using this, by have := hc 1 (by decide); simpa [Nat.add_assoc] using this, by have := hc 2 (by decide); simpa [Nat.add_assoc] using this, by have := hc 3 (by decide); simpa [Nat.add_assoc] using this, by have := hc 4 (by decide); simpa [Nat.add_assoc] using this, by have := hc 5 (by decide); simpa [Nat.add_assoc] using this, ha⟩
end
set_option maxHeartbeats 4000000 in
theorem szCacheEntrySK (V : Value) (l : List Cet) (w : World) (left : Int) (h : kLCe.At w V l) (hp : okLCe l) (h0 : 0 ≤ left) (h1 : left ≤ 1048576) :
    Calls Try.prog 49 #[V, .int .i64 left] w fun e w' => e = .returned (.int .i64 (szW (bulkK wtCe l) left)) ∧ Below w.heap.size w w' := by
  obtain ⟨ad, n, cap, L, rfl, hn, hl, hh, hel⟩ := kLCe_at h
  have hle := bulkKTo_le wtCe l
  have hb0 := bulkKTo_zero wtCe l
  have hlen : l.length = n := by rw [← hl, List.length_map]; exact hn.symm
  obtain ⟨p0, hs⟩ := hp
  rw [hlen] at p0 hb0
  by_cases hbig : left < (n : Int)
  · have hS : szW (bulkK wtCe l) left = -1 := szW_not (by have := bulkK_len wtCe l; omega)
    rw [hS]
    clear hh h hs hle hn hb0 hS hl hlen hel
    go_enter Try.func49, Try.ntmps49
    go_wp2
    go_ret
    exact ⟨rfl, Below.refl _ _⟩
  have HN := Lib.hid hn; have HT := Lib.hid hl; have HH := Lib.hid hh; have HEL := Lib.hid hel; have HS := Lib.hid hs; have HLE := Lib.hid hle; have HB0 := Lib.hid hb0; have HLEN := Lib.hid hlen
  clear hn h hh hs hle hb0 hl hlen hel
  go_enter Try.func49, Try.ntmps49
  go_wp2
  go_loopw [1, 5] (fun lv i wr => ∃ k : Nat, k ≤ n ∧ i = .int .i64 k ∧ ∃ u : Int, lv = .int .i64 u ∧ u = left - bulkKTo wtCe l k ∧ 0 ≤ u ∧ Hid (Below w.heap.size w wr)) (fun _ i _ => n - (intOf i).toNat)
  case atStart => exact ⟨0, Nat.zero_le _, rfl, _, rfl, by rw [HB0.out], by omega, Lib.hid (Below.refl _ _)⟩
  case round =>
    obtain ⟨k, hk, rfl, u, rfl, hu, h0u, hb⟩ := hrel
    have hub : u ≤ left := by omega
    have HU := Lib.hid hu
    clear hu
    by_cases hlt : k < n
    · have hlen := HN.out
      obtain ⟨b, off, x0, n0, c0, x1, n1, c1, x2, n2, c2, rfl, -, hc0, hc1, hc2, hc3, hc4, hc5, ha⟩ := kLCe_elem (HH.out.on hb.out) (fun y hy => kCe.holds_on (HEL.out y hy) hb.out) (j := k) (by omega)
      have hpt : nth l k = kCe.strip (nth L k) := by rw [← HT.out, nth_map _ (by omega)]
      have hsz := HS.out (nth l k) (nth_mem (by have := HLEN.out; omega))
      rw [hpt] at hsz
      have HA := Lib.hid ha
      have HSZ := Lib.hid hsz
      have hstep := Lib.hid (bulkKTo_succ wtCe l (j := k) (by have := HLEN.out; omega))
      rw [hpt] at hstep
      have HALL := Lib.hid (HLE.out (k + 1))
      clear hlen hsz hpt ha
      go_wp2_with fail
      refine (szCacheEntryK _ _ wr u HA.out HSZ.out h0u (by omega)).mono ?_
      rintro e w1 ⟨rfl, hb1⟩
      have HB1 := Lib.hid (hb.out.trans (hb1.mono hb.out.size))
      clear hb1 hc0 hc1 hc2 hc3 hc4 hc5
      by_cases c1 : (wtCe (kCe.strip (nth L k)) : Int) ≤ u
      · rw [szW_fit c1]
        have h2 : ¬ u - (wtCe (kCe.strip (nth L k)) : Int) < 0 := by omega
        go_wp2
        go_roundw
        case rel => exact ⟨k + 1, by omega, by go_num, _, rfl, by rw [hstep.out, HU.out]; omega, by omega, HB1⟩
        case measure => simp [intOf]; omega
      · rw [szW_not c1]
        have HZ : Hid (szW (bulkK wtCe l) left = -1) := by
          have e1 := HALL.out; have e2 := HU.out; have e3 := hstep.out
          exact Lib.hid (szW_not (by omega))
        clear c1
        go_wp2
        go_ret
        exact ⟨ret_int HZ.out.symm, HB1.out⟩
    · obtain rfl : k = n := by omega
      clear hlt
      go_wp2
      go_ret
      refine ⟨ret_int ?_, hb.out⟩
      have := HU.out
      rw [← HLEN.out] at this
      rw [szW_fit (by unfold bulkK; omega)]
      exact this
set_option maxHeartbeats 4000000 in
theorem toCacheEntrySK (V : Value) (l : List Cet) (w : World) (h : kLCe.At w V l) (hl : l.length ≤ 100000000) (hs : ∀ x ∈ l, adCe x ≤ 100000000) :
    Calls Try.prog 52 #[V] w fun e w' => ∃ U, e = .returned U ∧ kLCe.In w.heap.size w'.heap.size w' U l ∧ Below w.heap.size w w' := by
  obtain ⟨ad, n, cap, L, rfl, hn, ht, hh, hel⟩ := kLCe_at h
  obtain ⟨i0, hi, hz0, hz1, hz2⟩ := info_parts kindCe.elem
  have hlen : l.length = n := by rw [← ht, List.length_map]; exact hn.symm
  rw [hlen] at hl
  have HN := Lib.hid hn; have HT := Lib.hid ht; have HH := Lib.hid hh; have HEL := Lib.hid hel; have HS := Lib.hid hs; have HLEN := Lib.hid hlen
  have HI := Lib.hid hi; have HZ0 := Lib.hid hz0; have HZ1 := Lib.hid hz1; have HZ2 := Lib.hid hz2
  clear hn h hh hi hz0 hz1 hz2 hs ht hel hlen
  go_enter Try.func52, Try.ntmps52
  go_wp2_with (at_make; refine wpList_make_full _ rfl _ _ 22 rfl w.heap.size 72 i0 (.agg #[.slice none 0 0, .slice none 0 0, .slice none 0 0, .int .i64 0, .int .i64 0, .int .i64 0]) 6 Try.underlying22 HI.out HZ0.out HZ1.out _ _ _ _ n rfl rfl rfl rfl (by rw [HZ2.out]; omega) (by unfold maxLen; omega) (Nat.le_refl _) ?_)
  intro w1 hown hgrow
  have ho : OwnK 72 kCe.cells 6 w.heap.size w1 (.slice (some ⟨w.heap.size, 0, none⟩) n n) (madeK' [] n) := by
    have e1 : madeK' ([] : List Cem) n = List.replicate n default := by simp [madeK']
    rw [e1]
    unfold OwnK
    rw [List.length_replicate, ← madeK szCe_cells (by decide) (z := .agg #[.slice none 0 0, .slice none 0 0, .slice none 0 0, .int .i64 0, .int .i64 0, .int .i64 0]) rfl n]
    exact hown
  have HO := Lib.hid ho
  have HB := Lib.hid ((Below.refl w.heap.size w).grown hgrow (Nat.le_refl _) (fun g hg => by cases hg))
  have HG := Lib.hid (show w.heap.size < w1.heap.size from (OwnK.lt ho _ rfl).2)
  clear ho hown hgrow
  go_wp2
  go_loopw [4] (fun i wr => ∃ j : Nat, j ≤ n ∧ i = .int .i64 j ∧ ∃ M : List Cem, Hid (M.length = j) ∧ Hid (M.map kCe.strip = l.take j) ∧ Hid (OwnK 72 kCe.cells 6 w.heap.size wr (.slice (some ⟨w.heap.size, 0, none⟩) n n) (madeK' M n)) ∧ Hid (kCe.EOwn (w.heap.size + 1) wr.heap.size wr M) ∧ Hid (Below w.heap.size w wr)) (fun i _ => n - (intOf i).toNat)
  case atStart => exact ⟨0, Nat.zero_le _, rfl, [], Lib.hid rfl, Lib.hid (by simp), HO, Lib.hid (Kd.EOwn.nil _ _ _ _), HB⟩
  case round =>
    obtain ⟨j, hj, rfl, M, hM, hst, ho, he, hb⟩ := hrel
    by_cases hlt : j < n
    · have hlen := HN.out
      obtain ⟨b, off, x0, n0, c0, x1, n1, c1, x2, n2, c2, rfl, -, hc0, hc1, hc2, hc3, hc4, hc5, ha⟩ := kLCe_elem (HH.out.on hb.out) (fun y hy => kCe.holds_on (HEL.out y hy) hb.out) (j := j) (by omega)
      have HA := Lib.hid ha
      have hpt : nth l j = kCe.strip (nth L j) := by rw [← HT.out, nth_map _ (by omega)]
      have hps := HS.out (nth l j) (nth_mem (by have := HLEN.out; omega))
      rw [hpt] at hps
      have HPS := Lib.hid hps
      have HST := Lib.hid (show l.take (j + 1) = l.take j ++ [kCe.strip (nth L j)] by rw [← HT.out]; exact take_map_succ _ (by omega))
      clear hlen ha hpt hps
      go_wp2_with fail
      refine (toCacheEntryK _ _ wr HA.out HPS.out).mono ?_
      rintro e w1 ⟨U, rfl, hi1, hb1⟩
      obtain ⟨m1, rfl, hm1, hi1⟩ := hi1.split
      obtain ⟨xy0, ny0, cy0, xy1, ny1, cy1, xy2, ny2, cy2, ey, -⟩ := kCe_shapeA (Kd.at_of (k := kCe) hi1.holds)
      have dy : kCe.cells m1 = [.slice xy0 ny0 cy0, .slice xy1 ny1 cy1, .slice xy2 ny2 cy2, .int .i64 (kCe.strip m1).1.2.2.2.1, .int .i64 (kCe.strip m1).1.2.2.2.2, .int .i64 (kCe.strip m1).2] := by injection ey with e; exact congrArg Array.toList e
      rw [ey]
      have HO1 := Lib.hid (ho.out.on hb1)
      have HE1 := Lib.hid (he.out.on hb1 (Nat.le_refl _))
      have HX := Lib.hid hi1
      have HB1 := Lib.hid (hb.out.trans (hb1.mono hb.out.size))
      have HSZ := Lib.hid hb1.size
      have HDY := Lib.hid dy
      have HM1 := Lib.hid hm1
      have hml : n = (madeK' M n).length := (madeK'_length (by have := hM.out; omega)).symm
      have hmj : j < (madeK' M n).length := by omega
      have hgl := (OwnK.lt HO1.out _ rfl).2
      have hgr := (OwnK.lt ho.out _ rfl).2
      obtain ⟨k0, f0⟩ := ownK_cell szCe_cells HO1.out hml hmj (i := 0) (by decide)
      obtain ⟨z0, hz0⟩ : ∃ z, w1.cell? ⟨w.heap.size, j * 6, none⟩ = some z := ⟨_, by simpa [Nat.add_zero] using (k0.trans (List.getElem?_eq_getElem (by rw [kCe.len]; decide)))⟩
      have g0 : w1.frozen? ⟨w.heap.size, j * 6, none⟩ = false := by simpa using f0
      clear k0 f0
      obtain ⟨k1, f1⟩ := ownK_cell szCe_cells HO1.out hml hmj (i := 1) (by decide)
      obtain ⟨z1, hz1⟩ : ∃ z, w1.cell? ⟨w.heap.size, j * 6 + 1, none⟩ = some z := ⟨_, by simpa [] using (k1.trans (List.getElem?_eq_getElem (by rw [kCe.len]; decide)))⟩
      have g1 : w1.frozen? ⟨w.heap.size, j * 6 + 1, none⟩ = false := by simpa using f1
      clear k1 f1
      obtain ⟨k2, f2⟩ := ownK_cell szCe_cells HO1.out hml hmj (i := 2) (by decide)
      obtain ⟨z2, hz2⟩ : ∃ z, w1.cell? ⟨w.heap.size, j * 6 + 2, none⟩ = some z := ⟨_, by simpa [] using (k2.trans (List.getElem?_eq_getElem (by rw [kCe.len]; decide)))⟩
      have g2 : w1.frozen? ⟨w.heap.size, j * 6 + 2, none⟩ = false := by simpa using f2
      clear k2 f2
      obtain ⟨k3, f3⟩ := ownK_cell szCe_cells HO1.out hml hmj (i := 3) (by decide)
      obtain ⟨z3, hz3⟩ : ∃ z, w1.cell? ⟨w.heap.size, j * 6 + 3, none⟩ = some z := ⟨_, by simpa [] using (k3.trans (List.getElem?_eq_getElem (by rw [kCe.len]; decide)))⟩
      have g3 : w1.frozen? ⟨w.heap.size, j * 6 + 3, none⟩ = false := by simpa using f3
      clear k3 f3
      obtain ⟨k4, f4⟩ := ownK_cell szCe_cells HO1.out hml hmj (i := 4) (by decide)
      obtain ⟨z4, hz4⟩ : ∃ z, w1.cell? ⟨w.heap.size, j * 6 + 4, none⟩ = some z := ⟨_, by simpa [] using (k4.trans (List.getElem?_eq_getElem (by rw [kCe.len]; decide)))⟩
      have g4 : w1.frozen? ⟨w.heap.size, j * 6 + 4, none⟩ = false := by simpa using f4
      clear k4 f4
      obtain ⟨k5, f5⟩ := ownK_cell szCe_cells HO1.out hml hmj (i := 5) (by decide)
      obtain ⟨z5, hz5⟩ : ∃ z, w1.cell? ⟨w.heap.size, j * 6 + 5, none⟩ = some z := ⟨_, by simpa [] using (k5.trans (List.getElem?_eq_getElem (by rw [kCe.len]; decide)))⟩
      have g5 : w1.frozen? ⟨w.heap.size, j * 6 + 5, none⟩ = false := by simpa using f5
      clear k5 f5
      have p1 := ownK_put szCe_cells HO1.out hml hmj m1
      have p2 := setCells_grown w.heap.size (kCe.cells m1) (j * 6) w1
      rw [dy] at p1 p2
      have HP1 := Lib.hid (show OwnK 72 kCe.cells 6 w.heap.size ((((((w1.setCell ⟨w.heap.size, j * 6, none⟩ (.slice xy0 ny0 cy0)).setCell ⟨w.heap.size, j * 6 + 1, none⟩ (.slice xy1 ny1 cy1)).setCell ⟨w.heap.size, j * 6 + 2, none⟩ (.slice xy2 ny2 cy2)).setCell ⟨w.heap.size, j * 6 + 3, none⟩ (.int .i64 (kCe.strip m1).1.2.2.2.1)).setCell ⟨w.heap.size, j * 6 + 4, none⟩ (.int .i64 (kCe.strip m1).1.2.2.2.2)).setCell ⟨w.heap.size, j * 6 + 5, none⟩ (.int .i64 (kCe.strip m1).2)) _ _ from p1)
      have HP2 := Lib.hid (show w1.grownBy ((((((w1.setCell ⟨w.heap.size, j * 6, none⟩ (.slice xy0 ny0 cy0)).setCell ⟨w.heap.size, j * 6 + 1, none⟩ (.slice xy1 ny1 cy1)).setCell ⟨w.heap.size, j * 6 + 2, none⟩ (.slice xy2 ny2 cy2)).setCell ⟨w.heap.size, j * 6 + 3, none⟩ (.int .i64 (kCe.strip m1).1.2.2.2.1)).setCell ⟨w.heap.size, j * 6 + 4, none⟩ (.int .i64 (kCe.strip m1).1.2.2.2.2)).setCell ⟨w.heap.size, j * 6 + 5, none⟩ (.int .i64 (kCe.strip m1).2)) (some w.heap.size) from p2)
      have HGL := Lib.hid hgl; have HGR := Lib.hid hgr
      clear hc0 hc1 hc2 hc3 hc4 hc5 hi1 hb1 hml hmj p1 p2 dy ey hm1 hgl hgr
      go_wp2
      go_roundw
      case rel =>
        refine ⟨j + 1, by omega, by go_num, M ++ [m1], Lib.hid (by simp [hM.out]), Lib.hid ?_, Lib.hid ?_, Lib.hid ?_, Lib.hid (HB1.out.grown HP2.out HB1.out.size (fun g hg => by cases hg; exact Nat.le_refl _))⟩
        · rw [List.map_append, hst.out, HST.out, List.map_cons, List.map_nil, HM1.out]
        · rw [← madeK'_step (by have := hM.out; omega), hM.out]; exact HP1.out
        · have h7 := HP2.out.size
          have h8 := HGR.out
          have h9 := HSZ.out
          exact ((HE1.out.snoc HX.out (by omega) (by omega)).grown HP2.out (by omega) (Nat.le_refl _)).keep (fun _ _ _ => rfl) |> fun h => ⟨h.1, h.2.1, fun g hg => ⟨(h.2.2 g hg).1, Nat.lt_of_lt_of_le (h.2.2 g hg).2 h7⟩⟩
      case measure => simp [intOf]; omega
    · obtain rfl : j = n := by omega
      clear hlt
      go_wp2
      go_ret
      refine ⟨_, rfl, ?_, hb.out⟩
      have h1 := ho.out
      rw [madeK'_all hM.out] at h1
      have h2 : M.map kCe.strip = l := by rw [hst.out, List.take_of_length_le (by rw [HLEN.out]; omega)]
      have h3 := (he.out.slice h1 (OwnK.lt h1 _ rfl).2).in
      rw [← h2]
      exact h3
theorem eqCacheEntrySK_len (x y : Option Addr) (n m cx cy : Nat) (w : World) (h : (((n : Nat) : Int) != ((m : Nat) : Int)) = true) :
    Calls Try.prog 46 #[.slice x n cx, .slice y m cy] w fun e w' => e = .returned (.bool false) ∧ w = w' := by
  go_enter Try.func46, Try.ntmps46
  go_wp2
  go_ret
  exact ⟨rfl, rfl⟩
theorem differ_K {α : Type} [Inhabited α] {a b : List α} {k : Nat} (h : nth a k ≠ nth b k) : a ≠ b := fun e => h (by rw [e])
set_option maxHeartbeats 4000000 in
theorem eqCacheEntrySK (V U : Value) (l m : List Cet) (w : World) (q : Bool) (hq : decide (l = m) = q) (h : kLCe.At w V l) (g : kLCe.At w U m) (hl : l.length ≤ 100000000) (hm : m.length ≤ 100000000) (hsl : ∀ x ∈ l, adCe x ≤ 100000000) (hsm : ∀ x ∈ m, adCe x ≤ 100000000) :
    Calls Try.prog 46 #[V, U] w fun e w' => e = .returned (.bool q) ∧ Below w.heap.size w w' := by
  obtain ⟨x, n, cx, L, rfl, hn, hL, hh, hel⟩ := kLCe_at h
  obtain ⟨y, n2, cy, M, rfl, hn2, hM, hg, hem⟩ := kLCe_at g
  have hnl : l.length = n := by rw [← hL, List.length_map]; exact hn.symm
  have hnm : m.length = n2 := by rw [← hM, List.length_map]; exact hn2.symm
  by_cases he : n = n2
  · subst he
    rw [hnl] at hl
    have HN := Lib.hid hn; have HM := Lib.hid hn2; have HNL := Lib.hid hnl; have HNM9 := Lib.hid hnm
    have HH := Lib.hid hh; have HG := Lib.hid hg; have HEL := Lib.hid hel; have HEM := Lib.hid hem
    have HTL := Lib.hid hL; have HTM := Lib.hid hM; have HQ := Lib.hid hq; have HSL := Lib.hid hsl; have HSM := Lib.hid hsm
    have htest : (((n : Nat) : Int) != ((n : Nat) : Int)) = false := by simp
    clear hn h hh g hg hn2 hL hM hq hsl hsm hel hem hnl hnm hm
    go_enter Try.func46, Try.ntmps46
    go_wp2
    go_loopw [5] (fun i wr => ∃ k : Nat, k ≤ n ∧ i = .int .i64 k ∧ Hid (agree l m k) ∧ Hid (Below w.heap.size w wr)) (fun i _ => n - (intOf i).toNat)
    case atStart => exact ⟨0, Nat.zero_le _, rfl, Lib.hid (agree_zero _ _), Lib.hid (Below.refl _ _)⟩
    case round =>
      obtain ⟨k, hk, rfl, ha, hb⟩ := hrel
      by_cases hlt : k < n
      · have hlen := HN.out
        have hlen2 := HM.out
        obtain ⟨b, off, x0, n0, c0, x1, n1, c1, x2, n2, c2, rfl, -, hc0, hc1, hc2, hc3, hc4, hc5, hnm⟩ := kLCe_elem (HH.out.on hb.out) (fun y hy => kCe.holds_on (HEL.out y hy) hb.out) (j := k) (by omega)
        obtain ⟨b', off', xy0, ny0, cy0, xy1, ny1, cy1, xy2, ny2, cy2, rfl, -, hd0, hd1, hd2, hd3, hd4, hd5, hnm'⟩ := kLCe_elem (HG.out.on hb.out) (fun y hy => kCe.holds_on (HEM.out y hy) hb.out) (j := k) (by omega)
        have e1 : nth l k = kCe.strip (nth L k) := by rw [← HTL.out, nth_map _ (by omega)]
        have e2 : nth m k = kCe.strip (nth M k) := by rw [← HTM.out, nth_map _ (by omega)]
        have hl1 := HSL.out (nth l k) (nth_mem (by have := HNL.out; omega)); rw [e1] at hl1
        have hl2 := HSM.out (nth m k) (nth_mem (by have := HNM9.out; omega)); rw [e2] at hl2
        have HL := Lib.hid hl1; have HL' := Lib.hid hl2
        have HC0 := Lib.hid hc0; have HD0 := Lib.hid hd0; have HC1 := Lib.hid hc1; have HD1 := Lib.hid hd1; have HC2 := Lib.hid hc2; have HD2 := Lib.hid hd2; have HC3 := Lib.hid hc3; have HD3 := Lib.hid hd3; have HC4 := Lib.hid hc4; have HD4 := Lib.hid hd4; have HC5 := Lib.hid hc5; have HD5 := Lib.hid hd5
        have HNM := Lib.hid hnm; have HNM' := Lib.hid hnm'
        by_cases hq : kCe.strip (nth L k) = kCe.strip (nth M k)
        · have HE1 : Hid (decide (kCe.strip (nth L k) = kCe.strip (nth M k)) = true) := Lib.hid (decide_eq_true hq)
          have HA := Lib.hid (agree_succ ha.out (by rw [e1, e2, hq]))
          clear hq hlen hlen2 e1 e2 hc0 hc1 hc2 hc3 hc4 hc5 hd0 hd1 hd2 hd3 hd4 hd5 hnm hnm' hl1 hl2
          go_wp2_with fail
          go_region_held3 (fun w' => w'.cell? ⟨b, off + k * 6, none⟩ = some (.slice x0 n0 c0) ∧ w'.cell? ⟨b, off + k * 6 + 1, none⟩ = some (.slice x1 n1 c1) ∧ w'.cell? ⟨b, off + k * 6 + 2, none⟩ = some (.slice x2 n2 c2) ∧ w'.cell? ⟨b, off + k * 6 + 3, none⟩ = some (.int .i64 (kCe.strip (nth L k)).1.2.2.2.1) ∧ w'.cell? ⟨b, off + k * 6 + 4, none⟩ = some (.int .i64 (kCe.strip (nth L k)).1.2.2.2.2) ∧ w'.cell? ⟨b, off + k * 6 + 5, none⟩ = some (.int .i64 (kCe.strip (nth L k)).2) ∧ w'.cell? ⟨b', off' + k * 6, none⟩ = some (.slice xy0 ny0 cy0) ∧ w'.cell? ⟨b', off' + k * 6 + 1, none⟩ = some (.slice xy1 ny1 cy1) ∧ w'.cell? ⟨b', off' + k * 6 + 2, none⟩ = some (.slice xy2 ny2 cy2) ∧ w'.cell? ⟨b', off' + k * 6 + 3, none⟩ = some (.int .i64 (kCe.strip (nth M k)).1.2.2.2.1) ∧ w'.cell? ⟨b', off' + k * 6 + 4, none⟩ = some (.int .i64 (kCe.strip (nth M k)).1.2.2.2.2) ∧ w'.cell? ⟨b', off' + k * 6 + 5, none⟩ = some (.int .i64 (kCe.strip (nth M k)).2) ∧ Below w.heap.size w w') (first | exact ⟨kc HC0.out ((Below.refl _ _).drew), kc HC1.out ((Below.refl _ _).drew), kc HC2.out ((Below.refl _ _).drew), kc HC3.out ((Below.refl _ _).drew), kc HC4.out ((Below.refl _ _).drew), kc HC5.out ((Below.refl _ _).drew), kc HD0.out ((Below.refl _ _).drew), kc HD1.out ((Below.refl _ _).drew), kc HD2.out ((Below.refl _ _).drew), kc HD3.out ((Below.refl _ _).drew), kc HD4.out ((Below.refl _ _).drew), kc HD5.out ((Below.refl _ _).drew), hb.out.trans (Below.mono ((Below.refl _ _).drew) hb.out.size)⟩ | exact ⟨kc HC0.out (hb1.mono (Nat.le_refl _)), kc HC1.out (hb1.mono (Nat.le_refl _)), kc HC2.out (hb1.mono (Nat.le_refl _)), kc HC3.out (hb1.mono (Nat.le_refl _)), kc HC4.out (hb1.mono (Nat.le_refl _)), kc HC5.out (hb1.mono (Nat.le_refl _)), kc HD0.out (hb1.mono (Nat.le_refl _)), kc HD1.out (hb1.mono (Nat.le_refl _)), kc HD2.out (hb1.mono (Nat.le_refl _)), kc HD3.out (hb1.mono (Nat.le_refl _)), kc HD4.out (hb1.mono (Nat.le_refl _)), kc HD5.out (hb1.mono (Nat.le_refl _)), hb.out.trans (Below.mono (hb1.mono (Nat.le_refl _)) hb.out.size)⟩ | exact ⟨kc HC0.out ((Below.refl _ _).drew.trans (hb1.mono (Nat.le_refl _))), kc HC1.out ((Below.refl _ _).drew.trans (hb1.mono (Nat.le_refl _))), kc HC2.out ((Below.refl _ _).drew.trans (hb1.mono (Nat.le_refl _))), kc HC3.out ((Below.refl _ _).drew.trans (hb1.mono (Nat.le_refl _))), kc HC4.out ((Below.refl _ _).drew.trans (hb1.mono (Nat.le_refl _))), kc HC5.out ((Below.refl _ _).drew.trans (hb1.mono (Nat.le_refl _))), kc HD0.out ((Below.refl _ _).drew.trans (hb1.mono (Nat.le_refl _))), kc HD1.out ((Below.refl _ _).drew.trans (hb1.mono (Nat.le_refl _))), kc HD2.out ((Below.refl _ _).drew.trans (hb1.mono (Nat.le_refl _))), kc HD3.out ((Below.refl _ _).drew.trans (hb1.mono (Nat.le_refl _))), kc HD4.out ((Below.refl _ _).drew.trans (hb1.mono (Nat.le_refl _))), kc HD5.out ((Below.refl _ _).drew.trans (hb1.mono (Nat.le_refl _))), hb.out.trans (Below.mono ((Below.refl _ _).drew.trans (hb1.mono (Nat.le_refl _))) hb.out.size)⟩) ((go_at_call 87; refine (eqCacheEntryK _ _ _ _ _ _ HE1.out (HNM.out.on (Below.refl _ _).drew) (HNM'.out.on (Below.refl _ _).drew) HL.out HL'.out).mono ?_; rintro e w1 ⟨rfl, hb1⟩))
          all_goals
            have HB2 := Lib.hid (hb.out.drew.trans (hb1.mono hb.out.size))
            clear hb1
            go_wp2_with fail
            go_roundw
            case rel => exact ⟨k + 1, by omega, by go_num, HA, HB2⟩
            case measure => simp [intOf]; omega
        · have HE1 : Hid (decide (kCe.strip (nth L k) = kCe.strip (nth M k)) = false) := Lib.hid (decide_eq_false hq)
          have HA : Hid (q = false) := Lib.hid (by rw [← HQ.out]; exact decide_eq_false (differ_K (k := k) (by rw [e1, e2]; exact hq)))
          clear hq hlen hlen2 e1 e2 hc0 hc1 hc2 hc3 hc4 hc5 hd0 hd1 hd2 hd3 hd4 hd5 hnm hnm' hl1 hl2
          go_wp2_with fail
          go_region_held3 (fun w' => w'.cell? ⟨b, off + k * 6, none⟩ = some (.slice x0 n0 c0) ∧ w'.cell? ⟨b, off + k * 6 + 1, none⟩ = some (.slice x1 n1 c1) ∧ w'.cell? ⟨b, off + k * 6 + 2, none⟩ = some (.slice x2 n2 c2) ∧ w'.cell? ⟨b, off + k * 6 + 3, none⟩ = some (.int .i64 (kCe.strip (nth L k)).1.2.2.2.1) ∧ w'.cell? ⟨b, off + k * 6 + 4, none⟩ = some (.int .i64 (kCe.strip (nth L k)).1.2.2.2.2) ∧ w'.cell? ⟨b, off + k * 6 + 5, none⟩ = some (.int .i64 (kCe.strip (nth L k)).2) ∧ w'.cell? ⟨b', off' + k * 6, none⟩ = some (.slice xy0 ny0 cy0) ∧ w'.cell? ⟨b', off' + k * 6 + 1, none⟩ = some (.slice xy1 ny1 cy1) ∧ w'.cell? ⟨b', off' + k * 6 + 2, none⟩ = some (.slice xy2 ny2 cy2) ∧ w'.cell? ⟨b', off' + k * 6 + 3, none⟩ = some (.int .i64 (kCe.strip (nth M k)).1.2.2.2.1) ∧ w'.cell? ⟨b', off' + k * 6 + 4, none⟩ = some (.int .i64 (kCe.strip (nth M k)).1.2.2.2.2) ∧ w'.cell? ⟨b', off' + k * 6 + 5, none⟩ = some (.int .i64 (kCe.strip (nth M k)).2) ∧ Below w.heap.size w w') (first | exact ⟨kc HC0.out ((Below.refl _ _).drew), kc HC1.out ((Below.refl _ _).drew), kc HC2.out ((Below.refl _ _).drew), kc HC3.out ((Below.refl _ _).drew), kc HC4.out ((Below.refl _ _).drew), kc HC5.out ((Below.refl _ _).drew), kc HD0.out ((Below.refl _ _).drew), kc HD1.out ((Below.refl _ _).drew), kc HD2.out ((Below.refl _ _).drew), kc HD3.out ((Below.refl _ _).drew), kc HD4.out ((Below.refl _ _).drew), kc HD5.out ((Below.refl _ _).drew), hb.out.trans (Below.mono ((Below.refl _ _).drew) hb.out.size)⟩ | exact ⟨kc HC0.out (hb1.mono (Nat.le_refl _)), kc HC1.out (hb1.mono (Nat.le_refl _)), kc HC2.out (hb1.mono (Nat.le_refl _)), kc HC3.out (hb1.mono (Nat.le_refl _)), kc HC4.out (hb1.mono (Nat.le_refl _)), kc HC5.out (hb1.mono (Nat.le_refl _)), kc HD0.out (hb1.mono (Nat.le_refl _)), kc HD1.out (hb1.mono (Nat.le_refl _)), kc HD2.out (hb1.mono (Nat.le_refl _)), kc HD3.out (hb1.mono (Nat.le_refl _)), kc HD4.out (hb1.mono (Nat.le_refl _)), kc HD5.out (hb1.mono (Nat.le_refl _)), hb.out.trans (Below.mono (hb1.mono (Nat.le_refl _)) hb.out.size)⟩ | exact ⟨kc HC0.out ((Below.refl _ _).drew.trans (hb1.mono (Nat.le_refl _))), kc HC1.out ((Below.refl _ _).drew.trans (hb1.mono (Nat.le_refl _))), kc HC2.out ((Below.refl _ _).drew.trans (hb1.mono (Nat.le_refl _))), kc HC3.out ((Below.refl _ _).drew.trans (hb1.mono (Nat.le_refl _))), kc HC4.out ((Below.refl _ _).drew.trans (hb1.mono (Nat.le_refl _))), kc HC5.out ((Below.refl _ _).drew.trans (hb1.mono (Nat.le_refl _))), kc HD0.out ((Below.refl _ _).drew.trans (hb1.mono (Nat.le_refl _))), kc HD1.out ((Below.refl _ _).drew.trans (hb1.mono (Nat.le_refl _))), kc HD2.out ((Below.refl _ _).drew.trans (hb1.mono (Nat.le_refl _))), kc HD3.out ((Below.refl _ _).drew.trans (hb1.mono (Nat.le_refl _))), kc HD4.out ((Below.refl _ _).drew.trans (hb1.mono (Nat.le_refl _))), kc HD5.out ((Below.refl _ _).drew.trans (hb1.mono (Nat.le_refl _))), hb.out.trans (Below.mono ((Below.refl _ _).drew.trans (hb1.mono (Nat.le_refl _))) hb.out.size)⟩) ((go_at_call 87; refine (eqCacheEntryK _ _ _ _ _ _ HE1.out (HNM.out.on (Below.refl _ _).drew) (HNM'.out.on (Below.refl _ _).drew) HL.out HL'.out).mono ?_; rintro e w1 ⟨rfl, hb1⟩))
          all_goals
            have HB2 := Lib.hid (hb.out.drew.trans (hb1.mono hb.out.size))
            clear hb1
            go_wp2_with fail
            go_ret
            exact ⟨ret_bool HA.out.symm, HB2.out⟩
      · obtain rfl : k = n := by omega
        have HD : Hid (q = true) := Lib.hid (by rw [← HQ.out]; exact decide_eq_true (agree_all (by rw [HNL.out, HNM9.out]) (by rw [HNL.out]; exact ha.out)))
        clear hlt
        go_wp2
        go_ret
        exact ⟨ret_bool HD.out.symm, hb.out⟩
  · have htest : (((n : Nat) : Int) != ((n2 : Nat) : Int)) = true := by
      rw [bne_iff_ne]; omega
    have hf : q = false := by rw [← hq]; exact decide_eq_false (fun e => he (by rw [← hnl, ← hnm, e]))
    rw [hf]
    exact (eqCacheEntrySK_len x y _ _ cx cy w htest).mono fun e w' ⟨h1, h2⟩ => ⟨h1, by subst h2; exact Below.refl _ _⟩
def inLCe (l : List Cet) : Prop := l.length ≤ 9223372036854775807 ∧ ∀ x ∈ l, inCe x
theorem inLCe.ok {l : List Cet} (h : inLCe l) : okLCe l := ⟨h.1, fun x hx => (h.2 x hx).ok⟩
def adLCe (l : List Cet) : Nat := bulkK adCe l
theorem toLCeK (V : Value) (l : List Cet) (w : World) (h : kLCe.At w V l) (hl : adLCe l ≤ 100000000) :
    Calls Try.prog 52 #[V] w fun e w' => ∃ U, e = .returned U ∧ kLCe.In w.heap.size w'.heap.size w' U l ∧ Below w.heap.size w w' :=
  toCacheEntrySK V l w h (Nat.le_trans (bulkK_len _ _) hl) (fun x hx => Nat.le_trans (bulkK_mem hx) hl)
theorem szCacheEntrySF (V : Value) (l : List Cet) (w : World) (left : Int) (h : kLCe.At w V l) (hp : okLCe l) (h0 : 0 ≤ left) (h1 : left ≤ 1048576) :
    Calls Try.prog 49 #[V, .int .i64 left] w fun e w' => e = .returned (.int .i64 (szW (bulkK wtCe l) left)) ∧ Below w.heap.size w w' := szCacheEntrySK V l w left h hp h0 h1
theorem toCacheEntrySF (V : Value) (l : List Cet) (w : World) (h : kLCe.At w V l) (hl : bulkK adCe l ≤ 100000000) :
    Calls Try.prog 52 #[V] w fun e w' => ∃ U, e = .returned U ∧ kLCe.In w.heap.size w'.heap.size w' U l ∧ Below w.heap.size w w' := toLCeK V l w h hl
theorem eqCacheEntrySF (V U : Value) (l m : List Cet) (w : World) (q : Bool) (hq : decide (l = m) = q) (h : kLCe.At w V l) (g : kLCe.At w U m) (hl : bulkK adCe l ≤ 100000000) (hm : bulkK adCe m ≤ 100000000) :
    Calls Try.prog 46 #[V, U] w fun e w' => e = .returned (.bool q) ∧ Below w.heap.size w w' :=
  eqCacheEntrySK V U l m w q hq h g (Nat.le_trans (bulkK_len _ _) hl) (Nat.le_trans (bulkK_len _ _) hm) (fun x hx => Nat.le_trans (bulkK_mem hx) hl) (fun x hx => Nat.le_trans (bulkK_mem hx) hm)
theorem opens_CacheEntryS : OpensK Try.prog kLCe 29 inLCe := opens_slice Try.underlying29 (by kernel_rfl) (by decide) opens_CacheEntry
end Go.Proofs.Ythfljbbigpophaa.Row
/- The content store in the words of kinds: the kind; sz, to, eq, mark, held. No conditions but that lengths fit. -/
namespace Go.Proofs.Ythfljbbigpophaa.Row
open Go.ChangeShapes Go.WideShapes Go.ChangeAt Go.RowKit Go.Instr
set_option linter.unusedVariables false
set_option maxRecDepth 100000
abbrev Cnt := Int × List Cet
set_option synthInstance.maxSize 100000 in
instance : DecidableEq Cnt := inferInstance
abbrev Cnm := Int × Rw Cem
def kCn : Kd Cnt Cnm := (kInt.pair kLCe)
theorem aggCn : Ret.AggOf Try.prog 24 2 := ⟨by kernel_rfl, by kernel_rfl⟩
def wtCn (x : Cnt) : Nat := bulkK wtCe x.2
def adCn (x : Cnt) : Nat := bulkK adCe x.2
def okCn (x : Cnt) : Prop := okLCe x.2
section
variable {w : World} {V : Value} {x : Cnt} {B E : Nat}
theorem kCn_at (h : kCn.At w V x) : ∃ (x1_0 : Option Addr) (n1_0 c1_0 : Nat), V = .agg #[.int .i64 x.1, .slice x1_0 n1_0 c1_0] ∧ kLCe.At w (.slice x1_0 n1_0 c1_0) x.2 := by
  obtain ⟨⟨m0, m1⟩, rfl, rfl, g0, g1⟩ := h
  obtain ⟨x1_0, n1_0, c1_0, e1, a1⟩ := kLCe_shapeA (Kd.at_of (k := kLCe) g1)
  have d1 : kLCe.cells m1 = [.slice x1_0 n1_0 c1_0] := by show [kLCe.val m1] = _; rw [e1]
  refine ⟨x1_0, n1_0, c1_0, ?_, e1 ▸ Kd.at_of (k := kLCe) g1⟩
  show Value.agg ((kInt.cells m0 ++ (kLCe.cells m1))).toArray = _
  rw [d1]
  rfl
theorem kCn_of {x1_0 : Option Addr} {n1_0 c1_0 : Nat} (h1 : kLCe.At w (.slice x1_0 n1_0 c1_0) x.2) : kCn.At w (.agg #[.int .i64 x.1, .slice x1_0 n1_0 c1_0]) x := by
  obtain ⟨l0, l1⟩ := x
  obtain ⟨m1, e1, r1, g1⟩ := h1
  replace e1 := e1.symm
  have d1 : kLCe.cells m1 = [.slice x1_0 n1_0 c1_0] := by show [kLCe.val m1] = _; rw [e1]
  refine ⟨(l0, m1), ?_, Prod.ext rfl (r1), trivial, g1⟩
  symm
  show Value.agg ((kInt.cells l0 ++ (kLCe.cells m1))).toArray = _
  rw [d1]
  rfl
theorem kCn_shapeA (h : kCn.At w V x) : ∃ (x1_0 : Option Addr) (n1_0 c1_0 : Nat), V = .agg #[.int .i64 x.1, .slice x1_0 n1_0 c1_0] ∧ kCn.At w (.agg #[.int .i64 x.1, .slice x1_0 n1_0 c1_0]) x := by
  obtain ⟨x1_0, n1_0, c1_0, rfl, -⟩ := kCn_at h
  exact ⟨x1_0, n1_0, c1_0, rfl, h⟩
theorem kCn_shape (h : kCn.In B E w V x) : ∃ (x1_0 : Option Addr) (n1_0 c1_0 : Nat), V = .agg #[.int .i64 x.1, .slice x1_0 n1_0 c1_0] ∧ kCn.In B E w (.agg #[.int .i64 x.1, .slice x1_0 n1_0 c1_0]) x := by
  obtain ⟨x1_0, n1_0, c1_0, rfl, -⟩ := kCn_at h.at
  exact ⟨x1_0, n1_0, c1_0, rfl, h⟩
end
set_option maxHeartbeats 4000000 in
theorem szContentStoreK (V : Value) (x : Cnt) (w : World) (left : Int) (h : kCn.At w V x) (hp : okCn x) (h0 : 0 ≤ left) (hl : left ≤ 1048576) :
    Calls Try.prog 16 #[V, .int .i64 left] w fun e w' => e = .returned (.int .i64 (szW (wtCn x) left)) ∧ Below w.heap.size w w' := by
  obtain ⟨x1_0, n1_0, c1_0, rfl, g1⟩ := kCn_at h
  obtain ⟨l0, l1⟩ := x
  have p1 := show okLCe l1 from hp
  have HB := Lib.hid ((Below.refl w.heap.size w).alloc (Nat.le_refl _) (.cells #[.int .i64 l0, .slice x1_0 n1_0 c1_0] 31))
  have HX := Lib.hid (Ret.Blk.new w #[.int .i64 l0, .slice x1_0 n1_0 c1_0] 31)
  have G1 := Lib.hid g1; have P1 := Lib.hid p1
  dsimp only at G1 P1 ⊢
  clear g1 p1 h
  go_enter Try.func16, Try.ntmps16
  go_wp2_with fail
  refine (szCacheEntrySF _ l1 _ (left) (G1.out.on HB.out) P1.out (by omega) (by omega)).mono ?_
  rintro e w1 ⟨rfl, hb⟩
  replace HX := Lib.hid (HX.out.on hb)
  replace HB := Lib.hid (HB.out.trans (hb.mono HB.out.size)); clear hb
  have q0 : w1.cell? ⟨w.heap.size, 0, none⟩ = some (.int .i64 l0) := HX.out.cell 0
  have q1 : w1.cell? ⟨w.heap.size, 1, none⟩ = some (.slice x1_0 n1_0 c1_0) := HX.out.cell 1
  by_cases t0 : ((bulkK wtCe l1) : Int) ≤ left
  · rw [szW_fit t0]
    have b0 : ¬ left - ((bulkK wtCe l1) : Int) < 0 := by omega
    have HZ : Hid (szW (((bulkK wtCe l1))) left = left - ((bulkK wtCe l1) : Int)) := Lib.hid (by rw [szW_fit (by omega)]; (try omega))
    go_wp2
    go_ret
    exact ⟨ret_int HZ.out.symm, HB.out⟩
  · rw [szW_not t0]
    have HZ : Hid (szW (((bulkK wtCe l1))) left = -1) := Lib.hid (szW_not (by omega))
    go_wp2
    go_ret
    exact ⟨ret_int HZ.out.symm, HB.out⟩
set_option maxHeartbeats 4000000 in
theorem toContentStoreK (V : Value) (x : Cnt) (w : World) (h : kCn.At w V x) (hp : adCn x ≤ 100000000) :
    Calls Try.prog 18 #[V] w fun e w' => ∃ U, e = .returned U ∧ kCn.In w.heap.size w'.heap.size w' U x ∧ Below w.heap.size w w' := by
  obtain ⟨x1_0, n1_0, c1_0, rfl, g1⟩ := kCn_at h
  obtain ⟨l0, l1⟩ := x
  have hp9 : bulkK adCe l1 ≤ 100000000 := hp
  have hb0 := (Below.refl w.heap.size w).alloc (Nat.le_refl _) (.cells #[.int .i64 l0, .slice x1_0 n1_0 c1_0] 31)
  have hb1 := hb0.alloc (by simp) (.cells #[.int .i64 0, .slice none 0 0] 24)
  have hb2 := hb1.alloc (by simp; omega) (.cells #[.int .i64 l0, .slice none 0 0] 24)
  have HB := Lib.hid hb2
  have HX := Lib.hid (((Ret.Blk.new w #[.int .i64 l0, .slice x1_0 n1_0 c1_0] 31).on ((Below.refl _ _).alloc (Nat.le_refl _) (.cells #[.int .i64 0, .slice none 0 0] 24))).on ((Below.refl _ _).alloc (Nat.le_refl _) (.cells #[.int .i64 l0, .slice none 0 0] 24)))
  have HR := Lib.hid ((Ret.Blk.new' (w := (w.alloc (.cells #[.int .i64 l0, .slice x1_0 n1_0 c1_0] 31))) (n := w.heap.size + 1) #[.int .i64 0, .slice none 0 0] 24 (by simp)).on ((Below.refl _ _).alloc (Nat.le_refl _) (.cells #[.int .i64 l0, .slice none 0 0] 24)))
  have HL := Lib.hid (Ret.Blk.new' (w := (w.alloc (.cells #[.int .i64 l0, .slice x1_0 n1_0 c1_0] 31)).alloc (.cells #[.int .i64 0, .slice none 0 0] 24)) (n := w.heap.size + 1 + 1) #[.int .i64 l0, .slice none 0 0] 24 (by simp))
  have hz0 : (((w.alloc (.cells #[.int .i64 l0, .slice x1_0 n1_0 c1_0] 31)).alloc (.cells #[.int .i64 0, .slice none 0 0] 24)).alloc (.cells #[.int .i64 l0, .slice none 0 0] 24)).heap.size = w.heap.size + 3 := by simp
  have G1 := Lib.hid g1
  dsimp only at G1 ⊢
  clear h hp hb0 hb1 hb2 g1
  go_enter Try.func18, Try.ntmps18
  go_wp2_with fail
  refine (toCacheEntrySF _ l1 _ (G1.out.on HB.out) (by omega)).mono ?_
  rintro e w1 ⟨U1, rfl, ho, hb⟩
  have hs0 := hb.size
  obtain ⟨m1, rfl, r1, ho⟩ := ho.split
  obtain ⟨xy1_0, ny1_0, cy1_0, e1, -⟩ := kLCe_shapeA (Kd.at_of (k := kLCe) ho.holds)
  have d1 : kLCe.cells m1 = [.slice xy1_0 ny1_0 cy1_0] := by show [kLCe.val m1] = _; rw [e1]
  rw [e1]
  rw [hz0] at ho hs0; clear hz0
  replace HX := Lib.hid (HX.out.on hb); replace HR := Lib.hid (HR.out.on hb); replace HL := Lib.hid (HL.out.on hb)
  replace HB := Lib.hid (HB.out.trans (hb.mono HB.out.size)); clear hb
  have O1 := Lib.hid ho; clear ho
  have E1 := Lib.hid e1; have D1 := Lib.hid d1; have R1 := Lib.hid r1; clear e1 d1 r1
  have q0 : w1.cell? ⟨w.heap.size, 0, none⟩ = some (.int .i64 l0) := HX.out.cell 0
  have q1 : w1.cell? ⟨w.heap.size, 1, none⟩ = some (.slice x1_0 n1_0 c1_0) := HX.out.cell 1
  have p0 : w1.cell? ⟨w.heap.size + 1 + 1, 0, none⟩ = some (.int .i64 l0) := HL.out.cell 0
  have p1 : w1.cell? ⟨w.heap.size + 1 + 1, 1, none⟩ = some (.slice none 0 0) := HL.out.cell 1
  have t0 := HL.out.frozen 0; have t1 := HL.out.frozen 1
  have r0 : w1.cell? ⟨w.heap.size + 1, 0, none⟩ = some (.int .i64 0) := HR.out.cell 0
  have r1 : w1.cell? ⟨w.heap.size + 1, 1, none⟩ = some (.slice none 0 0) := HR.out.cell 1
  have u0 := HR.out.frozen 0; have u1 := HR.out.frozen 1
  have Z := Lib.hid (((HR.out.other (a := ⟨w.heap.size + 1 + 1, 1, none⟩) (by show w.heap.size + 1 + 1 ≠ w.heap.size + 1; omega) (.slice xy1_0 ny1_0 cy1_0)).set 0 (.int .i64 l0)).set 1 (.slice xy1_0 ny1_0 cy1_0))
  have ZB := Lib.hid (((HB.out.setCell (p := ⟨w.heap.size + 1 + 1, 1, none⟩) (by show w.heap.size ≤ w.heap.size + 1 + 1; omega) (.slice xy1_0 ny1_0 cy1_0)).setCell (p := ⟨w.heap.size + 1, 0, none⟩) (by show w.heap.size ≤ w.heap.size + 1; omega) (.int .i64 l0)).setCell (p := ⟨w.heap.size + 1, 1, none⟩) (by show w.heap.size ≤ w.heap.size + 1; omega) (.slice xy1_0 ny1_0 cy1_0))
  have Z1 := Lib.hid (Kd.Own.set (g := w.heap.size + 1) (i := 1) (u := .slice xy1_0 ny1_0 cy1_0) (Kd.Own.set (g := w.heap.size + 1) (i := 0) (u := .int .i64 l0) (Kd.Own.set (g := w.heap.size + 1 + 1) (i := 1) (u := .slice xy1_0 ny1_0 cy1_0) O1.out (by omega)) (by omega)) (by omega))
  go_wp2_with fail
  refine bodyPost_ret (Ret.results_c rfl _ _ (w.heap.size + 1) [.int .i64 l0, .slice xy1_0 ny1_0 cy1_0] rfl aggCn Z.out.cells) rfl ?_
  have hval : kCn.val (l0, m1) = .agg #[.int .i64 l0, .slice xy1_0 ny1_0 cy1_0] := by
    show Value.agg ((kInt.cells l0 ++ (kLCe.cells m1))).toArray = _
    rw [D1.out]
    rfl
  have hstr : kCn.strip (l0, m1) = (l0, l1) := Prod.ext rfl (R1.out)
  refine ⟨_, rfl, ?_, ZB.out⟩
  rw [← hval, ← hstr]
  refine Kd.Own.in ?_
  exact (Kd.Own.pair (C := w.heap.size) (Kd.own_scalar _ _ _ _) (Z1.out.mono (by omega) (by simp only [World.size_setCell]; omega)) (by omega) (by simp only [World.size_setCell]; omega))
set_option maxHeartbeats 4000000 in
theorem eqContentStoreK (V U : Value) (x y : Cnt) (w : World) (q : Bool) (hq : decide (x = y) = q) (h : kCn.At w V x) (g : kCn.At w U y) (hp : adCn x ≤ 100000000) (hy : adCn y ≤ 100000000) :
    Calls Try.prog 13 #[V, U] w fun e w' => e = .returned (.bool q) ∧ Below w.heap.size w w' := by
  obtain ⟨x1_0, n1_0, c1_0, rfl, g1⟩ := kCn_at h
  obtain ⟨l0, l1⟩ := x
  obtain ⟨xy1_0, ny1_0, cy1_0, rfl, gy1⟩ := kCn_at g
  obtain ⟨ly0, ly1⟩ := y
  have hp9 : bulkK adCe l1 ≤ 100000000 := hp
  have hy9 : bulkK adCe ly1 ≤ 100000000 := hy
  have hb0 := (Below.refl w.heap.size w).alloc (Nat.le_refl _) (.cells #[.int .i64 l0, .slice x1_0 n1_0 c1_0] 24)
  have HB := Lib.hid (hb0.alloc (by simp) (.cells #[.int .i64 ly0, .slice xy1_0 ny1_0 cy1_0] 24))
  have HX := Lib.hid ((Ret.Blk.new w #[.int .i64 l0, .slice x1_0 n1_0 c1_0] 24).on ((Below.refl _ _).alloc (Nat.le_refl _) (.cells #[.int .i64 ly0, .slice xy1_0 ny1_0 cy1_0] 24)))
  have HY := Lib.hid (Ret.Blk.new' (w := w.alloc (.cells #[.int .i64 l0, .slice x1_0 n1_0 c1_0] 24)) (n := w.heap.size + 1) #[.int .i64 ly0, .slice xy1_0 ny1_0 cy1_0] 24 (by simp))
  have HQ := Lib.hid hq
  have G1 := Lib.hid g1; have Gy1 := Lib.hid gy1
  dsimp only at G1 Gy1 ⊢
  clear h g hq hp hy hb0 g1 gy1
  go_enter Try.func13, Try.ntmps13
  by_cases e0 : l0 = ly0
  · have t0 : (l0 != ly0) = false := by simp [e0]
    have E0 := Lib.hid e0; clear e0
    go_wp2_with fail
    by_cases e1 : l1 = ly1
    · refine (eqCacheEntrySF _ _ l1 ly1 _ true (decide_eq_true e1) (G1.out.on HB.out) (Gy1.out.on HB.out) (by omega) (by omega)).mono ?_
      rintro e w1 ⟨rfl, hb⟩
      replace HX := Lib.hid (HX.out.on hb); replace HY := Lib.hid (HY.out.on hb)
      replace HB := Lib.hid (HB.out.trans (hb.mono HB.out.size)); clear hb
      have q0 : w1.cell? ⟨w.heap.size, 0, none⟩ = some (.int .i64 l0) := HX.out.cell 0
      have q1 : w1.cell? ⟨w.heap.size, 1, none⟩ = some (.slice x1_0 n1_0 c1_0) := HX.out.cell 1
      have p0 : w1.cell? ⟨w.heap.size + 1, 0, none⟩ = some (.int .i64 ly0) := HY.out.cell 0
      have p1 : w1.cell? ⟨w.heap.size + 1, 1, none⟩ = some (.slice xy1_0 ny1_0 cy1_0) := HY.out.cell 1
      have HE : Hid (q = true) := Lib.hid (by rw [← HQ.out]; simp [E0.out, e1])
      clear E0 e1
      go_wp2
      go_ret
      exact ⟨ret_bool HE.out.symm, HB.out⟩
    · refine (eqCacheEntrySF _ _ l1 ly1 _ false (decide_eq_false e1) (G1.out.on HB.out) (Gy1.out.on HB.out) (by omega) (by omega)).mono ?_
      rintro e w1 ⟨rfl, hb⟩
      replace HX := Lib.hid (HX.out.on hb); replace HY := Lib.hid (HY.out.on hb)
      replace HB := Lib.hid (HB.out.trans (hb.mono HB.out.size)); clear hb
      have q0 : w1.cell? ⟨w.heap.size, 0, none⟩ = some (.int .i64 l0) := HX.out.cell 0
      have q1 : w1.cell? ⟨w.heap.size, 1, none⟩ = some (.slice x1_0 n1_0 c1_0) := HX.out.cell 1
      have p0 : w1.cell? ⟨w.heap.size + 1, 0, none⟩ = some (.int .i64 ly0) := HY.out.cell 0
      have p1 : w1.cell? ⟨w.heap.size + 1, 1, none⟩ = some (.slice xy1_0 ny1_0 cy1_0) := HY.out.cell 1
      have HE : Hid (q = false) := Lib.hid (by rw [← HQ.out]; simp [e1])
      clear e1
      go_wp2
      go_ret
      exact ⟨ret_bool HE.out.symm, HB.out⟩
  · have t0 : (l0 != ly0) = true := by simpa using e0
    have HE : Hid (q = false) := Lib.hid (by rw [← HQ.out]; simp [e0])
    clear e0
    go_wp2
    go_ret
    exact ⟨ret_bool HE.out.symm, HB.out⟩
def inCn (x : Cnt) : Prop := (Lit.int .i64 x.1).wf = true ∧ inLCe x.2
theorem inCn.ok {x : Cnt} (h : inCn x) : okCn x := h.2.ok
theorem opens_ContentStore : OpensK Try.prog kCn 31 inCn := opens_struct Try.underlying31 (by kernel_rfl) (opensF_cons (ok := fun (z : Int) => (Lit.int .i64 z).wf = true) (ok' := fun (z : List Cet) => inLCe z) (opens_int Try.underlying3) rfl (by kernel_rfl) (opensF_last (ok := fun (z : List Cet) => inLCe z) opens_CacheEntryS rfl (by kernel_rfl)))
theorem adCn_le (x : Cnt) : adCn x ≤ wtCn x := by
  obtain ⟨l0, l1⟩ := x
  have e1 := show bulkK adCe l1 ≤ bulkK wtCe l1 from bulkK_mono adCe_le _
  unfold adCn wtCn
  dsimp only
  omega
theorem adCn_big {x : Cnt} {n : Nat} (h : wtCn x ≤ n) : adCn x ≤ n := Nat.le_trans (adCn_le x) h
theorem szCnK (V : Value) (x : Cnt) (w : World) (left : Int) (h : kCn.At w V x) (hl : inCn x) (hs : inCn x) (h0 : 0 ≤ left) (h1 : left ≤ 1048576) :
    Calls Try.prog 16 #[V, .int .i64 left] w fun e w' => e = .returned (.int .i64 (szW (wtCn x) left)) ∧ Below w.heap.size w w' := szContentStoreK V x w left h hs.ok h0 h1
theorem sameCnK (V U : Value) (x : Cnt) (w : World) (h : kCn.At w V x) (g : kCn.At w U x) (hp : adCn x ≤ 100000000) :
    Calls Try.prog 13 #[V, U] w fun e w' => e = .returned (.bool true) ∧ Below w.heap.size w w' := eqContentStoreK V U x x w true (by simp) h g hp hp
end Go.Proofs.Ythfljbbigpophaa.Row
/- Contracts of the library's slices.Grow at the nil slice, slices.Concat, slices.Equal and slices.Clone at slices of strings. No conditions but that lengths fit. -/
namespace Go.Proofs.Ythfljbbigpophaa.Row
open Go.ChangeShapes Go.WideShapes Go.ChangeAt Go.RowKit Go.Instr
set_option linter.unusedVariables false
set_option maxRecDepth 100000
def GivesS (w : World) (l : List ByteArray) (e : Ending) (w' : World) : Prop := ∃ v, e = .returned v ∧ Own 9 Value.string w.heap.size w' v l ∧ Below w.heap.size w w'
def cat (ls : Nat → List ByteArray) : Nat → List ByteArray
  | 0 => []
  | k + 1 => cat ls k ++ ls k
theorem libEqS_len (x y : Option Addr) (n m cx cy : Nat) (w : World) (h : (((n : Nat) : Int) != ((m : Nat) : Int)) = true) :
    Calls Try.prog 101 #[.slice x n cx, .slice y m cy] w fun e w' => e = .returned (.bool false) ∧ w = w' := by
  go_enter Try.func101, Try.ntmps101
  go_wp2
  go_ret
  exact ⟨rfl, rfl⟩
set_option maxHeartbeats 1000000 in
theorem libEqS (v u : Value) (l m : List ByteArray) (w : World) (h : Holds Value.string w v l) (g : Holds Value.string w u m) (hl : l.length ≤ 140737488351232) (hm : m.length ≤ 140737488351232) :
    Calls Try.prog 101 #[v, u] w fun e w' => e = .returned (.bool (eqB l m)) ∧ Below w.heap.size w w' := by
  obtain ⟨x, cx, rfl, hcx, hh⟩ := h.shape
  obtain ⟨y, cy, rfl, hcy, hg⟩ := g.shape
  by_cases he : l.length = m.length
  · obtain ⟨n, hn⟩ : ∃ n, n = l.length := ⟨_, rfl⟩
    rw [← he] at hg hm hcy ⊢
    rw [← hn] at hcx hh hl hg hm hcy ⊢
    have HE := Lib.hid he
    have HN := Lib.hid hn
    have HH := Lib.hid hh
    have HG := Lib.hid hg
    have htest : (((n : Nat) : Int) != ((n : Nat) : Int)) = false := by simp
    clear hn h hh g hg he
    go_enter Try.func101, Try.ntmps101
    go_wp2
    go_loopw [13] (fun i wr => ∃ k nq : Nat, k ≤ n ∧ i = .int .i64 k ∧ Hid (agree l m k) ∧ wr = w.drewN nq) (fun i _ => n - (intOf i).toNat)
    case atStart => exact ⟨0, 0, Nat.zero_le _, rfl, Lib.hid (agree_zero _ _), rfl⟩
    case round =>
      obtain ⟨k, nq, hk, rfl, ha, rfl⟩ := hrel
      by_cases hlt : k < n
      · have hlen := HN.out
        have hlen2 := HE.out
        obtain ⟨b, off, rfl, hc⟩ := HH.out.at (j := k) (by omega)
        obtain ⟨b', off', rfl, hc'⟩ := HG.out.at (j := k) (by omega)
        clear hlen hlen2
        by_cases hd : nth l k = nth m k
        · have hd2 := tl_eq hd
          have HD := Lib.hid hd; clear hd
          go_wp2_with fail
          go_quiet (fail)
          go_wp2_with fail
          go_roundw
          case rel => exact ⟨k + 1, _, by omega, by go_num, Lib.hid (agree_succ ha.out HD.out), rfl⟩
          case measure => simp [intOf]; omega
        · have hd2 := tl_ne hd
          have HD := Lib.hid (eqB_false (differ_at hd)); clear hd
          go_wp2_with fail
          go_quiet (fail)
          go_wp2_with fail
          go_ret
          exact ⟨ret_bool HD.out.symm, below_drewN (below_drewN (Below.refl _ _) _) _⟩
      · obtain rfl : k = n := by omega
        have HD := Lib.hid (eqB_true (agree_all HE.out (HN.out ▸ ha.out)))
        clear hlt
        go_wp2
        go_ret
        exact ⟨ret_bool HD.out.symm, below_drewN (Below.refl _ _) _⟩
  · have htest : (((l.length : Nat) : Int) != ((m.length : Nat) : Int)) = true := by
      rw [bne_iff_ne]; omega
    rw [eqB_false (fun e => he (by rw [e]))]
    exact (libEqS_len x y _ _ cx cy w htest).mono fun e w' ⟨h1, h2⟩ => ⟨h1, by subst h2; exact Below.refl _ _⟩
set_option maxHeartbeats 1000000 in
theorem cloneS (v : Value) (l : List ByteArray) (w : World) (h : Holds Value.string w v l) (hl : l.length ≤ 10000000) :
    Calls Try.prog 103 #[v] w (GivesS w l) := by
  obtain ⟨x, cx, rfl, hcx, hh⟩ := h.shape
  cases x with
  | none =>
    have hl0 : l = [] := by
      obtain ⟨x', cap', hv, hc', hh'⟩ := hh
      cases hv
      rcases hh' with h1 | ⟨b, off, h1, _⟩
      · exact h1
      · cases h1
    subst hl0
    have hq : ∀ w : World, (binOp .eql 36 (.slice none 0 cx) (.slice none 0 0)).run Try.prog w = .ok (.bool true) w := fun w => by
      exact Lib.run_eql_slice_nil w _ _ _ _ _ _ _ Try.underlying36
    clear hh h
    simp only [List.length_nil]
    go_enter Try.func103, Try.ntmps103
    go_wp2
    go_ret
    exact ⟨_, rfl, Own.nil _ _ _ _, Below.refl _ _⟩
  | some ad =>
    have HB := Lib.hid ((Below.refl w.heap.size w).alloc (Nat.le_refl _) (.cells #[] 9))
    have HH := Lib.hid (hh.on HB.out)
    have HO := Lib.hid (own_empty Value.string 9 w)
    have hq : ∀ w : World, (binOp .eql 36 (.slice (some ad) l.length cx) (.slice none 0 0)).run Try.prog w = .ok (.bool false) w := fun w => by
      exact Lib.run_eql_slice_nil w _ _ _ _ _ _ _ Try.underlying36
    clear hh h
    go_enter Try.func103, Try.ntmps103
    go_wp2_with (at_builtin; refine wpList_app (enc := Value.string) (B := w.heap.size) (l := []) (m := l) rfl _ _ rfl Try.underlying36 elemSTR rfl rfl rfl HO.out HH.out oneStr (by simp; omega) (by unfold maxLen; simp; omega) (by simp) ?_)
    intro v2 w2 ho hg
    have HO2 := Lib.hid ho; have HB2 := Lib.hid (HB.out.grown hg (by simp) (fun g hh => (HO.out.lt g hh).1))
    clear ho hg
    go_wp2_with fail
    go_ret
    exact ⟨_, rfl, HO2.out, HB2.out⟩
end Go.Proofs.Ythfljbbigpophaa.Row
/- Contracts of CompareNames and EqualNames, the program's and the reference model's, and of the library's Compare and Equal on slices of strings: parts are compared one by one, byte by byte, then the lengths. No conditions but that lengths fit. -/
namespace Go.Proofs.Ythfljbbigpophaa.Row
open Go.ChangeShapes Go.WideShapes Go.ChangeAt Go.RowKit Go.Instr
set_option linter.unusedVariables false
set_option maxRecDepth 100000
def cmpS (a b : ByteArray) : Int := if Op.bytesLess a.toList b.toList = true then -1 else if a.toList = b.toList then 0 else 1
theorem cmpS_lt {a b : ByteArray} (h : Op.bytesLess a.toList b.toList = true) : cmpS a b = -1 := by simp [cmpS, h]
theorem cmpS_eq {a b : ByteArray} (h : Op.bytesLess a.toList b.toList = false) (he : (a.toList == b.toList) = true) : cmpS a b = 0 := by
  have : a.toList = b.toList := by simpa using he
  rw [cmpS, h, this]; simp
theorem cmpS_gt {a b : ByteArray} (h : Op.bytesLess a.toList b.toList = false) (he : (a.toList == b.toList) = false) : cmpS a b = 1 := by
  have : a.toList ≠ b.toList := by simpa using he
  simp [cmpS, h, this]
theorem cmpS_in (a b : ByteArray) : -1 ≤ cmpS a b ∧ cmpS a b ≤ 1 := by
  unfold cmpS; split
  · omega
  · split <;> omega
def cmpL : List ByteArray → List ByteArray → Int
  | [], [] => 0
  | [], _ :: _ => -1
  | _ :: _, [] => 1
  | a :: x, b :: y => if cmpS a b = 0 then cmpL x y else cmpS a b
theorem drop_nth {α : Type} [Inhabited α] {l : List α} {k : Nat} (h : k < l.length) : l.drop k = nth l k :: l.drop (k + 1) := by
  rw [nth_eq h]; exact List.drop_eq_getElem_cons h
theorem cmpL_same {a b : List ByteArray} {k : Nat} (h : k < a.length) (g : k < b.length) (hc : cmpS (nth a k) (nth b k) = 0) : cmpL (a.drop k) (b.drop k) = cmpL (a.drop (k + 1)) (b.drop (k + 1)) := by
  rw [drop_nth h, drop_nth g]; simp [cmpL, hc]
theorem cmpL_diff {a b : List ByteArray} {k : Nat} (h : k < a.length) (g : k < b.length) (hc : cmpS (nth a k) (nth b k) ≠ 0) : cmpL (a.drop k) (b.drop k) = cmpS (nth a k) (nth b k) := by
  rw [drop_nth h, drop_nth g]; simp [cmpL, hc]
theorem cmpL_long {a b : List ByteArray} {k : Nat} (h : k < a.length) (g : k = b.length) : cmpL (a.drop k) (b.drop k) = 1 := by
  rw [drop_nth h, g, List.drop_length]; rfl
theorem cmpL_short {a b : List ByteArray} {k : Nat} (h : k = a.length) (g : k < b.length) : cmpL (a.drop k) (b.drop k) = -1 := by
  rw [drop_nth g, h, List.drop_length]; rfl
theorem cmpL_both {a b : List ByteArray} {k : Nat} (h : k = a.length) (g : k = b.length) : cmpL (a.drop k) (b.drop k) = 0 := by
  rw [h, List.drop_length, ← h, g, List.drop_length]; rfl
set_option maxHeartbeats 1000000 in
theorem l4Cmp (a b : ByteArray) (w : World) : Calls Try.prog 109 #[.string a, .string b] w fun e w' => e = .returned (.int .i64 (cmpS a b)) ∧ w = w' := by
  cases h : Op.bytesLess a.toList b.toList with
  | true =>
    have HC := Lib.hid (cmpS_lt h)
    go_enter Try.func109, Try.ntmps109
    go_wp2
    go_ret
    exact ⟨ret_int HC.out.symm, rfl⟩
  | false =>
    cases he : (a.toList == b.toList) with
    | true =>
      have HC := Lib.hid (cmpS_eq h he)
      go_enter Try.func109, Try.ntmps109
      go_wp2
      go_ret
      exact ⟨ret_int HC.out.symm, rfl⟩
    | false =>
      have HC := Lib.hid (cmpS_gt h he)
      go_enter Try.func109, Try.ntmps109
      go_wp2
      go_ret
      exact ⟨ret_int HC.out.symm, rfl⟩
theorem quiet_add_left {P : Program} {f : FuncId} {args : Array Value} {w : World} {a n : Nat} {v : Value}
    (h : Calls P f args (w.drewN (a + n)) fun e w' => e = .returned v ∧ w.drewN (a + n) = w') :
    Calls P f args (w.drewN (a + n)) fun e w'' => e = .returned v ∧ ∃ m, w'' = w.drewN (a + m) :=
  h.mono fun _ _ ⟨he, hm⟩ => ⟨he, n, hm.symm⟩
theorem quiet_left {P : Program} {f : FuncId} {args : Array Value} {w : World} {n : Nat} {v : Value}
    (h : Calls P f args (w.drewN n) fun e w' => e = .returned v ∧ w.drewN n = w') : Calls P f args (w.drewN n) fun e w'' => e = .returned v ∧ ∃ m, w'' = w.drewN m :=
  h.mono fun _ _ ⟨he, hm⟩ => ⟨he, n, hm.symm⟩
theorem l4CmpV (a b : ByteArray) (c : Int) (w : World) (h : cmpS a b = c) : Calls Try.prog 109 #[.string a, .string b] w fun e w' => e = .returned (.int .i64 c) ∧ w = w' := h ▸ l4Cmp a b w
set_option maxHeartbeats 1000000 in
theorem specCompareNames (v u : Value) (l m : List ByteArray) (w : World) (h : Holds Value.string w v l) (g : Holds Value.string w u m) (hl : l.length ≤ 140737488351232) (hm : m.length ≤ 140737488351232) :
    Calls Try.prog 99 #[.agg #[v], .agg #[u]] w fun e w' => e = .returned (.int .i64 (cmpL l m)) ∧ Below w.heap.size w w' := by
  obtain ⟨x, cx, rfl, hcx, hh⟩ := h.shape
  obtain ⟨y, cy, rfl, hcy, hg⟩ := g.shape
  obtain ⟨n, hn⟩ : ∃ n, n = l.length := ⟨_, rfl⟩
  obtain ⟨q, hq⟩ : ∃ q, q = m.length := ⟨_, rfl⟩
  rw [← hn] at hcx hh hl ⊢
  rw [← hq] at hcy hg hm ⊢
  have HB := Lib.hid (((Below.refl w.heap.size w).alloc (Nat.le_refl _) (.cells #[.slice x n cx] 44)).alloc (Nat.le_trans (Nat.le_refl _) (by simp)) (.cells #[.slice y q cy] 44))
  have HN := Lib.hid hn; have HQ := Lib.hid hq; have HH := Lib.hid (hh.on HB.out); have HG := Lib.hid (hg.on HB.out)
  clear hn hq h hh g hg
  go_enter Try.func99, Try.ntmps99
  go_wp2_with fail
  go_loopw [5] (fun i wr => ∃ k nq : Nat, k ≤ n ∧ k ≤ q ∧ i = .int .i64 k ∧ wr = ((w.alloc (.cells #[.slice x n cx] 44)).alloc (.cells #[.slice y q cy] 44)).drewN nq ∧ Hid (cmpL l m = cmpL (l.drop k) (m.drop k))) (fun i _ => n - (intOf i).toNat)
  case atStart => exact ⟨0, 0, Nat.zero_le _, Nat.zero_le _, rfl, rfl, Lib.hid (by simp)⟩
  case round =>
    obtain ⟨k, nq, hk, hkq, rfl, rfl, hc⟩ := hrel
    by_cases hlt : k < n
    · have hlen := HN.out
      by_cases hlq : k < q
      · have hlen2 := HQ.out
        obtain ⟨b, off, rfl, hcx1⟩ := HH.out.at (j := k) (by omega)
        obtain ⟨b', off', rfl, hcy1⟩ := HG.out.at (j := k) (by omega)
        by_cases hd : cmpS (nth l k) (nth m k) = 0
        · have HC := Lib.hid (hc.out.trans (cmpL_same (by omega) (by omega) hd))
          have HD := Lib.hid hd
          clear hlen hlen2 hd
          go_wp2_with fail
          go_quiet ((go_at_call 109; first | exact quiet_add_left (l4CmpV _ _ 0 _ HD.out) | exact quiet_left (l4CmpV _ _ 0 _ HD.out)))
          go_wp2_with fail
          go_roundw
          case rel => exact ⟨k + 1, _, by omega, by omega, by go_num, rfl, HC⟩
          case measure => simp [intOf]; omega
        · have HC := Lib.hid (hc.out.trans (cmpL_diff (by omega) (by omega) hd))
          obtain ⟨c, hce⟩ : ∃ c, c = cmpS (nth l k) (nth m k) := ⟨_, rfl⟩
          have HE := Lib.hid hce
          rw [← hce] at hd
          have hd2 : (c != 0) = true := by simpa using hd
          have hcin := cmpS_in (nth l k) (nth m k)
          rw [← hce] at hcin
          obtain ⟨hc1, hc2⟩ := hcin
          clear hlen hlen2 hd hce
          go_wp2_with fail
          go_quiet ((go_at_call 109; first | exact quiet_add_left (l4CmpV _ _ c _ HE.out.symm) | exact quiet_left (l4CmpV _ _ c _ HE.out.symm)))
          go_wp2_with fail
          go_ret
          exact ⟨ret_int (HE.out.trans HC.out.symm), below_drewN HB.out _⟩
      · obtain rfl : k = q := by omega
        have HC := Lib.hid (hc.out.trans (cmpL_long (by omega) HQ.out))
        clear hlen
        go_wp2
        go_ret
        exact ⟨ret_int HC.out.symm, below_drewN HB.out _⟩
    · obtain rfl : k = n := by omega
      by_cases hlq : k < q
      · have HC := Lib.hid (hc.out.trans (cmpL_short HN.out (by have := HQ.out; omega)))
        go_wp2
        go_ret
        exact ⟨ret_int HC.out.symm, below_drewN HB.out _⟩
      · obtain rfl : k = q := by omega
        have HC := Lib.hid (hc.out.trans (cmpL_both HN.out HQ.out))
        go_wp2
        go_ret
        exact ⟨ret_int HC.out.symm, below_drewN HB.out _⟩
end Go.Proofs.Ythfljbbigpophaa.Row
/- Contracts of the integer functions of chapter 1 (without the texts): each returns the plain integer that its definition below says. The functions that only compute leave the world alone; Min and Max make one new block. No conditions but that the arguments fit their kind where sums are formed. -/
namespace Go.Proofs.Ythfljbbigpophaa.Num
open Go.ChangeShapes Go.WideShapes Go.ChangeAt Go.RowKit
set_option linter.unusedVariables false
set_option maxRecDepth 100000
def inB (n a b : Int) : Bool := decide (a ≤ n ∧ n ≤ b)
theorem inB_true {n a b : Int} (h1 : a ≤ n) (h2 : n ≤ b) : inB n a b = true := by simp [inB, h1, h2]
theorem inB_false1 {n a b : Int} (h1 : ¬ a ≤ n) : inB n a b = false := by simp [inB, h1]
theorem inB_false2 {n a b : Int} (h2 : ¬ n ≤ b) : inB n a b = false := by simp [inB, h2]
theorem implInRange (n a b : Int) (w : World) :
    Calls Try.prog 45 #[.int .i64 n, .int .i64 a, .int .i64 b] w fun e w' => e = .returned (.bool (inB n a b)) ∧ w = w' := by
  by_cases h1 : a ≤ n
  · by_cases h2 : n ≤ b
    · rw [inB_true h1 h2]
      go_enter Try.func45, Try.ntmps45
      go_wp2
      go_ret
      exact ⟨rfl, rfl⟩
    · rw [inB_false2 h2]
      go_enter Try.func45, Try.ntmps45
      go_wp2
      go_ret
      exact ⟨rfl, rfl⟩
  · rw [inB_false1 h1]
    go_enter Try.func45, Try.ntmps45
    go_wp2
    go_ret
    exact ⟨rfl, rfl⟩
theorem specIn (n a b : Int) (w : World) :
    Calls Try.prog 44 #[.int .i64 n, .int .i64 a, .int .i64 b] w fun e w' => e = .returned (.bool (inB n a b)) ∧ w = w' := by
  by_cases h1 : a ≤ n
  · by_cases h2 : n ≤ b
    · rw [inB_true h1 h2]
      go_enter Try.func44, Try.ntmps44
      go_wp2
      go_ret
      exact ⟨rfl, rfl⟩
    · rw [inB_false2 h2]
      go_enter Try.func44, Try.ntmps44
      go_wp2
      go_ret
      exact ⟨rfl, rfl⟩
  · rw [inB_false1 h1]
    go_enter Try.func44, Try.ntmps44
    go_wp2
    go_ret
    exact ⟨rfl, rfl⟩
theorem specIn_true {n a b : Int} (h1 : a ≤ n) (h2 : n ≤ b) (w : World) :
    Calls Try.prog 44 #[.int .i64 n, .int .i64 a, .int .i64 b] w fun e w' => e = .returned (.bool true) ∧ w = w' := by
  have := specIn n a b w
  rwa [inB_true h1 h2] at this
theorem specIn_false {n a b : Int} (h : ¬ (a ≤ n ∧ n ≤ b)) (w : World) :
    Calls Try.prog 44 #[.int .i64 n, .int .i64 a, .int .i64 b] w fun e w' => e = .returned (.bool false) ∧ w = w' := by
  have := specIn n a b w
  have e : inB n a b = false := by simpa [inB] using h
  rwa [e] at this
theorem implIn_true {n a b : Int} (h1 : a ≤ n) (h2 : n ≤ b) (w : World) :
    Calls Try.prog 45 #[.int .i64 n, .int .i64 a, .int .i64 b] w fun e w' => e = .returned (.bool true) ∧ w = w' := by
  have := implInRange n a b w
  rwa [inB_true h1 h2] at this
theorem implIn_false {n a b : Int} (h : ¬ (a ≤ n ∧ n ≤ b)) (w : World) :
    Calls Try.prog 45 #[.int .i64 n, .int .i64 a, .int .i64 b] w fun e w' => e = .returned (.bool false) ∧ w = w' := by
  have := implInRange n a b w
  have e : inB n a b = false := by simpa [inB] using h
  rwa [e] at this
def minI (a b : Int) : Int := if b < a then b else a
def maxI (a b : Int) : Int := if a < b then b else a
def ceilI (a b : Int) : Int := if 0 ≤ a ∧ a ≤ 1000000000000 ∧ 1 ≤ b ∧ b ≤ 1000000000000 then (a + b - 1) / b else 0
def modI (n m : Int) : Int := if 1 ≤ m ∧ m ≤ 1000000000000 then n % m else 0
end Go.Proofs.Ythfljbbigpophaa.Num
/- Contracts of Truncate, EqualNames and HasPrefix, the program's and the reference model's. No conditions but that lengths fit. -/
namespace Go.Proofs.Ythfljbbigpophaa.Row
open Go.ChangeShapes Go.WideShapes Go.ChangeAt Go.RowKit Go.Instr
set_option linter.unusedVariables false
set_option maxRecDepth 100000
section
variable {α : Type} [Inhabited α] {enc : α → Value} {w : World} {x : Option Addr} {n cap : Nat} {l : List α}
theorem Holds.take (h : Holds enc w (.slice x n cap) l) {j : Nat} (hj : j ≤ l.length) : Holds enc w (.slice x j cap) (l.take j) := by
  obtain ⟨x', cap', hv, hc, hh⟩ := h
  cases hv
  have hl : (l.take j).length = j := by simp; omega
  refine ⟨x, cap, by rw [hl], by omega, ?_⟩
  rcases hh with rfl | ⟨b, off, hx, hh⟩
  · left; simp
  · refine Or.inr ⟨b, off, hx, fun i hi => ?_⟩
    rw [hl] at hi
    rw [hh i (by omega), nth_eq (by omega), nth_eq (by omega)]
    simp
theorem Holds.drop {b off : Nat} (h : Holds enc w (.slice (some ⟨b, off, none⟩) n cap) l) {j : Nat} (hj : j ≤ l.length) : Holds enc w (.slice (some ⟨b, off + j, none⟩) (n - j) (cap - j)) (l.drop j) := by
  obtain ⟨x', cap', hv, hc, hh⟩ := h
  cases hv
  have hl : (l.drop j).length = l.length - j := by simp
  refine ⟨_, cap - j, by rw [hl], by omega, ?_⟩
  rcases hh with rfl | ⟨b', off', hx, hh⟩
  · left; simp
  · cases hx
    refine Or.inr ⟨b, off + j, rfl, fun i hi => ?_⟩
    rw [hl] at hi
    rw [Nat.add_assoc, hh (j + i) (by omega), nth_eq (by omega), nth_eq (by omega)]
    simp
end
def GivesN (w : World) (l : List ByteArray) (e : Ending) (w' : World) : Prop := ∃ v, e = .returned (.agg #[v]) ∧ Own 9 Value.string w.heap.size w' v l ∧ Below w.heap.size w w'
def GivesNB (w : World) (l : List ByteArray) (b : Bool) (e : Ending) (w' : World) : Prop := ∃ v, e = .returned (.tuple #[.agg #[v], .bool b]) ∧ Own 9 Value.string w.heap.size w' v l ∧ Below w.heap.size w w'
def GivesHB (w : World) (l : List ByteArray) (b : Bool) (e : Ending) (w' : World) : Prop := ∃ v, e = .returned (.tuple #[.agg #[v], .bool b]) ∧ Holds Value.string w' v l ∧ Below w.heap.size w w'
def trI (l : List ByteArray) (k : Int) : Nat := (Num.maxI 0 (Num.minI k l.length)).toNat
def trN (l : List ByteArray) (k : Int) : List ByteArray := l.take (trI l k)
theorem aggN : Ret.AggOf Try.prog 44 1 := by unfold Ret.AggOf; exact ⟨by kernel_rfl, by kernel_rfl⟩
theorem endN {w w1 : World} {g B : Nat} {v u : Value} {l : List ByteArray} (hw : w.heap.size ≤ g) (hgB : g < B) (ho : Own 9 Value.string B w1 v l) (hc : w1.cell? ⟨g, 0, none⟩ = some u) (hb : Below w.heap.size w w1) :
    (w1.setCell ⟨g, 0, none⟩ v).cell? ⟨g, 0, none⟩ = some v ∧ Own 9 Value.string w.heap.size (w1.setCell ⟨g, 0, none⟩ v) v l ∧ Below w.heap.size w (w1.setCell ⟨g, 0, none⟩ v) :=
  ⟨Ret.set_same hc, (ho.grown (Ret.grownBy_set w1 ⟨g, 0, none⟩ v) (nb ho hgB)).mono (by omega), hb.setCell hw _⟩
end Go.Proofs.Ythfljbbigpophaa.Row
/- Contracts of EqualNames and HasPrefix, the program's and the reference model's. No conditions but that lengths fit. -/
namespace Go.Proofs.Ythfljbbigpophaa.Row
open Go.ChangeShapes Go.WideShapes Go.ChangeAt Go.RowKit Go.Instr
set_option linter.unusedVariables false
set_option maxRecDepth 100000
theorem less_irrefl : ∀ l : List UInt8, Op.bytesLess l l = false
  | [] => rfl
  | a :: x => by
    rw [Op.bytesLess, less_irrefl x]
    have : decide (a < a) = false := by simp
    simp
theorem cmpS_zero {a b : ByteArray} : cmpS a b = 0 ↔ a = b := by
  constructor
  · intro h
    unfold cmpS at h
    split at h
    · omega
    · split at h
      · rename_i _ h2; exact toList_inj h2
      · omega
  · rintro rfl
    unfold cmpS
    rw [less_irrefl]; simp
theorem cmpL_zero : ∀ {l m : List ByteArray}, cmpL l m = 0 ↔ l = m
  | [], [] => by simp [cmpL]
  | [], _ :: _ => by simp [cmpL]
  | _ :: _, [] => by simp [cmpL]
  | a :: x, b :: y => by
    unfold cmpL
    by_cases h : cmpS a b = 0
    · rw [if_pos h, cmpL_zero, cmpS_zero.1 h]; simp
    · rw [if_neg h]
      have : a ≠ b := fun e => h (cmpS_zero.2 e)
      constructor
      · intro e; exact absurd e h
      · intro e; cases e; exact absurd rfl this
theorem eqB_cmp (l m : List ByteArray) : eqB l m = (cmpL l m == 0) := by
  unfold eqB
  by_cases h : l = m
  · have := cmpL_zero.2 h
    simp [h, cmpL_zero.2]
  · have h2 : cmpL l m ≠ 0 := fun e => h (cmpL_zero.1 e)
    simp [h, h2]
set_option maxHeartbeats 1000000 in
theorem implEqualNames (v u : Value) (l m : List ByteArray) (w : World) (h : Holds Value.string w v l) (g : Holds Value.string w u m) (hl : l.length ≤ 140737488351232) (hm : m.length ≤ 140737488351232) :
    Calls Try.prog 74 #[.agg #[v], .agg #[u]] w fun e w' => e = .returned (.bool (eqB l m)) ∧ Below w.heap.size w w' := by
  obtain ⟨x, cx, rfl, hcx, hh⟩ := h.shape
  obtain ⟨y, cy, rfl, hcy, hg⟩ := g.shape
  have HH := Lib.hid hh; have HG := Lib.hid hg
  clear hh h hg g
  go_enter Try.func74, Try.ntmps74
  go_wp2_with fail
  have HB := Lib.hid (((Below.refl w.heap.size w).alloc (Nat.le_refl _) (.cells #[.slice x l.length cx] 44)).alloc (Nat.le_trans (Nat.le_refl _) (by simp)) (.cells #[.slice y m.length cy] 44))
  have HA := Lib.hid (HH.out.on HB.out); have HC := Lib.hid (HG.out.on HB.out)
  refine (libEqS _ _ l m _ HA.out HC.out hl hm).mono ?_
  rintro e w' ⟨rfl, hb⟩
  have HB2 := Lib.hid (HB.out.trans (hb.mono (by simp; omega))); clear hb
  go_wp2
  go_ret
  exact ⟨rfl, HB2.out⟩
set_option maxHeartbeats 1000000 in
theorem specEqualNames (v u : Value) (l m : List ByteArray) (w : World) (h : Holds Value.string w v l) (g : Holds Value.string w u m) (hl : l.length ≤ 140737488351232) (hm : m.length ≤ 140737488351232) :
    Calls Try.prog 69 #[.agg #[v], .agg #[u]] w fun e w' => e = .returned (.bool (eqB l m)) ∧ Below w.heap.size w w' := by
  obtain ⟨x, cx, rfl, hcx, hh⟩ := h.shape
  obtain ⟨y, cy, rfl, hcy, hg⟩ := g.shape
  have HH := Lib.hid hh; have HG := Lib.hid hg
  have HE := Lib.hid (eqB_cmp l m)
  clear hh h hg g
  go_enter Try.func69, Try.ntmps69
  go_wp2_with fail
  have HB := Lib.hid (((Below.refl w.heap.size w).alloc (Nat.le_refl _) (.cells #[.slice x l.length cx] 44)).alloc (Nat.le_trans (Nat.le_refl _) (by simp)) (.cells #[.slice y m.length cy] 44))
  have HA := Lib.hid (HH.out.on HB.out); have HC := Lib.hid (HG.out.on HB.out)
  refine (specCompareNames _ _ l m _ HA.out HC.out hl hm).mono ?_
  rintro e w' ⟨rfl, hb⟩
  have HB2 := Lib.hid (HB.out.trans (hb.mono (by simp; omega))); clear hb
  go_wp2
  go_ret
  exact ⟨ret_bool HE.out.symm, HB2.out⟩
def hpB (l m : List ByteArray) : Bool := decide (m.length ≤ l.length ∧ l.take m.length = m)
end Go.Proofs.Ythfljbbigpophaa.Row
/- Contracts of ValidPart and ValidName, the program's and the reference model's: a part is right where its size is 1 to 8 and each byte is a small letter, a digit or a minus; a name where each part is and there are at most 6. No conditions but that lengths fit. -/
namespace Go.Proofs.Ythfljbbigpophaa.Row
open Go.ChangeShapes Go.WideShapes Go.ChangeAt Go.RowKit Go.Instr
set_option linter.unusedVariables false
set_option maxRecDepth 100000
def okR (r : Int) : Prop := (97 ≤ r ∧ r ≤ 122) ∨ (48 ≤ r ∧ r ≤ 57) ∨ r = 45
instance (r : Int) : Decidable (okR r) := by unfold okR; infer_instance
def okTo (s : ByteArray) (k : Nat) : Prop := ∀ j (h : j < s.size), j < k → okR ((s[j]'h).toNat : Int)
instance (s : ByteArray) (k : Nat) : Decidable (okTo s k) := by unfold okTo; infer_instance
def validP (s : ByteArray) : Bool := decide (1 ≤ s.size ∧ s.size ≤ 8 ∧ okTo s s.size)
theorem okTo_zero (s : ByteArray) : okTo s 0 := fun j h h2 => absurd h2 (by omega)
theorem okTo_succ {s : ByteArray} {k : Nat} (h : okTo s k) (hk : k < s.size) (hc : okR ((s[k]'hk).toNat : Int)) : okTo s (k + 1) := fun j h1 h2 => by
  by_cases e : j = k
  · subst e; exact hc
  · exact h j h1 (by omega)
theorem validP_true {s : ByteArray} (h1 : 1 ≤ s.size) (h2 : s.size ≤ 8) (h : okTo s s.size) : validP s = true := by simp [validP, h1, h2, h]
theorem validP_size {s : ByteArray} (h : ¬ (1 ≤ s.size ∧ s.size ≤ 8)) : validP s = false := by
  unfold validP; exact decide_eq_false (fun e => h ⟨e.1, e.2.1⟩)
theorem validP_byte {s : ByteArray} {k : Nat} (hk : k < s.size) (hc : ¬ okR ((s[k]'hk).toNat : Int)) : validP s = false := by
  unfold validP; exact decide_eq_false (fun e => hc (e.2.2 k hk hk))
theorem rune_ok {s : ByteArray} {pos : Nat} (h : pos < s.size) (hr : okR ((Utf8.decode s pos).1 : Int)) : okR ((s[pos]'h).toNat : Int) ∧ (Utf8.decode s pos).2 = 1 := by
  by_cases ha : (s[pos]'h).toNat < 128
  · rw [decode_ascii s pos h ha] at hr ⊢
    exact ⟨hr, rfl⟩
  · have := (decode_high s pos h (by omega)).1
    unfold okR at hr; omega
theorem rune_not {s : ByteArray} {pos : Nat} (h : pos < s.size) (hr : ¬ okR ((Utf8.decode s pos).1 : Int)) : ¬ okR ((s[pos]'h).toNat : Int) := by
  by_cases ha : (s[pos]'h).toNat < 128
  · rwa [decode_ascii s pos h ha] at hr
  · unfold okR; omega
set_option maxHeartbeats 1000000 in
theorem isPartRune (r : Int) (w : World) : Calls Try.prog 113 #[.int .i32 r] w fun e w' => e = .returned (.bool (decide (okR r))) ∧ w = w' := by
  have HT := fun (h : okR r) => (decide_eq_true h).symm
  have HF := fun (h : ¬ okR r) => (decide_eq_false h).symm
  have HT := Lib.hid HT; have HF := Lib.hid HF
  by_cases h1 : 97 ≤ r ∧ r ≤ 122
  · obtain ⟨h1a, h1b⟩ := h1
    go_enter Try.func113, Try.ntmps113
    go_wp2
    go_ret
    exact ⟨ret_bool (HT.out (by unfold okR; omega)), rfl⟩
  · by_cases h2 : 48 ≤ r ∧ r ≤ 57
    · obtain ⟨h2a, h2b⟩ := h2
      have h1a : ¬ 97 ≤ r := by omega
      go_enter Try.func113, Try.ntmps113
      go_wp2
      go_ret
      exact ⟨ret_bool (HT.out (by unfold okR; omega)), rfl⟩
    · by_cases h3 : r = 45
      · subst h3
        go_enter Try.func113, Try.ntmps113
        go_wp2
        go_ret
        exact ⟨ret_bool (HT.out (by unfold okR; omega)), rfl⟩
      · have HF2 := Lib.hid (HF.out (by unfold okR; omega))
        have h3b : (r == 45) = false := by simpa using h3
        clear h3 HF HT
        by_cases h1a : 97 ≤ r
        · have h1b : ¬ r ≤ 122 := by omega
          have h2b : ¬ r ≤ 57 := by omega
          clear h1 h2
          go_enter Try.func113, Try.ntmps113
          go_wp2
          go_ret
          exact ⟨ret_bool HF2.out, rfl⟩
        · clear h1
          by_cases h2a : 48 ≤ r
          · have h2b : ¬ r ≤ 57 := by omega
            clear h2
            go_enter Try.func113, Try.ntmps113
            go_wp2
            go_ret
            exact ⟨ret_bool HF2.out, rfl⟩
          · clear h2
            go_enter Try.func113, Try.ntmps113
            go_wp2
            go_ret
            exact ⟨ret_bool HF2.out, rfl⟩
set_option maxHeartbeats 1000000 in
theorem implValidPart (s : ByteArray) (w : World) (hl : s.size ≤ 140737488351232) :
    Calls Try.prog 108 #[.string s] w fun e w' => e = .returned (.bool (validP s)) ∧ Below w.heap.size w w' := by
  go_enter Try.func108, Try.ntmps108
  go_wp2
  go_loopw [] (fun w' => ∃ pos : Nat, pos ≤ s.size ∧ w' = w.iter s pos ∧ Hid (okTo s pos)) (fun w' => s.size - w'.iterPos w.heap.size)
  case atStart => exact ⟨0, by omega, rfl, Lib.hid (okTo_zero s)⟩
  case round =>
    obtain ⟨pos, hpl, rfl, ho⟩ := hrel
    by_cases hp : pos < s.size
    · have hnx : ∀ ty, (Instr.next (.pointer (some ⟨w.heap.size, 0, none⟩)) true ty).run Try.prog (w.iter s pos) = _ := fun ty => run_next_any w s pos ty hp
      by_cases hr : okR ((Utf8.decode s pos).1 : Int)
      · obtain ⟨h1, h2⟩ := rune_ok hp hr
        have HO := Lib.hid (okTo_succ ho.out hp h1)
        have HR := Lib.hid (decide_eq_true hr)
        rw [h2] at hnx
        clear hr h1 h2
        go_wp2_with fail
        refine (isPartRune _ _).mono ?_
        rintro e w2 ⟨rfl, rfl⟩
        rw [HR.out]
        go_wp2
        go_roundw
        case rel => exact ⟨pos + 1, by omega, rfl, HO⟩
        case measure => simp; omega
      · have HV := Lib.hid (validP_byte hp (rune_not hp hr))
        have HR := Lib.hid (decide_eq_false hr)
        clear hr
        go_wp2_with fail
        refine (isPartRune _ _).mono ?_
        rintro e w2 ⟨rfl, rfl⟩
        rw [HR.out]
        go_wp2
        go_ret
        exact ⟨ret_bool HV.out.symm, (Below.refl _ _).alloc (Nat.le_refl _) _⟩
    · obtain rfl : pos = s.size := by omega
      have hnx : ∀ ty, (Instr.next (.pointer (some ⟨w.heap.size, 0, none⟩)) true ty).run Try.prog (w.iter s s.size) = _ := fun ty => run_next_end w s s.size ty hp
      go_wp2_with fail
      refine (Num.implInRange _ _ _ _).mono ?_
      rintro e w2 ⟨rfl, rfl⟩
      go_wp2
      go_ret
      refine ⟨ret_bool ?_, (Below.refl _ _).alloc (Nat.le_refl _) _⟩
      have := ho.out
      simp only [Num.inB, validP, this, and_true]
      congr 1
      apply propext
      omega
set_option maxHeartbeats 1000000 in
theorem specValidPart (s : ByteArray) (w : World) (hl : s.size ≤ 140737488351232) :
    Calls Try.prog 107 #[.string s] w fun e w' => e = .returned (.bool (validP s)) ∧ w = w' := by
  by_cases hsz : 1 ≤ s.size ∧ s.size ≤ 8
  · obtain ⟨hs1, hs8⟩ := hsz
    go_enter Try.func107, Try.ntmps107
    go_wp2_with fail
    refine (Num.specIn_true (by omega) (by omega) _).mono ?_
    rintro e w2 ⟨rfl, rfl⟩
    go_wp2
    go_loop [3] (fun iv => ∃ k : Nat, k ≤ s.size ∧ iv = .int .i64 k ∧ Hid (okTo s k)) (fun iv => s.size - (intOf iv).toNat)
    case atStart => exact ⟨0, by omega, rfl, Lib.hid (okTo_zero s)⟩
    case round =>
      obtain ⟨k, hk, rfl, ho⟩ := hrel
      by_cases hlt : k < s.size
      · have hb := (s[k]'hlt).toNat_lt
        have hb0 : (0 : Int) ≤ ((s[k]'hlt).toNat : Int) := by omega
        have hb1 : ((s[k]'hlt).toNat : Int) ≤ 255 := by omega
        have HOK := Lib.hid (fun hc => okTo_succ ho.out hlt hc)
        have HNO := Lib.hid (fun hc => validP_byte hlt hc)
        clear hb
        go_wp2_with fail
        by_cases h1 : 97 ≤ ((s[k]'hlt).toNat : Int) ∧ ((s[k]'hlt).toNat : Int) ≤ 122
        · refine (Num.specIn_true h1.1 h1.2 _).mono ?_
          rintro e w2 ⟨rfl, rfl⟩
          have HO2 := Lib.hid (HOK.out (by unfold okR; omega))
          clear HOK HNO h1
          go_wp2
          go_round
          case rel => exact ⟨k + 1, by omega, by go_num, HO2⟩
          case measure => simp [intOf]; omega
        · refine (Num.specIn_false h1 _).mono ?_
          rintro e w2 ⟨rfl, rfl⟩
          go_wp2_with fail
          by_cases h2 : 48 ≤ ((s[k]'hlt).toNat : Int) ∧ ((s[k]'hlt).toNat : Int) ≤ 57
          · refine (Num.specIn_true h2.1 h2.2 _).mono ?_
            rintro e w2 ⟨rfl, rfl⟩
            have HO2 := Lib.hid (HOK.out (by unfold okR; omega))
            clear HOK HNO h1 h2
            go_wp2
            go_round
            case rel => exact ⟨k + 1, by omega, by go_num, HO2⟩
            case measure => simp [intOf]; omega
          · refine (Num.specIn_false h2 _).mono ?_
            rintro e w2 ⟨rfl, rfl⟩
            by_cases h3 : (s[k]'hlt).toNat = 45
            · have h3b : (((s[k]'hlt).toNat : Int) != 45) = false := by simp [h3]
              have HO2 := Lib.hid (HOK.out (by unfold okR; omega))
              clear HOK HNO h1 h2
              go_wp2
              go_round
              case rel => exact ⟨k + 1, by omega, by go_num, HO2⟩
              case measure => simp [intOf]; omega
            · have h3b : (((s[k]'hlt).toNat : Int) != 45) = true := by simp; omega
              have HV := Lib.hid (HNO.out (by unfold okR; omega))
              clear HOK HNO h1 h2 h3
              go_wp2
              go_ret
              exact ⟨ret_bool HV.out.symm, rfl⟩
      · obtain rfl : k = s.size := by omega
        have HV := Lib.hid (validP_true hs1 hs8 ho.out)
        go_wp2
        go_ret
        exact ⟨ret_bool HV.out.symm, rfl⟩
  · have HV := Lib.hid (validP_size hsz)
    go_enter Try.func107, Try.ntmps107
    go_wp2_with fail
    refine (Num.specIn_false (by omega) _).mono ?_
    rintro e w2 ⟨rfl, rfl⟩
    go_wp2
    go_ret
    exact ⟨ret_bool HV.out.symm, rfl⟩
end Go.Proofs.Ythfljbbigpophaa.Row
/- Contracts of ValidName, the program's and the reference model's: a name is right where each part is and there are at most 6. No conditions but that lengths fit. -/
namespace Go.Proofs.Ythfljbbigpophaa.Row
open Go.ChangeShapes Go.WideShapes Go.ChangeAt Go.RowKit Go.Instr
set_option linter.unusedVariables false
set_option maxRecDepth 100000
def validN (l : List ByteArray) : Bool := decide (l.length ≤ 6 ∧ ∀ x ∈ l, validP x = true)
def allV (l : List ByteArray) (k : Nat) : Prop := ∀ j, j < k → validP (nth l j) = true
theorem allV_zero (l : List ByteArray) : allV l 0 := fun j h => absurd h (by omega)
theorem allV_succ {l : List ByteArray} {k : Nat} (h : allV l k) (hc : validP (nth l k) = true) : allV l (k + 1) := fun j h1 => by
  by_cases e : j = k
  · subst e; exact hc
  · exact h j (by omega)
theorem validN_not {l : List ByteArray} {k : Nat} (hk : k < l.length) (hc : validP (nth l k) = false) : validN l = false := by
  unfold validN
  refine decide_eq_false (fun e => ?_)
  have := e.2 (nth l k) (by rw [nth_eq hk]; exact List.getElem_mem _)
  rw [hc] at this; cases this
theorem validN_all {l : List ByteArray} (h : allV l l.length) : validN l = decide (l.length ≤ 6) := by
  have : ∀ x ∈ l, validP x = true := by
    intro x hx
    obtain ⟨j, hj, rfl⟩ := List.getElem_of_mem hx
    have := h j hj
    rwa [nth_eq hj] at this
  unfold validN
  congr 1
  exact propext ⟨fun e => e.1, fun e => ⟨e, this⟩⟩
theorem size_nth {l : List ByteArray} {m : Nat} (h : bulk l ≤ m) {k : Nat} (hk : k < l.length) : (nth l k).size ≤ m := by
  have h1 := bulkTo_succ l hk
  have h2 := bulkTo_le l (k + 1)
  omega
set_option maxHeartbeats 1000000 in
theorem implValidName (v : Value) (l : List ByteArray) (w : World) (h : Holds Value.string w v l) (hl : bulk l ≤ 100000000) :
    Calls Try.prog 93 #[.agg #[v]] w fun e w' => e = .returned (.bool (validN l)) ∧ Below w.heap.size w w' := by
  obtain ⟨x, cap, rfl, hcap, hh⟩ := h.shape
  have hll := bigLen hl
  have HS := Lib.hid (fun k (hk : k < l.length) => size_nth hl hk)
  obtain ⟨n, hn⟩ : ∃ n, n = l.length := ⟨_, rfl⟩
  rw [← hn] at hcap hh hll ⊢
  have HN := Lib.hid hn
  have HH := Lib.hid hh
  have HB0 := Lib.hid ((Below.refl w.heap.size w).alloc (Nat.le_refl _) (.cells #[.slice x n cap] 44))
  have HC0 := Lib.hid (Ret.cell_at (w := w) (u := .slice x n cap) (t := 44) (n := w.heap.size) rfl)
  clear hn h hh hl
  go_enter Try.func93, Try.ntmps93
  go_wp2_with fail
  go_loopw [8] (fun i wr => ∃ k : Nat, k ≤ n ∧ i = .int .i64 k ∧ Hid (allV l k) ∧ Hid (Below w.heap.size w wr) ∧ Hid (wr.cell? ⟨w.heap.size, 0, none⟩ = some (.slice x n cap))) (fun i _ => n - (intOf i).toNat)
  case atStart => exact ⟨0, Nat.zero_le _, rfl, Lib.hid (allV_zero _), HB0, HC0⟩
  case round =>
    obtain ⟨k, hk, rfl, ha, hb, hc0⟩ := hrel
    by_cases hlt : k < n
    · have hlen := HN.out
      obtain ⟨b, off, rfl, hc⟩ := (HH.out.on hb.out).at (j := k) (by omega)
      have hsz := HS.out k (by omega)
      clear hlen
      go_wp2_with fail
      refine (implValidPart _ _ (by omega)).mono ?_
      rintro e w2 ⟨rfl, hb2⟩
      have HB2 := Lib.hid (hb.out.trans (hb2.mono hb.out.size))
      have HC2 := Lib.hid ((hb2.cell (cell_lt hc0.out)).trans hc0.out)
      clear hb2 hc
      by_cases hv : validP (nth l k) = true
      · rw [hv]
        have HA2 := Lib.hid (allV_succ ha.out hv)
        clear hv
        go_wp2
        go_roundw
        case rel => exact ⟨k + 1, by omega, by go_num, HA2, HB2, HC2⟩
        case measure => simp [intOf]; omega
      · have hv2 : validP (nth l k) = false := by simpa using hv
        rw [hv2]
        have HV := Lib.hid (validN_not (by have := HN.out; omega) hv2)
        clear hv hv2
        go_wp2
        go_ret
        exact ⟨ret_bool HV.out.symm, HB2.out⟩
    · obtain rfl : k = n := by omega
      have HV := Lib.hid (validN_all (HN.out ▸ ha.out))
      have hc0 := hc0.out
      clear hlt
      go_wp2
      go_ret
      refine ⟨ret_bool ?_, hb.out⟩
      rw [HV.out, ← HN.out]
      simp
      omega
set_option maxHeartbeats 1000000 in
theorem specValidName (v : Value) (l : List ByteArray) (w : World) (h : Holds Value.string w v l) (hl : bulk l ≤ 100000000) :
    Calls Try.prog 89 #[.agg #[v]] w fun e w' => e = .returned (.bool (validN l)) ∧ Below w.heap.size w w' := by
  obtain ⟨x, cap, rfl, hcap, hh⟩ := h.shape
  have hll := bigLen hl
  have HS := Lib.hid (fun k (hk : k < l.length) => size_nth hl hk)
  obtain ⟨n, hn⟩ : ∃ n, n = l.length := ⟨_, rfl⟩
  rw [← hn] at hcap hh hll ⊢
  have HN := Lib.hid hn
  have HH := Lib.hid hh
  have HB0 := Lib.hid ((Below.refl w.heap.size w).alloc (Nat.le_refl _) (.cells #[.slice x n cap] 44))
  have HC0 := Lib.hid (Ret.cell_at (w := w) (u := .slice x n cap) (t := 44) (n := w.heap.size) rfl)
  clear hn h hh hl
  go_enter Try.func89, Try.ntmps89
  go_wp2_with fail
  go_loopw [3] (fun i wr => ∃ k : Nat, k ≤ n ∧ i = .int .i64 k ∧ Hid (allV l k) ∧ Hid (Below w.heap.size w wr) ∧ Hid (wr.cell? ⟨w.heap.size, 0, none⟩ = some (.slice x n cap))) (fun i _ => n - (intOf i).toNat)
  case atStart => exact ⟨0, Nat.zero_le _, rfl, Lib.hid (allV_zero _), HB0, HC0⟩
  case round =>
    obtain ⟨k, hk, rfl, ha, hb, hc0⟩ := hrel
    by_cases hlt : k < n
    · have hlen := HN.out
      obtain ⟨b, off, rfl, hc⟩ := (HH.out.on hb.out).at (j := k) (by omega)
      have hsz := HS.out k (by omega)
      have hc1 := hc0.out
      clear hlen
      go_wp2_with fail
      refine (specValidPart _ _ (by omega)).mono ?_
      rintro e w2 ⟨rfl, rfl⟩
      clear hc
      by_cases hv : validP (nth l k) = true
      · rw [hv]
        have HA2 := Lib.hid (allV_succ ha.out hv)
        clear hv
        go_wp2
        go_roundw
        case rel => exact ⟨k + 1, by omega, by go_num, HA2, hb, hc0⟩
        case measure => simp [intOf]; omega
      · have hv2 : validP (nth l k) = false := by simpa using hv
        rw [hv2]
        have HV := Lib.hid (validN_not (by have := HN.out; omega) hv2)
        clear hv hv2
        go_wp2
        go_ret
        exact ⟨ret_bool HV.out.symm, hb.out⟩
    · obtain rfl : k = n := by omega
      have HV := Lib.hid (validN_all (HN.out ▸ ha.out))
      have hc0 := hc0.out
      clear hlt
      go_wp2
      go_ret
      refine ⟨ret_bool ?_, hb.out⟩
      rw [HV.out, ← HN.out]
      simp
      omega
end Go.Proofs.Ythfljbbigpophaa.Row
/- Contracts of AppendPart, the program's and the reference model's. No conditions but that lengths fit. -/
namespace Go.Proofs.Ythfljbbigpophaa.Row
open Go.ChangeShapes Go.WideShapes Go.ChangeAt Go.RowKit Go.Instr
set_option linter.unusedVariables false
set_option maxRecDepth 100000
def appN (l : List ByteArray) (s : ByteArray) : List ByteArray := if validN (l ++ [s]) = true then l ++ [s] else l
def vs2 (a b : Value) (j : Nat) : Value := if j = 0 then a else b
def ls2 (a b : List ByteArray) (j : Nat) : List ByteArray := if j = 0 then a else b
set_option maxHeartbeats 1000000 in
theorem l4Copy (v : Value) (l : List ByteArray) (w : World) (h : Holds Value.string w v l) (hl : l.length ≤ 10000000) :
    Calls Try.prog 81 #[.agg #[v]] w (GivesN w l) := by
  obtain ⟨x, n, cap, rfl, hn, hcap, hh⟩ := h.shapeN
  rw [← hn] at hl
  have HB0 := Lib.hid ((((Below.refl w.heap.size w).alloc (Nat.le_refl _) (.cells #[.slice x n cap] 44)).alloc (by simp) (.cells #[.slice none 0 0] 44)).alloc (by simp; omega) (.cells #[] 9))
  have HN := Lib.hid hn
  have HT2 := Lib.hid (hh.on HB0.out)
  have HO := Lib.hid (own_empty Value.string 9 ((w.alloc (.cells #[.slice x n cap] 44)).alloc (.cells #[.slice none 0 0] 44)))
  simp only [World.size_alloc] at HO
  have HR := Lib.hid ((Ret.NC.new' (.slice none 0 0) 44 (w := w.alloc (.cells #[.slice x n cap] 44)) (n := w.heap.size + 1) (by simp)).alloc (.cells #[] 9))
  clear hh h hn
  go_enter Try.func81, Try.ntmps81
  go_wp2_with (at_builtin; refine wpList_app (enc := Value.string) (B := w.heap.size + 1 + 1) (l := []) (m := l) rfl _ _ rfl Try.underlying36 elemSTR rfl rfl rfl HO.out HT2.out oneStr (by rw [← HN.out]; simp; omega) (by rw [← HN.out]; unfold maxLen; simp; omega) (by simp) ?_)
  intro v3 w3 ho3 hg3
  obtain ⟨x3, n3, c3, rfl, hn3, hc3, ho3⟩ := ho3.shapeN
  clear hn3
  have HB4 := Lib.hid (HB0.out.grown hg3 (by simp; omega) (fun g hh => by have := (HO.out.lt g hh).1; omega))
  obtain ⟨hk2, hf2⟩ := HR.out.grown hg3 (by simp [Value.ownBlock])
  obtain ⟨q1, q2, q3⟩ := endN (w := w) (g := w.heap.size + 1) (by omega) (by omega) ho3 hk2 HB4.out
  have HQ1 := Lib.hid q1; have HQ2 := Lib.hid q2; have HQ3 := Lib.hid q3
  clear q1 q2 q3 ho3 hg3
  go_wp2
  refine bodyPost_ret (Ret.results_c rfl _ _ (w.heap.size + 1) [_] rfl aggN (Ret.one HQ1.out)) rfl ?_
  exact ⟨_, rfl, HQ2.out, HQ3.out⟩
end Go.Proofs.Ythfljbbigpophaa.Row
/- Contracts of the helpers by which the laws measure, copy, compare, mark and look at interests (a name and three numbers). No conditions but that lengths fit. -/
namespace Go.Proofs.Ythfljbbigpophaa.Row
open Go.ChangeShapes Go.WideShapes Go.ChangeAt Go.RowKit Go.Instr
set_option linter.unusedVariables false
set_option maxRecDepth 100000
abbrev wc (v : Value) (a b c : Int) : Array Value := #[v, .int .i64 a, .int .i64 b, .int .i64 c]
theorem own_set {α : Type} [Inhabited α] {enc : α → Value} {e : TypeId} {B g i : Nat} {w : World} {v u : Value} {l : List α} (h : Own e enc B w v l) (hg : g < B) : Own e enc B (w.setCell ⟨g, i, none⟩ u) v l := h.grown (Ret.grownBy_set w ⟨g, i, none⟩ u) (nb h hg)
end Go.Proofs.Ythfljbbigpophaa.Row
/- What calls leave that give a slice of the call's own; lists of bytes. No conditions. -/
namespace Go.Proofs.Ythfljbbigpophaa.Sl
open Go.ChangeShapes Go.WideShapes Go.ChangeAt Go.RowKit Go.Instr
set_option linter.unusedVariables false
set_option maxRecDepth 100000
def GivesB (w : World) (l : List Int) (e : Ending) (w' : World) : Prop := ∃ v, e = .returned v ∧ Own 5 .u8 w.heap.size w' v l ∧ Below w.heap.size w w'
def GivesI (w : World) (l : List Int) (e : Ending) (w' : World) : Prop := ∃ v, e = .returned v ∧ Own 3 .i64 w.heap.size w' v l ∧ Below w.heap.size w w'
def Byt (l : List Int) : Prop := ∀ x ∈ l, 0 ≤ x ∧ x ≤ 255
theorem Byt.at {l : List Int} (h : Byt l) {j : Nat} (hj : j < l.length) : 0 ≤ nth l j ∧ nth l j ≤ 255 := by rw [nth_eq hj]; exact h _ (List.getElem_mem hj)
theorem byt_of_wf {l : List Int} (h : ∀ x ∈ l, (Lit.int .u8 x).wf = true) : Byt l := fun x hx => by
  have e1 : IntKind.u8.min = 0 := rfl
  have e2 : IntKind.u8.max = 255 := rfl
  simpa [Lit.wf, e1, e2] using h x hx
end Go.Proofs.Ythfljbbigpophaa.Sl
/- A string turned into a slice of bytes: where they lie, what they are. No conditions. -/
namespace Go.Proofs.Ythfljbbigpophaa.Sl
open Go.ChangeShapes Go.WideShapes Go.ChangeAt Go.RowKit Go.Instr
set_option linter.unusedVariables false
set_option maxRecDepth 100000
def bytesOf (t : ByteArray) : List Int := t.data.toList.map fun c => (c.toNat : Int)
end Go.Proofs.Ythfljbbigpophaa.Sl
/- Plain mathematics of the base-128 encoding, no program in sight: the encoding's bytes, how they are read back, how long they are. No conditions. -/
namespace Go.Proofs.Ythfljbbigpophaa.Var
def enc (n : Nat) : List Int := if h : n < 128 then [(n : Int)] else (((n % 128 : Nat) : Int) + 128) :: enc (n / 128)
  termination_by n
  decreasing_by omega
def var (n : Int) : List Int := if 0 ≤ n ∧ n ≤ 1000000000000 then enc n.toNat else []
def dec : Nat → List Int → Nat → Int → Option (Int × Nat)
  | 0, _, _, _ => none
  | _ + 1, [], _, _ => none
  | f + 1, x :: r, k, n =>
    if x < 128 then (if (x = 0 ∧ 0 < k) ∨ 1000000000000 < n + x * 128 ^ k then none else some (n + x * 128 ^ k, k + 1))
    else dec f r (k + 1) (n + x % 128 * 128 ^ k)
def okAt (l : List Int) (i : Int) : Prop := 0 ≤ i ∧ i ≤ l.length
def res (i : Int) : Option (Int × Nat) → Int × Int × Bool
  | none => (0, 0, false)
  | some (n, c) => (n, i + c, true)
def readV (l : List Int) (i : Int) : Int × Int × Bool := if 0 ≤ i ∧ i ≤ l.length then res i (dec 6 (l.drop i.toNat) 0 0) else (0, 0, false)
end Go.Proofs.Ythfljbbigpophaa.Var
/- Contracts of AppendVarint, the reference model's and the program's: the slice and behind it the number's groups, in memory of the call's own. No conditions but that lengths fit. -/
namespace Go.Proofs.Ythfljbbigpophaa.Sl
open Go.ChangeShapes Go.WideShapes Go.ChangeAt Go.RowKit Go.Instr
set_option linter.unusedVariables false
set_option maxRecDepth 100000
def GrowsB (B : Nat) (w : World) (l : List Int) (e : Ending) (w' : World) : Prop := ∃ v, e = .returned v ∧ Own 5 .u8 B w' v l ∧ Below B w w'
end Go.Proofs.Ythfljbbigpophaa.Sl
/- Contracts of ReadVarint, the reference model's and the program's: what the groups at the offset make, the offset behind them, true; or 0, 0 and false. Nothing in memory turns. No conditions but that the elements are bytes and the length fits. -/
namespace Go.Proofs.Ythfljbbigpophaa.Sl
open Go.ChangeShapes Go.WideShapes Go.ChangeAt Go.RowKit Go.Instr
set_option linter.unusedVariables false
set_option maxRecDepth 100000
def rdV (r : Int × Int × Bool) : Value := .tuple #[.int .i64 r.1, .int .i64 r.2.1, .bool r.2.2]
end Go.Proofs.Ythfljbbigpophaa.Sl
/- Contracts of the program's ReadVarint: what the groups at the offset make, the offset behind them, true; or 0, 0 and false. What was in memory stays as it was. No conditions but that the elements are bytes and the length fits. -/
namespace Go.Proofs.Ythfljbbigpophaa.Sl
open Go.ChangeShapes Go.WideShapes Go.ChangeAt Go.RowKit Go.Instr
set_option linter.unusedVariables false
set_option maxRecDepth 100000
end Go.Proofs.Ythfljbbigpophaa.Sl
/- Contracts of AppendBytes, EqualBytes and EncodeInts, the reference model's and the program's. Slices that are returned lie in memory of the call's own. No conditions but that lengths fit and that the elements are bytes. -/
namespace Go.Proofs.Ythfljbbigpophaa.Sl
open Go.ChangeShapes Go.WideShapes Go.ChangeAt Go.RowKit Go.Instr
set_option linter.unusedVariables false
set_option maxRecDepth 100000
theorem conv_holds {x : Option Addr} {cap : Nat} {l : List Int} {w : World} (h : Holds .u8 w (.slice x l.length cap) l) :
    (convert 39 9 (.slice x l.length cap)).run Try.prog w = .ok (.string (strOfNums l)) w := by
  obtain ⟨x', cap', hv, hc, hh⟩ := h
  cases hv
  rcases hh with rfl | ⟨b, off, rfl, hc⟩
  · cases x with
    | none => exact run_convert_bytes_nil w 39 5 Try.underlying39 Try.underlying5 _ _ 9 Try.underlying9
    | some a => exact run_convert_bytes_back w 39 9 5 a cap [] Try.underlying39 Try.underlying5 Try.underlying9 (fun j hj => absurd hj (by simp))
  · exact run_convert_bytes_arg w 39 5 Try.underlying39 Try.underlying5 b off l.length cap l rfl hc 9 Try.underlying9
theorem str_eqB {l m : List Int} (hl : Byt l) (hm : Byt m) : ((strOfNums l).toList == (strOfNums m).toList) = eqB l m := by
  have inj : ∀ (a b : List Int), Byt a → Byt b → (a.map fun n => UInt8.ofNat n.toNat) = (b.map fun n => UInt8.ofNat n.toNat) → a = b := by
    intro a
    induction a with
    | nil => intro b _ _ h; cases b with
      | nil => rfl
      | cons _ _ => simp at h
    | cons x r ih =>
      intro b ha hb h
      cases b with
      | nil => simp at h
      | cons y s =>
        simp only [List.map_cons, List.cons.injEq] at h
        have h1 := ha x (by simp)
        have h2 := hb y (by simp)
        have h3 := congrArg UInt8.toNat h.1
        simp at h3
        have h4 : x = y := by omega
        rw [h4, ih s (fun z hz => ha z (by simp [hz])) (fun z hz => hb z (by simp [hz])) h.2]
  rw [Bool.eq_iff_iff]
  unfold eqB
  rw [beq_iff_eq, decide_eq_true_iff, ByteArray.toList_eq, ByteArray.toList_eq, strOfNums_data, strOfNums_data]
  exact ⟨inj l m hl hm, fun h => by rw [h]⟩
set_option maxHeartbeats 1000000 in
theorem specEqualBytes (v u : Value) (l m : List Int) (w : World) (h : Holds .u8 w v l) (g : Holds .u8 w u m) (hl : Byt l) (hm : Byt m) :
    Calls Try.prog 104 #[v, u] w fun e w' => e = .returned (.bool (eqB l m)) ∧ w = w' := by
  obtain ⟨x, cx, rfl, hcx, hh⟩ := h.shape
  obtain ⟨y, cy, rfl, hcy, hg⟩ := g.shape
  have e1 := conv_holds hh
  have e2 := conv_holds hg
  have HE := Lib.hid (str_eqB hl hm)
  clear h hh g hg hl hm
  go_enter Try.func104, Try.ntmps104
  go_wp2_with fail
  go_ret
  exact ⟨ret_bool HE.out, rfl⟩
set_option maxHeartbeats 1000000 in
theorem libEqual (v u : Value) (l m : List Int) (w : World) (h : Holds .u8 w v l) (g : Holds .u8 w u m) (hl : Byt l) (hm : Byt m) :
    Calls Try.prog 114 #[v, u] w fun e w' => e = .returned (.bool (eqB l m)) ∧ w = w' := by
  obtain ⟨x, cx, rfl, hcx, hh⟩ := h.shape
  obtain ⟨y, cy, rfl, hcy, hg⟩ := g.shape
  have e1 := conv_holds hh
  have e2 := conv_holds hg
  have HE := Lib.hid (str_eqB hl hm)
  clear h hh g hg hl hm
  go_enter Try.func114, Try.ntmps114
  go_wp2_with fail
  go_ret
  exact ⟨ret_bool HE.out, rfl⟩
theorem implEqualBytes (v u : Value) (l m : List Int) (w : World) (h : Holds .u8 w v l) (g : Holds .u8 w u m) (hl : Byt l) (hm : Byt m) :
    Calls Try.prog 110 #[v, u] w fun e w' => e = .returned (.bool (eqB l m)) ∧ w = w' := by
  have hc := libEqual v u l m w h g hl hm
  have HC := Lib.hid hc
  clear hc h g hl hm
  go_enter Try.func110, Try.ntmps110
  go_wp2_with fail
  refine HC.out.mono ?_
  rintro e w' ⟨rfl, rfl⟩
  go_wp2_with fail
  go_ret
  exact ⟨rfl, rfl⟩
end Go.Proofs.Ythfljbbigpophaa.Sl
/- Contracts of EncodeInts, the reference model's and the program's: the numbers' groups, one number after the other, in memory of the call's own. No conditions but that lengths fit. -/
namespace Go.Proofs.Ythfljbbigpophaa.Sl
open Go.ChangeShapes Go.WideShapes Go.ChangeAt Go.RowKit Go.Instr
set_option linter.unusedVariables false
set_option maxRecDepth 100000
def encs (l : List Int) : List Int := l.flatMap Var.var
end Go.Proofs.Ythfljbbigpophaa.Sl
/- Contracts of the model's functions on interests: AppendName. No conditions but that lengths fit. -/
namespace Go.Proofs.Ythfljbbigpophaa.Row
open Go.ChangeShapes Go.WideShapes Go.ChangeAt Go.RowKit Go.Instr
set_option linter.unusedVariables false
set_option maxRecDepth 100000
def encPs (l : List ByteArray) : List Int := l.flatMap fun s => Var.var s.size ++ Sl.bytesOf s
def encN (l : List ByteArray) : List Int := Var.var l.length ++ encPs l
def appName (b : List Int) (l : List ByteArray) : List Int := if validN l = true then b ++ encN l else b
end Go.Proofs.Ythfljbbigpophaa.Row
/- Contracts of the helpers by which the laws measure, copy, compare, mark and look at data packets (a name, bytes, a name, two numbers). No conditions but that lengths fit. -/
namespace Go.Proofs.Ythfljbbigpophaa.Row
open Go.ChangeShapes Go.WideShapes Go.ChangeAt Go.RowKit Go.Instr
set_option linter.unusedVariables false
set_option maxRecDepth 100000
abbrev Dt := List ByteArray × List Int × List ByteArray × Int × Int
abbrev dc (a b c : Value) (f s : Int) : Array Value := #[a, b, c, .int .i64 f, .int .i64 s]
abbrev nil : Value := .slice none 0 0
theorem aggD : Ret.AggOf Try.prog 46 5 := ⟨by kernel_rfl, by kernel_rfl⟩
def DOwn (B : Nat) (w : World) (a b c : Value) (x : Dt) : Prop := Own 9 Value.string B w a x.1 ∧ Sl.Own 5 .u8 B w b x.2.1 ∧ Own 9 Value.string B w c x.2.2.1 ∧ Apart a b ∧ Apart a c ∧ Apart b c
def DHold (w : World) (a b c : Value) (x : Dt) : Prop := Holds Value.string w a x.1 ∧ Sl.Holds .u8 w b x.2.1 ∧ Holds Value.string w c x.2.2.1
theorem DHold.on {w w' : World} {a b c : Value} {x : Dt} (h : DHold w a b c x) (hb : Below w.heap.size w w') : DHold w' a b c x := ⟨h.1.on hb, h.2.1.on hb, h.2.2.on hb⟩
theorem DOwn.hold {B : Nat} {w : World} {a b c : Value} {x : Dt} (h : DOwn B w a b c x) : DHold w a b c x := by
  exact ⟨h.1.holds, h.2.1.holds, h.2.2.1.holds⟩
theorem DHold.shape {w : World} {a b c : Value} {x : Dt} (h : DHold w a b c x) : ∃ xa na ca xb nb cb xc nc cc, a = .slice xa na ca ∧ b = .slice xb nb cb ∧ c = .slice xc nc cc := by
  obtain ⟨xa, na, ca, rfl, -⟩ := h.1.shapeN
  obtain ⟨xb, cb, rfl, -⟩ := h.2.1.shape
  obtain ⟨xc, nc, cc, rfl, -⟩ := h.2.2.shapeN
  exact ⟨_, _, _, _, _, _, _, _, _, rfl, rfl, rfl⟩
theorem sl_own_set {k : IntKind} {e : TypeId} {B g i : Nat} {w : World} {v u : Value} {l : List Int} (h : Sl.Own e k B w v l) (hg : g < B) : Sl.Own e k B (w.setCell ⟨g, i, none⟩ u) v l := own_set (enc := Value.int k) h hg
set_option maxHeartbeats 4000000 in
theorem toData (a b c : Value) (x : Dt) (w : World) (h : DHold w a b c x) (h1 : x.1.length ≤ 100000000) (h2 : x.2.1.length ≤ 100000000) (h3 : x.2.2.1.length ≤ 100000000) :
    Calls Try.prog 22 #[.agg (dc a b c x.2.2.2.1 x.2.2.2.2)] w fun e w' => ∃ a' b' c', e = .returned (.agg (dc a' b' c' x.2.2.2.1 x.2.2.2.2)) ∧ DOwn w.heap.size w' a' b' c' x ∧ Below w.heap.size w w' := by
  obtain ⟨l, m, k, f, s⟩ := x
  simp only at h1 h2 h3 ⊢
  obtain ⟨xa, na, ca, xb, nb, cb, xc, nc, cc, rfl, rfl, rfl⟩ := h.shape
  have hb0 := (Below.refl w.heap.size w).alloc (Nat.le_refl _) (.cells (dc (.slice xa na ca) (.slice xb nb cb) (.slice xc nc cc) f s) 41)
  have hb1 := hb0.alloc (by simp) (.cells (dc nil nil nil 0 0) 46)
  have hb2 := hb1.alloc (by simp; omega) (.cells (dc nil nil nil 0 0) 46)
  have HB := Lib.hid hb2
  have H0 := Lib.hid h
  have HX := Lib.hid (((Ret.Blk.new w (dc (.slice xa na ca) (.slice xb nb cb) (.slice xc nc cc) f s) 41).on ((Below.refl _ _).alloc (Nat.le_refl _) (.cells (dc nil nil nil 0 0) 46))).on ((Below.refl _ _).alloc (Nat.le_refl _) (.cells (dc nil nil nil 0 0) 46)))
  have HR := Lib.hid ((Ret.Blk.new' (w := (w.alloc (.cells (dc (.slice xa na ca) (.slice xb nb cb) (.slice xc nc cc) f s) 41))) (n := w.heap.size + 1) (dc nil nil nil 0 0) 46 (by simp)).on ((Below.refl _ _).alloc (Nat.le_refl _) (.cells (dc nil nil nil 0 0) 46)))
  have HL := Lib.hid (Ret.Blk.new' (w := (w.alloc (.cells (dc (.slice xa na ca) (.slice xb nb cb) (.slice xc nc cc) f s) 41)).alloc (.cells (dc nil nil nil 0 0) 46)) (n := w.heap.size + 1 + 1) (dc nil nil nil 0 0) 46 (by simp))
  have hz0 : (((w.alloc (.cells (dc (.slice xa na ca) (.slice xb nb cb) (.slice xc nc cc) f s) 41)).alloc (.cells (dc nil nil nil 0 0) 46)).alloc (.cells (dc nil nil nil 0 0) 46)).heap.size = w.heap.size + 3 := by simp
  clear h hb0 hb1 hb2
  go_enter Try.func22, Try.ntmps22
  go_wp2_with fail
  refine (toName _ l _ (H0.out.on HB.out).1 h1).mono ?_
  rintro e w1 ⟨a1, rfl, ho1, hb1⟩
  obtain ⟨ya, ma, da, rfl, -, -, ho1⟩ := ho1.shapeN
  have hs1 := hb1.size
  rw [hz0] at ho1 hs1
  replace HX := Lib.hid (HX.out.on hb1); replace HR := Lib.hid (HR.out.on hb1); replace HL := Lib.hid (HL.out.on hb1)
  replace HB := Lib.hid (HB.out.trans (hb1.mono HB.out.size))
  have HO1 := Lib.hid ho1
  have HLA := Lib.hid (fun g hg => (ho1.lt g hg).2)
  clear ho1 hb1 hz0
  have q0 : w1.cell? ⟨w.heap.size, 0, none⟩ = some (.slice xa na ca) := HX.out.cell 0
  have q1 : w1.cell? ⟨w.heap.size, 1, none⟩ = some (.slice xb nb cb) := HX.out.cell 1
  have q2 : w1.cell? ⟨w.heap.size, 2, none⟩ = some (.slice xc nc cc) := HX.out.cell 2
  have q3 : w1.cell? ⟨w.heap.size, 3, none⟩ = some (.int .i64 f) := HX.out.cell 3
  have q4 : w1.cell? ⟨w.heap.size, 4, none⟩ = some (.int .i64 s) := HX.out.cell 4
  have p0 : w1.cell? ⟨w.heap.size + 1 + 1, 0, none⟩ = some (.slice none 0 0) := HL.out.cell 0
  have p1 : w1.cell? ⟨w.heap.size + 1 + 1, 1, none⟩ = some (.slice none 0 0) := HL.out.cell 1
  have p2 : w1.cell? ⟨w.heap.size + 1 + 1, 2, none⟩ = some (.slice none 0 0) := HL.out.cell 2
  have p3 : w1.cell? ⟨w.heap.size + 1 + 1, 3, none⟩ = some (.int .i64 0) := HL.out.cell 3
  have p4 : w1.cell? ⟨w.heap.size + 1 + 1, 4, none⟩ = some (.int .i64 0) := HL.out.cell 4
  have t0 := HL.out.frozen 0; have t1 := HL.out.frozen 1; have t2 := HL.out.frozen 2; have t3 := HL.out.frozen 3; have t4 := HL.out.frozen 4
  go_wp2_with fail
  clear q0 q1 q2 q3 q4 p0 p1 p2 p3 p4 t0 t1 t2 t3 t4
  replace HX := Lib.hid (HX.out.other (a := ⟨w.heap.size + 1 + 1, 0, none⟩) (by show w.heap.size + 1 + 1 ≠ w.heap.size; omega) (.slice ya ma da))
  replace HR := Lib.hid (HR.out.other (a := ⟨w.heap.size + 1 + 1, 0, none⟩) (by show w.heap.size + 1 + 1 ≠ w.heap.size + 1; omega) (.slice ya ma da))
  replace HL := Lib.hid (HL.out.set 0 (.slice ya ma da))
  replace HB := Lib.hid (HB.out.setCell (p := ⟨w.heap.size + 1 + 1, 0, none⟩) (by show w.heap.size ≤ w.heap.size + 1 + 1; omega) (.slice ya ma da))
  replace HO1 := Lib.hid (own_set (g := w.heap.size + 1 + 1) (i := 0) (u := .slice ya ma da) HO1.out (by omega))
  refine (Sl.toByteS _ m _ (H0.out.on HB.out).2.1 h2).mono ?_
  rintro e w2 ⟨b1, rfl, ho2, hb2⟩
  obtain ⟨yb, mb, db, rfl, -, -, ho2⟩ := Own.shapeN (enc := Value.int .u8) ho2
  replace ho2 : Sl.Own 5 .u8 _ w2 (.slice yb mb db) m := ho2
  have hs2 := hb2.size
  simp only [World.size_setCell] at hs2 ho2
  replace HX := Lib.hid (HX.out.on hb2); replace HR := Lib.hid (HR.out.on hb2); replace HL := Lib.hid (HL.out.on hb2)
  replace HO1 := Lib.hid (HO1.out.on hb2)
  replace HB := Lib.hid (HB.out.trans (hb2.mono HB.out.size))
  have HO2 := Lib.hid ho2
  have HLB := Lib.hid (fun g hg => (ho2.lt g hg).2)
  clear ho2 hb2
  have q0 : w2.cell? ⟨w.heap.size, 0, none⟩ = some (.slice xa na ca) := HX.out.cell 0
  have q1 : w2.cell? ⟨w.heap.size, 1, none⟩ = some (.slice xb nb cb) := HX.out.cell 1
  have q2 : w2.cell? ⟨w.heap.size, 2, none⟩ = some (.slice xc nc cc) := HX.out.cell 2
  have q3 : w2.cell? ⟨w.heap.size, 3, none⟩ = some (.int .i64 f) := HX.out.cell 3
  have q4 : w2.cell? ⟨w.heap.size, 4, none⟩ = some (.int .i64 s) := HX.out.cell 4
  have p0 : w2.cell? ⟨w.heap.size + 1 + 1, 0, none⟩ = some (.slice ya ma da) := HL.out.cell 0
  have p1 : w2.cell? ⟨w.heap.size + 1 + 1, 1, none⟩ = some (.slice none 0 0) := HL.out.cell 1
  have p2 : w2.cell? ⟨w.heap.size + 1 + 1, 2, none⟩ = some (.slice none 0 0) := HL.out.cell 2
  have p3 : w2.cell? ⟨w.heap.size + 1 + 1, 3, none⟩ = some (.int .i64 0) := HL.out.cell 3
  have p4 : w2.cell? ⟨w.heap.size + 1 + 1, 4, none⟩ = some (.int .i64 0) := HL.out.cell 4
  have t0 := HL.out.frozen 0; have t1 := HL.out.frozen 1; have t2 := HL.out.frozen 2; have t3 := HL.out.frozen 3; have t4 := HL.out.frozen 4
  go_wp2_with fail
  clear q0 q1 q2 q3 q4 p0 p1 p2 p3 p4 t0 t1 t2 t3 t4
  replace HX := Lib.hid (HX.out.other (a := ⟨w.heap.size + 1 + 1, 1, none⟩) (by show w.heap.size + 1 + 1 ≠ w.heap.size; omega) (.slice yb mb db))
  replace HR := Lib.hid (HR.out.other (a := ⟨w.heap.size + 1 + 1, 1, none⟩) (by show w.heap.size + 1 + 1 ≠ w.heap.size + 1; omega) (.slice yb mb db))
  replace HL := Lib.hid (HL.out.set 1 (.slice yb mb db))
  replace HB := Lib.hid (HB.out.setCell (p := ⟨w.heap.size + 1 + 1, 1, none⟩) (by show w.heap.size ≤ w.heap.size + 1 + 1; omega) (.slice yb mb db))
  replace HO1 := Lib.hid (own_set (g := w.heap.size + 1 + 1) (i := 1) (u := .slice yb mb db) HO1.out (by omega))
  replace HO2 := Lib.hid (sl_own_set (g := w.heap.size + 1 + 1) (i := 1) (u := .slice yb mb db) HO2.out (by omega))
  refine (toName _ k _ (H0.out.on HB.out).2.2 h3).mono ?_
  rintro e w3 ⟨c1, rfl, ho3, hb3⟩
  obtain ⟨yc, mc, dc_, rfl, -, -, ho3⟩ := ho3.shapeN
  have hs3 := hb3.size
  simp only [World.size_setCell] at hs3 ho3
  replace HX := Lib.hid (HX.out.on hb3); replace HR := Lib.hid (HR.out.on hb3); replace HL := Lib.hid (HL.out.on hb3)
  replace HO1 := Lib.hid (HO1.out.on hb3); replace HO2 := Lib.hid (HO2.out.on hb3)
  replace HB := Lib.hid (HB.out.trans (hb3.mono HB.out.size))
  have HO3 := Lib.hid ho3
  clear ho3 hb3
  have q0 : w3.cell? ⟨w.heap.size, 0, none⟩ = some (.slice xa na ca) := HX.out.cell 0
  have q1 : w3.cell? ⟨w.heap.size, 1, none⟩ = some (.slice xb nb cb) := HX.out.cell 1
  have q2 : w3.cell? ⟨w.heap.size, 2, none⟩ = some (.slice xc nc cc) := HX.out.cell 2
  have q3 : w3.cell? ⟨w.heap.size, 3, none⟩ = some (.int .i64 f) := HX.out.cell 3
  have q4 : w3.cell? ⟨w.heap.size, 4, none⟩ = some (.int .i64 s) := HX.out.cell 4
  have p0 : w3.cell? ⟨w.heap.size + 1 + 1, 0, none⟩ = some (.slice ya ma da) := HL.out.cell 0
  have p1 : w3.cell? ⟨w.heap.size + 1 + 1, 1, none⟩ = some (.slice yb mb db) := HL.out.cell 1
  have p2 : w3.cell? ⟨w.heap.size + 1 + 1, 2, none⟩ = some (.slice none 0 0) := HL.out.cell 2
  have p3 : w3.cell? ⟨w.heap.size + 1 + 1, 3, none⟩ = some (.int .i64 0) := HL.out.cell 3
  have p4 : w3.cell? ⟨w.heap.size + 1 + 1, 4, none⟩ = some (.int .i64 0) := HL.out.cell 4
  have t0 := HL.out.frozen 0; have t1 := HL.out.frozen 1; have t2 := HL.out.frozen 2; have t3 := HL.out.frozen 3; have t4 := HL.out.frozen 4
  have r0 : w3.cell? ⟨w.heap.size + 1, 0, none⟩ = some (.slice none 0 0) := HR.out.cell 0
  have r1 : w3.cell? ⟨w.heap.size + 1, 1, none⟩ = some (.slice none 0 0) := HR.out.cell 1
  have r2 : w3.cell? ⟨w.heap.size + 1, 2, none⟩ = some (.slice none 0 0) := HR.out.cell 2
  have r3 : w3.cell? ⟨w.heap.size + 1, 3, none⟩ = some (.int .i64 0) := HR.out.cell 3
  have r4 : w3.cell? ⟨w.heap.size + 1, 4, none⟩ = some (.int .i64 0) := HR.out.cell 4
  have u0 := HR.out.frozen 0; have u1 := HR.out.frozen 1; have u2 := HR.out.frozen 2; have u3 := HR.out.frozen 3; have u4 := HR.out.frozen 4
  have Z1 := Lib.hid ((((((((HR.out.other (a := ⟨w.heap.size + 1 + 1, 2, none⟩) (by show w.heap.size + 1 + 1 ≠ w.heap.size + 1; omega) (.slice yc mc dc_)).other (a := ⟨w.heap.size + 1 + 1, 3, none⟩) (by show w.heap.size + 1 + 1 ≠ w.heap.size + 1; omega) (.int .i64 f)).other (a := ⟨w.heap.size + 1 + 1, 4, none⟩) (by show w.heap.size + 1 + 1 ≠ w.heap.size + 1; omega) (.int .i64 s)).set 0 (.slice ya ma da)).set 1 (.slice yb mb db)).set 2 (.slice yc mc dc_)).set 3 (.int .i64 f)).set 4 (.int .i64 s))
  have Z2 := Lib.hid (own_set (g := w.heap.size + 1) (i := 4) (u := .int .i64 s) (own_set (g := w.heap.size + 1) (i := 3) (u := .int .i64 f) (own_set (g := w.heap.size + 1) (i := 2) (u := .slice yc mc dc_) (own_set (g := w.heap.size + 1) (i := 1) (u := .slice yb mb db) (own_set (g := w.heap.size + 1) (i := 0) (u := .slice ya ma da) (own_set (g := w.heap.size + 1 + 1) (i := 4) (u := .int .i64 s) (own_set (g := w.heap.size + 1 + 1) (i := 3) (u := .int .i64 f) (own_set (g := w.heap.size + 1 + 1) (i := 2) (u := .slice yc mc dc_) HO1.out (by omega)) (by omega)) (by omega)) (by omega)) (by omega)) (by omega)) (by omega)) (by omega))
  have Z3 := Lib.hid (sl_own_set (g := w.heap.size + 1) (i := 4) (u := .int .i64 s) (sl_own_set (g := w.heap.size + 1) (i := 3) (u := .int .i64 f) (sl_own_set (g := w.heap.size + 1) (i := 2) (u := .slice yc mc dc_) (sl_own_set (g := w.heap.size + 1) (i := 1) (u := .slice yb mb db) (sl_own_set (g := w.heap.size + 1) (i := 0) (u := .slice ya ma da) (sl_own_set (g := w.heap.size + 1 + 1) (i := 4) (u := .int .i64 s) (sl_own_set (g := w.heap.size + 1 + 1) (i := 3) (u := .int .i64 f) (sl_own_set (g := w.heap.size + 1 + 1) (i := 2) (u := .slice yc mc dc_) HO2.out (by omega)) (by omega)) (by omega)) (by omega)) (by omega)) (by omega)) (by omega)) (by omega))
  have Z4 := Lib.hid (own_set (g := w.heap.size + 1) (i := 4) (u := .int .i64 s) (own_set (g := w.heap.size + 1) (i := 3) (u := .int .i64 f) (own_set (g := w.heap.size + 1) (i := 2) (u := .slice yc mc dc_) (own_set (g := w.heap.size + 1) (i := 1) (u := .slice yb mb db) (own_set (g := w.heap.size + 1) (i := 0) (u := .slice ya ma da) (own_set (g := w.heap.size + 1 + 1) (i := 4) (u := .int .i64 s) (own_set (g := w.heap.size + 1 + 1) (i := 3) (u := .int .i64 f) (own_set (g := w.heap.size + 1 + 1) (i := 2) (u := .slice yc mc dc_) HO3.out (by omega)) (by omega)) (by omega)) (by omega)) (by omega)) (by omega)) (by omega)) (by omega))
  have Z5 := Lib.hid ((((((((HB.out.setCell (p := ⟨w.heap.size + 1 + 1, 2, none⟩) (by show w.heap.size ≤ w.heap.size + 1 + 1; omega) (.slice yc mc dc_)).setCell (p := ⟨w.heap.size + 1 + 1, 3, none⟩) (by show w.heap.size ≤ w.heap.size + 1 + 1; omega) (.int .i64 f)).setCell (p := ⟨w.heap.size + 1 + 1, 4, none⟩) (by show w.heap.size ≤ w.heap.size + 1 + 1; omega) (.int .i64 s)).setCell (p := ⟨w.heap.size + 1, 0, none⟩) (by show w.heap.size ≤ w.heap.size + 1; omega) (.slice ya ma da)).setCell (p := ⟨w.heap.size + 1, 1, none⟩) (by show w.heap.size ≤ w.heap.size + 1; omega) (.slice yb mb db)).setCell (p := ⟨w.heap.size + 1, 2, none⟩) (by show w.heap.size ≤ w.heap.size + 1; omega) (.slice yc mc dc_)).setCell (p := ⟨w.heap.size + 1, 3, none⟩) (by show w.heap.size ≤ w.heap.size + 1; omega) (.int .i64 f)).setCell (p := ⟨w.heap.size + 1, 4, none⟩) (by show w.heap.size ≤ w.heap.size + 1; omega) (.int .i64 s))
  go_wp2_with fail
  refine bodyPost_ret (Ret.results_c rfl _ _ (w.heap.size + 1) (dc (.slice ya ma da) (.slice yb mb db) (.slice yc mc dc_) f s).toList rfl aggD Z1.out.cells) rfl ?_
  have hlb := fun g hg => (Sl.Own.lt Z3.out g hg).1
  have hlc := fun g hg => (Own.lt Z4.out g hg).1
  exact ⟨_, _, _, rfl, ⟨Z2.out.mono (by omega), Sl.Own.mono Z3.out (by omega), Z4.out.mono (by omega), fun g e1 e2 => by have h5 := HLA.out g e1; have h6 := hlb g e2; omega, fun g e1 e2 => by have h5 := HLA.out g e1; have h6 := hlc g e2; omega, fun g e1 e2 => by have h5 := HLB.out g e1; have h6 := hlc g e2; omega⟩, Z5.out⟩
set_option maxHeartbeats 4000000 in
theorem eqData (a b c a2 b2 c2 : Value) (x y : Dt) (w : World) (q : Bool) (hq : decide (x = y) = q) (h : DHold w a b c x) (g : DHold w a2 b2 c2 y) (h1 : x.1.length ≤ 100000000) (h2 : x.2.1.length ≤ 100000000) (h3 : x.2.2.1.length ≤ 100000000) (g1 : y.1.length ≤ 100000000) (g2 : y.2.1.length ≤ 100000000) (g3 : y.2.2.1.length ≤ 100000000) :
    Calls Try.prog 24 #[.agg (dc a b c x.2.2.2.1 x.2.2.2.2), .agg (dc a2 b2 c2 y.2.2.2.1 y.2.2.2.2)] w fun e w' => e = .returned (.bool q) ∧ Below w.heap.size w w' := by
  obtain ⟨l, m, k, f, s⟩ := x
  obtain ⟨l2, m2, k2, f2, s2⟩ := y
  simp only at h1 h2 h3 g1 g2 g3 ⊢
  obtain ⟨xa, na, ca, xb, nb, cb, xc, nc, cc, rfl, rfl, rfl⟩ := h.shape
  obtain ⟨ua, va, oa, ub, vb, ob, uc, vc, oc, rfl, rfl, rfl⟩ := g.shape
  have hb0 := (Below.refl w.heap.size w).alloc (Nat.le_refl _) (.cells (dc (.slice xa na ca) (.slice xb nb cb) (.slice xc nc cc) f s) 46)
  have HB := Lib.hid (hb0.alloc (by simp) (.cells (dc (.slice ua va oa) (.slice ub vb ob) (.slice uc vc oc) f2 s2) 46))
  have H0 := Lib.hid h; have G0 := Lib.hid g
  have HX := Lib.hid ((Ret.Blk.new w (dc (.slice xa na ca) (.slice xb nb cb) (.slice xc nc cc) f s) 46).on ((Below.refl _ _).alloc (Nat.le_refl _) (.cells (dc (.slice ua va oa) (.slice ub vb ob) (.slice uc vc oc) f2 s2) 46)))
  have HY := Lib.hid (Ret.Blk.new' (w := w.alloc (.cells (dc (.slice xa na ca) (.slice xb nb cb) (.slice xc nc cc) f s) 46)) (n := w.heap.size + 1) (dc (.slice ua va oa) (.slice ub vb ob) (.slice uc vc oc) f2 s2) 46 (by simp))
  have HQ := Lib.hid hq
  clear h g hq hb0
  go_enter Try.func24, Try.ntmps24
  go_wp2_with fail
  refine (eqName _ _ l l2 _ (H0.out.on HB.out).1 (G0.out.on HB.out).1 (by omega) (by omega)).mono ?_
  rintro e w1 ⟨rfl, hb⟩
  replace HX := Lib.hid (HX.out.on hb); replace HY := Lib.hid (HY.out.on hb)
  replace HB := Lib.hid (HB.out.trans (hb.mono HB.out.size)); clear hb
  have q0 : w1.cell? ⟨w.heap.size, 0, none⟩ = some (.slice xa na ca) := HX.out.cell 0
  have q1 : w1.cell? ⟨w.heap.size, 1, none⟩ = some (.slice xb nb cb) := HX.out.cell 1
  have q2 : w1.cell? ⟨w.heap.size, 2, none⟩ = some (.slice xc nc cc) := HX.out.cell 2
  have q3 : w1.cell? ⟨w.heap.size, 3, none⟩ = some (.int .i64 f) := HX.out.cell 3
  have q4 : w1.cell? ⟨w.heap.size, 4, none⟩ = some (.int .i64 s) := HX.out.cell 4
  have p0 : w1.cell? ⟨w.heap.size + 1, 0, none⟩ = some (.slice ua va oa) := HY.out.cell 0
  have p1 : w1.cell? ⟨w.heap.size + 1, 1, none⟩ = some (.slice ub vb ob) := HY.out.cell 1
  have p2 : w1.cell? ⟨w.heap.size + 1, 2, none⟩ = some (.slice uc vc oc) := HY.out.cell 2
  have p3 : w1.cell? ⟨w.heap.size + 1, 3, none⟩ = some (.int .i64 f2) := HY.out.cell 3
  have p4 : w1.cell? ⟨w.heap.size + 1, 4, none⟩ = some (.int .i64 s2) := HY.out.cell 4
  by_cases e1 : l = l2
  · rw [eqB_true e1]
    go_wp2_with fail
    clear q0 q1 q2 q3 q4 p0 p1 p2 p3 p4
    refine (Sl.eqByteS _ _ m m2 _ (H0.out.on HB.out).2.1 (G0.out.on HB.out).2.1 h2 g2).mono ?_
    rintro e w2 ⟨rfl, hb⟩
    replace HX := Lib.hid (HX.out.on hb); replace HY := Lib.hid (HY.out.on hb)
    replace HB := Lib.hid (HB.out.trans (hb.mono HB.out.size)); clear hb
    have q0 : w2.cell? ⟨w.heap.size, 0, none⟩ = some (.slice xa na ca) := HX.out.cell 0
    have q1 : w2.cell? ⟨w.heap.size, 1, none⟩ = some (.slice xb nb cb) := HX.out.cell 1
    have q2 : w2.cell? ⟨w.heap.size, 2, none⟩ = some (.slice xc nc cc) := HX.out.cell 2
    have q3 : w2.cell? ⟨w.heap.size, 3, none⟩ = some (.int .i64 f) := HX.out.cell 3
    have q4 : w2.cell? ⟨w.heap.size, 4, none⟩ = some (.int .i64 s) := HX.out.cell 4
    have p0 : w2.cell? ⟨w.heap.size + 1, 0, none⟩ = some (.slice ua va oa) := HY.out.cell 0
    have p1 : w2.cell? ⟨w.heap.size + 1, 1, none⟩ = some (.slice ub vb ob) := HY.out.cell 1
    have p2 : w2.cell? ⟨w.heap.size + 1, 2, none⟩ = some (.slice uc vc oc) := HY.out.cell 2
    have p3 : w2.cell? ⟨w.heap.size + 1, 3, none⟩ = some (.int .i64 f2) := HY.out.cell 3
    have p4 : w2.cell? ⟨w.heap.size + 1, 4, none⟩ = some (.int .i64 s2) := HY.out.cell 4
    by_cases e2 : m = m2
    · rw [Sl.eqB_true e2]
      go_wp2_with fail
      clear q0 q1 q2 q3 q4 p0 p1 p2 p3 p4
      refine (eqName _ _ k k2 _ (H0.out.on HB.out).2.2 (G0.out.on HB.out).2.2 (by omega) (by omega)).mono ?_
      rintro e w3 ⟨rfl, hb⟩
      replace HX := Lib.hid (HX.out.on hb); replace HY := Lib.hid (HY.out.on hb)
      replace HB := Lib.hid (HB.out.trans (hb.mono HB.out.size)); clear hb
      have q0 : w3.cell? ⟨w.heap.size, 0, none⟩ = some (.slice xa na ca) := HX.out.cell 0
      have q1 : w3.cell? ⟨w.heap.size, 1, none⟩ = some (.slice xb nb cb) := HX.out.cell 1
      have q2 : w3.cell? ⟨w.heap.size, 2, none⟩ = some (.slice xc nc cc) := HX.out.cell 2
      have q3 : w3.cell? ⟨w.heap.size, 3, none⟩ = some (.int .i64 f) := HX.out.cell 3
      have q4 : w3.cell? ⟨w.heap.size, 4, none⟩ = some (.int .i64 s) := HX.out.cell 4
      have p0 : w3.cell? ⟨w.heap.size + 1, 0, none⟩ = some (.slice ua va oa) := HY.out.cell 0
      have p1 : w3.cell? ⟨w.heap.size + 1, 1, none⟩ = some (.slice ub vb ob) := HY.out.cell 1
      have p2 : w3.cell? ⟨w.heap.size + 1, 2, none⟩ = some (.slice uc vc oc) := HY.out.cell 2
      have p3 : w3.cell? ⟨w.heap.size + 1, 3, none⟩ = some (.int .i64 f2) := HY.out.cell 3
      have p4 : w3.cell? ⟨w.heap.size + 1, 4, none⟩ = some (.int .i64 s2) := HY.out.cell 4
      by_cases e3 : k = k2
      · rw [eqB_true e3]
        by_cases e4 : f = f2
        · have t1 : (f != f2) = false := by simp [e4]
          by_cases e5 : s = s2
          · have t2 : (s != s2) = false := by simp [e5]
            have HE : Hid (q = true) := Lib.hid (by rw [← HQ.out]; simp [e1, e2, e3, e4, e5])
            clear e1 e2 e3 e4 e5
            go_wp2
            go_ret
            exact ⟨ret_bool HE.out.symm, HB.out⟩
          · have t2 : (s != s2) = true := by simpa using e5
            have HE : Hid (q = false) := Lib.hid (by rw [← HQ.out]; simp [e5])
            clear e1 e2 e3 e4 e5
            go_wp2
            go_ret
            exact ⟨ret_bool HE.out.symm, HB.out⟩
        · have t1 : (f != f2) = true := by simpa using e4
          have HE : Hid (q = false) := Lib.hid (by rw [← HQ.out]; simp [e4])
          clear e4
          go_wp2
          go_ret
          exact ⟨ret_bool HE.out.symm, HB.out⟩
      · rw [eqB_false e3]
        have HE : Hid (q = false) := Lib.hid (by rw [← HQ.out]; simp [e3])
        clear e3
        go_wp2
        go_ret
        exact ⟨ret_bool HE.out.symm, HB.out⟩
    · rw [Sl.eqB_false e2]
      have HE : Hid (q = false) := Lib.hid (by rw [← HQ.out]; simp [e2])
      clear e2
      go_wp2
      go_ret
      exact ⟨ret_bool HE.out.symm, HB.out⟩
  · rw [eqB_false e1]
    have HE : Hid (q = false) := Lib.hid (by rw [← HQ.out]; simp [e1])
    clear e1
    go_wp2
    go_ret
    exact ⟨ret_bool HE.out.symm, HB.out⟩
theorem szByteS (x : Option Addr) (n cap : Nat) (w : World) (left : Int) (hn : n ≤ 9223372036854775807) (h0 : 0 ≤ left) (h1 : left ≤ 1048576) :
    Calls Try.prog 54 #[.slice x n cap, .int .i64 left] w fun e w' => e = .returned (.int .i64 (if (n : Int) ≤ left then left - n else -1)) ∧ w = w' := by
  by_cases h : (n : Int) ≤ left
  · rw [if_pos h]
    have h2 : ¬ left - (n : Int) < 0 := by omega
    go_enter Try.func54, Try.ntmps54
    go_wp2
    go_ret
    exact ⟨rfl, rfl⟩
  · rw [if_neg h]
    have h2 : left - (n : Int) < 0 := by omega
    go_enter Try.func54, Try.ntmps54
    go_wp2
    go_ret
    exact ⟨rfl, rfl⟩
def bulkD (x : Dt) : Nat := bulk x.1 + x.2.1.length + bulk x.2.2.1
def szD (x : Dt) (left : Int) : Int := if (bulkD x : Int) ≤ left then left - bulkD x else -1
def smD (x : Dt) : Prop := bulk x.1 ≤ 1200000 ∧ x.2.1.length ≤ 1200000 ∧ bulk x.2.2.1 ≤ 1200000
theorem szD_fit {x : Dt} {left : Int} (h : (bulkD x : Int) ≤ left) : szD x left = left - bulkD x := if_pos h
theorem szD_not {x : Dt} {left : Int} (h : left < (bulkD x : Int)) : szD x left = -1 := if_neg (by omega)
set_option maxHeartbeats 2000000 in
theorem szData (a b c : Value) (x : Dt) (w : World) (left : Int) (h : DHold w a b c x) (h1 : x.1.length ≤ 9223372036854775807) (h2 : x.2.1.length ≤ 9223372036854775807) (h3 : x.2.2.1.length ≤ 9223372036854775807) (hs1 : ∀ y ∈ x.1, y.size ≤ maxLen) (hs3 : ∀ y ∈ x.2.2.1, y.size ≤ maxLen) (h0 : 0 ≤ left) (hl : left ≤ 1048576) :
    Calls Try.prog 20 #[.agg (dc a b c x.2.2.2.1 x.2.2.2.2), .int .i64 left] w fun e w' => e = .returned (.int .i64 (szD x left)) ∧ Below w.heap.size w w' := by
  obtain ⟨l, m, k, f, s⟩ := x
  simp only at h1 h2 h3 hs1 hs3 ⊢
  obtain ⟨xa, na, ca, xb, nb, cb, xc, nc, cc, rfl, rfl, rfl⟩ := h.shape
  obtain rfl : nb = m.length := Sl.Holds.lenEq h.2.1
  have HB := Lib.hid ((Below.refl w.heap.size w).alloc (Nat.le_refl _) (.cells (dc (.slice xa na ca) (.slice xb m.length cb) (.slice xc nc cc) f s) 41))
  have H0 := Lib.hid h; have S1 := Lib.hid hs1; have S3 := Lib.hid hs3
  have HX := Lib.hid (Ret.Blk.new w (dc (.slice xa na ca) (.slice xb m.length cb) (.slice xc nc cc) f s) 41)
  clear h hs1 hs3
  go_enter Try.func20, Try.ntmps20
  go_wp2_with fail
  refine (szName _ l _ left (H0.out.on HB.out).1 h1 S1.out h0 hl).mono ?_
  rintro e w1 ⟨rfl, hb⟩
  replace HX := Lib.hid (HX.out.on hb)
  replace HB := Lib.hid (HB.out.trans (hb.mono HB.out.size)); clear hb
  have q0 : w1.cell? ⟨w.heap.size, 0, none⟩ = some (.slice xa na ca) := HX.out.cell 0
  have q1 : w1.cell? ⟨w.heap.size, 1, none⟩ = some (.slice xb m.length cb) := HX.out.cell 1
  have q2 : w1.cell? ⟨w.heap.size, 2, none⟩ = some (.slice xc nc cc) := HX.out.cell 2
  have q3 : w1.cell? ⟨w.heap.size, 3, none⟩ = some (.int .i64 f) := HX.out.cell 3
  have q4 : w1.cell? ⟨w.heap.size, 4, none⟩ = some (.int .i64 s) := HX.out.cell 4
  by_cases t1 : (bulk l : Int) ≤ left
  · rw [szL_fit t1]
    have g1 : ¬ left - (bulk l : Int) < 0 := by omega
    go_wp2_with fail
    clear q0 q1 q2 q3 q4
    refine (szByteS _ _ _ _ (left - (bulk l : Int)) h2 (by omega) (by omega)).mono ?_
    rintro e w2 ⟨rfl, rfl⟩
    have q0 : w1.cell? ⟨w.heap.size, 0, none⟩ = some (.slice xa na ca) := HX.out.cell 0
    have q1 : w1.cell? ⟨w.heap.size, 1, none⟩ = some (.slice xb m.length cb) := HX.out.cell 1
    have q2 : w1.cell? ⟨w.heap.size, 2, none⟩ = some (.slice xc nc cc) := HX.out.cell 2
    have q3 : w1.cell? ⟨w.heap.size, 3, none⟩ = some (.int .i64 f) := HX.out.cell 3
    have q4 : w1.cell? ⟨w.heap.size, 4, none⟩ = some (.int .i64 s) := HX.out.cell 4
    by_cases t2 : (m.length : Int) ≤ left - (bulk l : Int)
    · rw [if_pos t2]
      have g2 : ¬ left - (bulk l : Int) - (m.length : Int) < 0 := by omega
      go_wp2_with fail
      clear q0 q1 q2 q3 q4
      refine (szName _ k _ (left - (bulk l : Int) - (m.length : Int)) (H0.out.on HB.out).2.2 h3 S3.out (by omega) (by omega)).mono ?_
      rintro e w3 ⟨rfl, hb⟩
      replace HX := Lib.hid (HX.out.on hb)
      replace HB := Lib.hid (HB.out.trans (hb.mono HB.out.size)); clear hb
      have q0 : w3.cell? ⟨w.heap.size, 0, none⟩ = some (.slice xa na ca) := HX.out.cell 0
      have q1 : w3.cell? ⟨w.heap.size, 1, none⟩ = some (.slice xb m.length cb) := HX.out.cell 1
      have q2 : w3.cell? ⟨w.heap.size, 2, none⟩ = some (.slice xc nc cc) := HX.out.cell 2
      have q3 : w3.cell? ⟨w.heap.size, 3, none⟩ = some (.int .i64 f) := HX.out.cell 3
      have q4 : w3.cell? ⟨w.heap.size, 4, none⟩ = some (.int .i64 s) := HX.out.cell 4
      by_cases t3 : (bulk k : Int) ≤ left - (bulk l : Int) - (m.length : Int)
      · rw [szL_fit t3]
        have g3 : ¬ left - (bulk l : Int) - (m.length : Int) - (bulk k : Int) < 0 := by omega
        have HZ : Hid (szD (l, m, k, f, s) left = left - (bulk l : Int) - (m.length : Int) - (bulk k : Int)) := Lib.hid (by rw [szD_fit (by show ((bulk l + m.length + bulk k : Nat) : Int) ≤ left; omega)]; show left - ((bulk l + m.length + bulk k : Nat) : Int) = _; omega)
        go_wp2
        go_ret
        exact ⟨ret_int HZ.out.symm, HB.out⟩
      · rw [szL_not (by omega)]
        have hz : szD (l, m, k, f, s) left = -1 := szD_not (by show left < ((bulk l + m.length + bulk k : Nat) : Int); omega)
        have HZ := Lib.hid hz; clear hz
        go_wp2
        go_ret
        exact ⟨ret_int HZ.out.symm, HB.out⟩
    · rw [if_neg t2]
      have hz : szD (l, m, k, f, s) left = -1 := szD_not (by show left < ((bulk l + m.length + bulk k : Nat) : Int); omega)
      have HZ := Lib.hid hz; clear hz
      go_wp2
      go_ret
      exact ⟨ret_int HZ.out.symm, HB.out⟩
  · rw [szL_not (l := l) (left := left) (by omega)]
    have hz : szD (l, m, k, f, s) left = -1 := szD_not (by show left < ((bulk l + m.length + bulk k : Nat) : Int); omega)
    have HZ := Lib.hid hz; clear hz
    go_wp2
    go_ret
    exact ⟨ret_int HZ.out.symm, HB.out⟩
def advD (x : Dt) : Nat := x.1.length + x.2.1.length + x.2.2.1.length
theorem advD_big {x : Dt} {n : Nat} (h : bulkD x ≤ n) : advD x ≤ n := by have h1 := bulk_len x.1; have h2 := bulk_len x.2.2.1; unfold bulkD at h; unfold advD; omega
def mkD (k : Int) (x : Dt) : Dt := (marks markT k x.1.length, Sl.marks .u8 (k + x.1.length) x.2.1.length, marks markT (k + x.1.length + x.2.1.length) x.2.2.1.length, x.2.2.2)
set_option maxHeartbeats 2000000 in
theorem markData (B E : Nat) (a b c : Value) (x : Dt) (w : World) (k : Int) (h : DOwn B w a b c x) (hE : (∀ g, a.ownBlock = some g → g < E) ∧ (∀ g, b.ownBlock = some g → g < E) ∧ ∀ g, c.ownBlock = some g → g < E) (hl : advD x ≤ 100000000) (h0 : 0 ≤ k) (h1 : k ≤ 1000000000) :
    Calls Try.prog 25 #[.agg (dc a b c x.2.2.2.1 x.2.2.2.2), .int .i64 k] w fun e w' => e = .returned (.int .i64 (k + (advD x : Int))) ∧ DOwn B w' a b c (mkD k x) ∧ Wrote B E w w' := by
  obtain ⟨l, m, n, f, s⟩ := x
  obtain ⟨xa, na, ca, xb, nb, cb, xc, nc, cc, rfl, rfl, rfl⟩ := h.hold.shape
  obtain ⟨oa, ob, oc, ab, ac, bc⟩ := h
  have hl' : l.length + m.length + n.length ≤ 100000000 := hl
  simp only at oa ob oc ⊢
  have hal := (Below.refl w.heap.size w).alloc (Nat.le_refl _) (.cells (dc (.slice xa na ca) (.slice xb nb cb) (.slice xc nc cc) f s) 46)
  have HW := Lib.hid (Wrote.ofBelow (B := B) (E := E) hal)
  have HX := Lib.hid (Ret.Blk.new w (dc (.slice xa na ca) (.slice xb nb cb) (.slice xc nc cc) f s) 46)
  have OA := Lib.hid (oa.on hal); have OB := Lib.hid (Own.on (enc := Value.int .u8) ob hal); have OC := Lib.hid (oc.on hal)
  have LA := Lib.hid (fun g hg => And.intro (oa.lt g hg).1 (And.intro (oa.lt g hg).2 (hE.1 g hg)))
  have LB := Lib.hid (fun g hg => And.intro (ob.lt g hg).1 (And.intro (ob.lt g hg).2 (hE.2.1 g hg)))
  have LC := Lib.hid (fun g hg => And.intro (oc.lt g hg).1 (And.intro (oc.lt g hg).2 (hE.2.2 g hg)))
  have AB := Lib.hid ab; have AC := Lib.hid ac; have BC := Lib.hid bc
  clear oa ob oc ab ac bc hE hal hl
  go_enter Try.func25, Try.ntmps25
  go_wp2_with fail
  refine (markName B _ l _ k OA.out (by omega) h0 (by omega)).mono ?_
  rintro e w1 ⟨rfl, ho, hg⟩
  have OA1 := Lib.hid ho
  have OB1 := Lib.hid (Own.grown (enc := Value.int .u8) OB.out hg (apart_or AB.out.symm))
  have OC1 := Lib.hid (OC.out.grown hg (apart_or AC.out.symm))
  have HX1 := Lib.hid (HX.out.grown hg (fun e => by have h5 := (LA.out _ e.symm).2.1; omega))
  have HW1 := Lib.hid (HW.out.trans (Wrote.of hg (fun g hg => ⟨(LA.out g hg).1, (LA.out g hg).2.2⟩)))
  clear ho hg
  have q0 : w1.cell? ⟨w.heap.size, 0, none⟩ = some (.slice xa na ca) := HX1.out.cell 0
  have q1 : w1.cell? ⟨w.heap.size, 1, none⟩ = some (.slice xb nb cb) := HX1.out.cell 1
  have q2 : w1.cell? ⟨w.heap.size, 2, none⟩ = some (.slice xc nc cc) := HX1.out.cell 2
  have q3 : w1.cell? ⟨w.heap.size, 3, none⟩ = some (.int .i64 f) := HX1.out.cell 3
  have q4 : w1.cell? ⟨w.heap.size, 4, none⟩ = some (.int .i64 s) := HX1.out.cell 4
  go_wp2_with fail
  clear q0 q1 q2 q3 q4
  refine (Sl.markByteS B _ m _ (k + (l.length : Int)) OB1.out (by omega) (by omega) (by omega)).mono ?_
  rintro e w2 ⟨rfl, ho, hg⟩
  have OB2 := Lib.hid ho
  have OA2 := Lib.hid (OA1.out.grown hg (apart_or AB.out))
  have OC2 := Lib.hid (OC1.out.grown hg (apart_or BC.out.symm))
  have HX2 := Lib.hid (HX1.out.grown hg (fun e => by have h5 := (LB.out _ e.symm).2.1; omega))
  have HW2 := Lib.hid (HW1.out.trans (Wrote.of hg (fun g hg => ⟨(LB.out g hg).1, (LB.out g hg).2.2⟩)))
  clear ho hg
  have q0 : w2.cell? ⟨w.heap.size, 0, none⟩ = some (.slice xa na ca) := HX2.out.cell 0
  have q1 : w2.cell? ⟨w.heap.size, 1, none⟩ = some (.slice xb nb cb) := HX2.out.cell 1
  have q2 : w2.cell? ⟨w.heap.size, 2, none⟩ = some (.slice xc nc cc) := HX2.out.cell 2
  have q3 : w2.cell? ⟨w.heap.size, 3, none⟩ = some (.int .i64 f) := HX2.out.cell 3
  have q4 : w2.cell? ⟨w.heap.size, 4, none⟩ = some (.int .i64 s) := HX2.out.cell 4
  go_wp2_with fail
  clear q0 q1 q2 q3 q4
  refine (markName B _ n _ (k + (l.length : Int) + (m.length : Int)) OC2.out (by omega) (by omega) (by omega)).mono ?_
  rintro e w3 ⟨rfl, ho, hg⟩
  have OC3 := Lib.hid ho
  have OA3 := Lib.hid (OA2.out.grown hg (apart_or AC.out))
  have OB3 := Lib.hid (Own.grown (enc := Value.int .u8) OB2.out hg (apart_or BC.out))
  have HW3 := Lib.hid (HW2.out.trans (Wrote.of hg (fun g hg => ⟨(LC.out g hg).1, (LC.out g hg).2.2⟩)))
  clear ho hg
  go_wp2_with fail
  go_ret
  refine ⟨ret_int (by show _ = k + ((l.length + m.length + n.length : Nat) : Int); omega), ⟨OA3.out, OB3.out, OC3.out, AB.out, AC.out, BC.out⟩, HW3.out⟩
set_option maxHeartbeats 2000000 in
theorem heldData (a b c : Value) (w : World) (k : Int) (x : Dt) (h : DHold w a b c (mkD k x)) (hl : advD x ≤ 100000000) (h0 : 0 ≤ k) (h1 : k ≤ 1000000000) :
    Calls Try.prog 32 #[.agg (dc a b c x.2.2.2.1 x.2.2.2.2), .int .i64 k] w fun e w' => e = .returned (.int .i64 (k + (advD x : Int))) ∧ Below w.heap.size w w' := by
  obtain ⟨l, m, n, f, s⟩ := x
  obtain ⟨xa, na, ca, xb, nb, cb, xc, nc, cc, rfl, rfl, rfl⟩ := h.shape
  have hl' : l.length + m.length + n.length ≤ 100000000 := hl
  have HB := Lib.hid ((Below.refl w.heap.size w).alloc (Nat.le_refl _) (.cells (dc (.slice xa na ca) (.slice xb nb cb) (.slice xc nc cc) f s) 46))
  have H0 := Lib.hid h
  have HX := Lib.hid (Ret.Blk.new w (dc (.slice xa na ca) (.slice xb nb cb) (.slice xc nc cc) f s) 46)
  clear h hl
  go_enter Try.func32, Try.ntmps32
  go_wp2_with fail
  refine (heldName _ _ k l.length (H0.out.on HB.out).1 (by omega) h0 (by omega)).mono ?_
  rintro e w1 ⟨rfl, hb⟩
  replace HX := Lib.hid (HX.out.on hb)
  replace HB := Lib.hid (HB.out.trans (hb.mono HB.out.size)); clear hb
  have q0 : w1.cell? ⟨w.heap.size, 0, none⟩ = some (.slice xa na ca) := HX.out.cell 0
  have q1 : w1.cell? ⟨w.heap.size, 1, none⟩ = some (.slice xb nb cb) := HX.out.cell 1
  have q2 : w1.cell? ⟨w.heap.size, 2, none⟩ = some (.slice xc nc cc) := HX.out.cell 2
  have q3 : w1.cell? ⟨w.heap.size, 3, none⟩ = some (.int .i64 f) := HX.out.cell 3
  have q4 : w1.cell? ⟨w.heap.size, 4, none⟩ = some (.int .i64 s) := HX.out.cell 4
  have t1 : ¬ k + (l.length : Int) < 0 := by omega
  go_wp2_with fail
  clear q0 q1 q2 q3 q4
  refine (Sl.heldByteS _ _ (k + (l.length : Int)) m.length (H0.out.on HB.out).2.1 (by omega) (by omega) (by omega)).mono ?_
  rintro e w2 ⟨rfl, rfl⟩
  have q0 : w1.cell? ⟨w.heap.size, 0, none⟩ = some (.slice xa na ca) := HX.out.cell 0
  have q1 : w1.cell? ⟨w.heap.size, 1, none⟩ = some (.slice xb nb cb) := HX.out.cell 1
  have q2 : w1.cell? ⟨w.heap.size, 2, none⟩ = some (.slice xc nc cc) := HX.out.cell 2
  have q3 : w1.cell? ⟨w.heap.size, 3, none⟩ = some (.int .i64 f) := HX.out.cell 3
  have q4 : w1.cell? ⟨w.heap.size, 4, none⟩ = some (.int .i64 s) := HX.out.cell 4
  have t2 : ¬ k + (l.length : Int) + (m.length : Int) < 0 := by omega
  go_wp2_with fail
  clear q0 q1 q2 q3 q4
  refine (heldName _ _ (k + (l.length : Int) + (m.length : Int)) n.length (H0.out.on HB.out).2.2 (by omega) (by omega) (by omega)).mono ?_
  rintro e w3 ⟨rfl, hb⟩
  replace HB := Lib.hid (HB.out.trans (hb.mono HB.out.size)); clear hb
  have t3 : ¬ k + (l.length : Int) + (m.length : Int) + (n.length : Int) < 0 := by omega
  go_wp2_with fail
  go_ret
  exact ⟨ret_int (by show _ = k + ((l.length + m.length + n.length : Nat) : Int); omega), HB.out⟩
end Go.Proofs.Ythfljbbigpophaa.Row
/- Data packets in the words of the exact laws: the kind; the laws' helpers for it; a packet that came in as an argument. No conditions but that lengths fit. -/
namespace Go.Proofs.Ythfljbbigpophaa.Row
open Go.ChangeShapes Go.WideShapes Go.ChangeAt Go.RowKit Go.Instr
set_option linter.unusedVariables false
set_option maxRecDepth 100000
theorem u8one (x : Int) : (Value.int .u8 x).oneCell' = true := rfl
def kBs : Kd (List Int) (Rw Int) := kS 5 (Value.int .u8) u8one
def kD : Kd Dt (Rw ByteArray × Rw Int × Rw ByteArray × Int × Int) := (kNm 9).pair (kBs.pair ((kNm 9).pair (kInt.pair kInt)))
section
variable {w : World} {a b c V : Value} {x : Dt} {B E : Nat}
theorem kD_at (h : kD.At w V x) : ∃ a b c, V = .agg (dc a b c x.2.2.2.1 x.2.2.2.2) ∧ DHold w a b c x := by
  obtain ⟨⟨r, q, t, f, s⟩, rfl, rfl, h⟩ := h
  exact ⟨r.v, q.v, t.v, rfl, kNm_at (e := 9) ⟨r, rfl, rfl, h.1⟩, kS_at (h1 := u8one) (e := 5) ⟨q, rfl, rfl, h.2.1⟩, kNm_at (e := 9) ⟨t, rfl, rfl, h.2.2.1⟩⟩
theorem kD_of (h : DHold w a b c x) : kD.At w (.agg (dc a b c x.2.2.2.1 x.2.2.2.2)) x := by
  obtain ⟨l, m, k, f, s⟩ := x
  obtain ⟨r, rfl, e1, h1⟩ := kNm_of (e := 9) h.1
  obtain ⟨q, rfl, e2, h2⟩ := kS_of (enc := Value.int .u8) (h1 := u8one) (e := 5) h.2.1
  obtain ⟨t, rfl, e3, h3⟩ := kNm_of (e := 9) h.2.2
  exact ⟨(r, q, t, f, s), rfl, Prod.ext e1 (Prod.ext e2 (Prod.ext e3 rfl)), h1, h2, h3, trivial, trivial⟩
theorem nodup3 {u v t : Option Nat} : (u.toList ++ (v.toList ++ t.toList)).Nodup ↔ (∀ g, u = some g → v ≠ some g) ∧ (∀ g, u = some g → t ≠ some g) ∧ (∀ g, v = some g → t ≠ some g) := by
  cases u <;> cases v <;> cases t <;> simp <;> (try constructor) <;> (try intro h) <;> (try omega)
theorem kD_blocks (r : Rw ByteArray) (q : Rw Int) (t : Rw ByteArray) (f s : Int) : kD.blocks (r, q, t, f, s) = r.v.ownBlock.toList ++ (q.v.ownBlock.toList ++ t.v.ownBlock.toList) := by
  show (kNm 9).blocks r ++ (kBs.blocks q ++ ((kNm 9).blocks t ++ ([] ++ []))) = _
  rw [kNm_blocks, kNm_blocks, List.append_nil, List.append_nil]
  unfold kBs
  rw [kS_blocks]
theorem kD_mk (h : DOwn B w a b c x) (hE : (∀ g, a.ownBlock = some g → g < E) ∧ (∀ g, b.ownBlock = some g → g < E) ∧ ∀ g, c.ownBlock = some g → g < E) : kD.In B E w (.agg (dc a b c x.2.2.2.1 x.2.2.2.2)) x := by
  obtain ⟨l, m, k, f, s⟩ := x
  obtain ⟨o1, o2, o3, ab, ac, bc⟩ := h
  obtain ⟨r, rfl, e1, h1, -⟩ := kNm_mk o1 hE.1
  obtain ⟨q, rfl, e2, h2, -⟩ := kS_mk (h1 := u8one) (e := 5) (enc := Value.int .u8) o2 hE.2.1
  obtain ⟨t, rfl, e3, h3, -⟩ := kNm_mk o3 hE.2.2
  refine ⟨(r, q, t, f, s), rfl, Prod.ext e1 (Prod.ext e2 (Prod.ext e3 rfl)), ⟨h1, h2, h3, trivial, trivial⟩, ?_, ?_⟩
  · rw [kD_blocks]; exact nodup3.2 ⟨ab, ac, bc⟩
  · rw [kD_blocks]
    intro g hg
    rcases List.mem_append.1 hg with hg | hg
    · exact hE.1 g (show r.v.ownBlock = some g by simpa using hg)
    · rcases List.mem_append.1 hg with hg | hg
      · exact hE.2.1 g (show q.v.ownBlock = some g by simpa using hg)
      · exact hE.2.2 g (show t.v.ownBlock = some g by simpa using hg)
theorem kD_own (h : DOwn B w a b c x) : kD.In B w.heap.size w (.agg (dc a b c x.2.2.2.1 x.2.2.2.2)) x := kD_mk h ⟨fun g hg => (h.1.lt g hg).2, fun g hg => (Sl.Own.lt h.2.1 g hg).2, fun g hg => (h.2.2.1.lt g hg).2⟩
theorem kD_in (h : kD.In B E w V x) : ∃ a b c, V = .agg (dc a b c x.2.2.2.1 x.2.2.2.2) ∧ DOwn B w a b c x ∧ (∀ g, a.ownBlock = some g → g < E) ∧ (∀ g, b.ownBlock = some g → g < E) ∧ ∀ g, c.ownBlock = some g → g < E := by
  obtain ⟨⟨r, q, t, f, s⟩, rfl, rfl, h, hn, hl⟩ := h
  rw [kD_blocks] at hn hl
  obtain ⟨ab, ac, bc⟩ := nodup3.1 hn
  have la : ∀ g, r.v.ownBlock = some g → g < E := fun g hg => hl g (List.mem_append_left _ (by simp [hg]))
  have lb : ∀ g, q.v.ownBlock = some g → g < E := fun g hg => hl g (List.mem_append_right _ (List.mem_append_left _ (by simp [hg])))
  have lc : ∀ g, t.v.ownBlock = some g → g < E := fun g hg => hl g (List.mem_append_right _ (List.mem_append_right _ (by simp [hg])))
  have nd : ∀ u : Option Nat, u.toList.Nodup := fun u => by cases u <;> simp
  have i1 := kNm_in (E := E) (e := 9) ⟨r, rfl, rfl, h.1, by rw [kNm_blocks]; exact nd _, by rw [kNm_blocks]; intro g hg; exact la g (by simpa using hg)⟩
  have i2 := kS_in (E := E) (h1 := u8one) (e := 5) (enc := Value.int .u8) ⟨q, rfl, rfl, h.2.1, by rw [kS_blocks]; exact nd _, by rw [kS_blocks]; intro g hg; exact lb g (by simpa using hg)⟩
  have i3 := kNm_in (E := E) (e := 9) ⟨t, rfl, rfl, h.2.2.1, by rw [kNm_blocks]; exact nd _, by rw [kNm_blocks]; intro g hg; exact lc g (by simpa using hg)⟩
  exact ⟨r.v, q.v, t.v, rfl, ⟨i1.1, i2.1, i3.1, ab, ac, bc⟩, la, lb, lc⟩
theorem kD_shape (h : kD.In B E w V x) : ∃ xa na ca xb nb cb xc nc cc, V = .agg #[.slice xa na ca, .slice xb nb cb, .slice xc nc cc, .int .i64 x.2.2.2.1, .int .i64 x.2.2.2.2] ∧ kD.In B E w (.agg #[.slice xa na ca, .slice xb nb cb, .slice xc nc cc, .int .i64 x.2.2.2.1, .int .i64 x.2.2.2.2]) x := by
  obtain ⟨a, b, c, rfl, ho, -⟩ := kD_in h
  obtain ⟨xa, na, ca, xb, nb, cb, xc, nc, cc, rfl, rfl, rfl⟩ := ho.hold.shape
  exact ⟨_, _, _, _, _, _, _, _, _, rfl, h⟩
theorem kD_shapeA (h : kD.At w V x) : ∃ xa na ca xb nb cb xc nc cc, V = .agg #[.slice xa na ca, .slice xb nb cb, .slice xc nc cc, .int .i64 x.2.2.2.1, .int .i64 x.2.2.2.2] ∧ kD.At w (.agg #[.slice xa na ca, .slice xb nb cb, .slice xc nc cc, .int .i64 x.2.2.2.1, .int .i64 x.2.2.2.2]) x := by
  obtain ⟨a, b, c, rfl, ho⟩ := kD_at h
  obtain ⟨xa, na, ca, xb, nb, cb, xc, nc, cc, rfl, rfl, rfl⟩ := ho.shape
  exact ⟨_, _, _, _, _, _, _, _, _, rfl, h⟩
end
def WfD (x : Dt) : Prop := (∀ y ∈ x.1, y.size ≤ maxLen) ∧ (∀ y ∈ x.2.1, (Lit.int .u8 y).wf = true) ∧ (∀ y ∈ x.2.2.1, y.size ≤ maxLen) ∧ (Lit.int .i64 x.2.2.2.1).wf = true ∧ (Lit.int .i64 x.2.2.2.2).wf = true
theorem szDK (V : Value) (x : Dt) (w : World) (left : Int) (h : kD.At w V x) (hl : x.1.length ≤ 9223372036854775807 ∧ x.2.1.length ≤ 9223372036854775807 ∧ x.2.2.1.length ≤ 9223372036854775807) (hs : WfD x) (h0 : 0 ≤ left) (h1 : left ≤ 1048576) :
    Calls Try.prog 20 #[V, .int .i64 left] w fun e w' => e = .returned (.int .i64 (szD x left)) ∧ Below w.heap.size w w' := by
  obtain ⟨a, b, c, rfl, h9⟩ := kD_at h
  exact szData a b c x w left h9 hl.1 hl.2.1 hl.2.2 hs.1 hs.2.2.1 h0 h1
theorem toDK (V : Value) (x : Dt) (w : World) (h : kD.At w V x) (hl : bulkD x ≤ 100000000) :
    Calls Try.prog 22 #[V] w fun e w' => ∃ U, e = .returned U ∧ kD.In w.heap.size w'.heap.size w' U x ∧ Below w.heap.size w w' := by
  obtain ⟨a, b, c, rfl, h9⟩ := kD_at h
  have h1 := bulk_len x.1
  have h2 := bulk_len x.2.2.1
  unfold bulkD at hl
  exact (toData a b c x w h9 (by omega) (by omega) (by omega)).mono fun e w' ⟨a, b, c, p, q, r⟩ => ⟨_, p, kD_own q, r⟩
theorem sameDK (V U : Value) (x : Dt) (w : World) (h : kD.At w V x) (g : kD.At w U x) (hl : advD x ≤ 100000000) :
    Calls Try.prog 24 #[V, U] w fun e w' => e = .returned (.bool true) ∧ Below w.heap.size w w' := by
  obtain ⟨a, b, c, rfl, h9⟩ := kD_at h
  obtain ⟨a2, b2, c2, rfl, g9⟩ := kD_at g
  unfold advD at hl
  exact eqData a b c a2 b2 c2 x x w true (by simp) h9 g9 (by omega) (by omega) (by omega) (by omega) (by omega) (by omega)
theorem markDK (B E : Nat) (V : Value) (x : Dt) (w : World) (k : Int) (h : kD.In B E w V x) (hl : advD x ≤ 100000000) (h0 : 0 ≤ k) (h1 : k ≤ 1000000000) :
    Calls Try.prog 25 #[V, .int .i64 k] w fun e w' => e = .returned (.int .i64 (k + (advD x : Int))) ∧ kD.In B E w' V (mkD k x) ∧ Wrote B E w w' := by
  obtain ⟨a, b, c, rfl, ho, hE⟩ := kD_in h
  exact (markData B E a b c x w k ho hE hl h0 h1).mono fun e w' ⟨p, q, r⟩ => ⟨p, kD_mk (x := mkD k x) q hE, r⟩
theorem heldDK (V : Value) (w : World) (k : Int) (x : Dt) (h : kD.At w V (mkD k x)) (hl : advD x ≤ 100000000) (h0 : 0 ≤ k) (h1 : k ≤ 1000000000) :
    Calls Try.prog 32 #[V, .int .i64 k] w fun e w' => e = .returned (.int .i64 (k + (advD x : Int))) ∧ Below w.heap.size w w' := by
  obtain ⟨a, b, c, rfl, h9⟩ := kD_at h
  exact heldData a b c w k x h9 hl h0 h1
theorem open_bytes1 {H : Type} {enc : TypeId × Value → H} {P : Program} {w : World} {b2 n : Nat} {held : Bool} {e s : TypeId} {cs : List Value} {y0 : DataW H × List MemPlace} (he : P.underlying e = some (.slice s)) (hs : P.underlying s = some (.int .u8)) (hcs : P.cellsOf s = 1)
    (h0 : DataW.trod enc P w b2 (fun _ => true) held n e cs = some y0) : ∃ (ad : Option Addr) (k c : Nat) (l : List Int), cs = [.slice ad k c] ∧ Sl.Holds .u8 w (.slice ad k c) l ∧ (∀ x ∈ l, (Lit.int .u8 x).wf = true) ∧ l.length ≤ 9223372036854775807 := by
  have hmx : maxLen = 9223372036854775807 := rfl
  rcases open_ints he hs hcs h0 with ⟨hc, hx⟩ | ⟨a, len', cap', zs, hc, hb, hl, hm, hn, hx, hcell, hwz⟩
  · exact ⟨none, 0, 0, [], hc, Sl.Holds.nil _ _, by simp, by simp⟩
  · simp only [if_true] at hn
    have hlen : (zs.take len').length = len' := by rw [List.length_take]; omega
    refine ⟨some a, len', cap', zs.take len', hc, ⟨some a, cap', by rw [hlen], by rw [hlen]; exact hl, ?_⟩, fun n hnn => hwz n (List.mem_of_mem_take hnn), by rw [hlen, ← hmx]; exact Nat.le_trans hl hm⟩
    by_cases h0 : len' = 0
    · left; subst h0; simp
    · right
      obtain ⟨b, off, spot⟩ := a
      have h1 := hcell 0 (by omega)
      have hs : spot = none := by simpa [Addr.add] using World.cell?_spot h1
      subst hs
      refine ⟨b, off, rfl, fun i hi => ?_⟩
      rw [hlen] at hi
      have h2 := hcell i (by omega)
      rw [Go.WideShapes.add_plain] at h2
      rw [h2]
      simp only [Sl.nth, List.getD, List.getElem?_take, if_pos hi]
theorem five {α : Type} {cs : Array α} (h : cs.size = 5) : ∃ c0 c1 c2 c3 c4, cs = #[c0, c1, c2, c3, c4] := by
  obtain ⟨l⟩ := cs
  match l, h with
  | [c0, c1, c2, c3, c4], _ => exact ⟨c0, c1, c2, c3, c4, rfl⟩
theorem open_data {H : Type} {enc : TypeId × Value → H} {P : Program} {w : World} {base b2 : Nat} {held : Bool} {t ep eb : TypeId} {v : Value} {d : DataW H} {p : List MemPlace} {f0 f1 f2 f3 f4 g0 : Field}
    (he : P.underlying t = some (.struct #[f0, f1, f2, f3, f4])) (hN : P.underlying f0.type = some (.struct #[g0])) (hN2 : P.underlying f2.type = some (.struct #[g0])) (hg : P.underlying g0.type = some (.slice ep)) (hs : P.underlying ep = some .string) (hB : P.underlying f1.type = some (.slice eb)) (hb : P.underlying eb = some (.int .u8)) (hI3 : P.underlying f3.type = some (.int .i64)) (hI4 : P.underlying f4.type = some (.int .i64))
    (ho0 : f0.offset = 0) (ho1 : f1.offset = 1) (ho2 : f2.offset = 2) (ho3 : f3.offset = 3) (ho4 : f4.offset = 4) (hog : g0.offset = 0) (hc0 : P.cellsOf f0.type = 1) (hc1 : P.cellsOf f1.type = 1) (hc2 : P.cellsOf f2.type = 1) (hc3 : P.cellsOf f3.type = 1) (hc4 : P.cellsOf f4.type = 1) (hcg : P.cellsOf g0.type = 1) (hcs : P.cellsOf ep = 1) (hcb : P.cellsOf eb = 1) (hC : P.cellsOf t = 5)
    (hv : Value.okWide P w .any base t v) (h : DataW.Trod enc P w b2 (fun _ => true) held t v d p) :
    ∃ x, kD.At w v x ∧ WfD x ∧ x.1.length ≤ 9223372036854775807 ∧ x.2.1.length ≤ 9223372036854775807 ∧ x.2.2.1.length ≤ 9223372036854775807 := by
  obtain ⟨cs, rfl, hcz⟩ := okWide_struct he hv
  obtain ⟨fuel, hfu⟩ := h
  obtain ⟨xs, n2, -, -, -, hlen, hf⟩ := DataW.trod_struct he hfu
  have hlen5 : xs.length = 5 := hlen
  obtain ⟨y0, y1, y2, y3, y4, rfl⟩ : ∃ y0 y1 y2 y3 y4, xs = [y0, y1, y2, y3, y4] := by
    match xs, hlen5 with
    | [y0, y1, y2, y3, y4], _ => exact ⟨y0, y1, y2, y3, y4, rfl⟩
  have q0 := hf 0 f0 rfl
  have q1 := hf 1 f1 rfl
  have q2 := hf 2 f2 rfl
  have q3 := hf 3 f3 rfl
  have q4 := hf 4 f4 rfl
  simp only [List.getElem?_cons_zero, List.getElem?_cons_succ] at q0 q1 q2 q3 q4
  rw [ho0, hc0] at q0
  rw [ho1, hc1] at q1
  rw [ho2, hc2] at q2
  rw [ho3, hc3] at q3
  rw [ho4, hc4] at q4
  obtain ⟨z0, n3, -, -, q0⟩ := trod_struct1 hN q0
  rw [hog, hcg] at q0
  obtain ⟨z2, n4, -, -, q2⟩ := trod_struct1 hN2 q2
  rw [hog, hcg] at q2
  obtain ⟨a1, k1, c1, l, e0, hh, hz, hln⟩ := open_strs1 hg hs hcs q0
  obtain ⟨a2, k2, c2, m, e1, hh2, hz2, hln2⟩ := open_bytes1 hB hb hcb q1
  obtain ⟨a3, k3, c3, k, e2, hh3, hz3, hln3⟩ := open_strs1 hg hs hcs q2
  obtain ⟨v3, e3, -, w3⟩ := DataW.trod_int hI3 q3
  obtain ⟨v4, e4, -, w4⟩ := DataW.trod_int hI4 q4
  obtain ⟨u0, u1, u2, u3, u4, rfl⟩ := five (hcz.trans hC)
  simp [Value.cells] at e0 e1 e2 e3 e4
  subst e0 e1 e2 e3 e4
  exact ⟨(l, m, k, v3, v4), kD_of (x := (l, m, k, v3, v4)) ⟨hh, hh2, hh3⟩, ⟨hz, hz2, hz3, w3, w4⟩, hln, hln2, hln3⟩
end Go.Proofs.Ythfljbbigpophaa.Row
/- Contracts of the model's functions on interests: validity, copy, equality, the hop limit. No conditions but that lengths fit. -/
namespace Go.Proofs.Ythfljbbigpophaa.Row
open Go.ChangeShapes Go.WideShapes Go.ChangeAt Go.RowKit Go.Instr
set_option linter.unusedVariables false
set_option maxRecDepth 100000
abbrev Wt := List ByteArray × Int × Int × Int
def validW (x : Wt) : Bool := validN x.1 && decide (0 < x.1.length) && decide (0 ≤ x.2.1 ∧ x.2.1 ≤ 1000000) && decide (0 ≤ x.2.2.1 ∧ x.2.2.1 ≤ 16) && decide (1 ≤ x.2.2.2 ∧ x.2.2.2 ≤ 20)
def GivesW (w : World) (x : Wt) (e : Ending) (w' : World) : Prop := ∃ v', e = .returned (.agg (wc v' x.2.1 x.2.2.1 x.2.2.2)) ∧ Own 9 Value.string w.heap.size w' v' x.1 ∧ Below w.heap.size w w'
def GivesWB (w : World) (x : Wt) (z : Bool) (e : Ending) (w' : World) : Prop := ∃ v', e = .returned (.tuple #[.agg (wc v' x.2.1 x.2.2.1 x.2.2.2), .bool z]) ∧ Own 9 Value.string w.heap.size w' v' x.1 ∧ Below w.heap.size w w'
def decW (x : Wt) : Wt := if x.2.2.1 < 1 then x else (x.1, x.2.1, x.2.2.1 - 1, x.2.2.2)
def decOk (x : Wt) : Bool := decide (1 ≤ x.2.2.1)
end Go.Proofs.Ythfljbbigpophaa.Row
/- Contracts of ReadBytes, the reference model's and the program's: the bytes behind the length at the offset, the offset behind them, true; or an empty slice, 0 and false. What is returned lies in memory of the call's own. No conditions but that the elements are bytes and the lengths fit. -/
namespace Go.Proofs.Ythfljbbigpophaa.Sl
open Go.ChangeShapes Go.WideShapes Go.ChangeAt Go.RowKit Go.Instr
set_option linter.unusedVariables false
set_option maxRecDepth 100000
def readB (l : List Int) (i most : Int) : List Int × Int × Bool :=
  let r := Var.readV l i
  if r.2.2 = false ∨ most < r.1 ∨ (l.length : Int) - r.2.1 < r.1 then ([], 0, false)
  else ((l.drop r.2.1.toNat).take r.1.toNat, r.2.1 + r.1, true)
theorem Holds.part {k : IntKind} {w : World} {b off n cap : Nat} {l : List Int} (h : Holds k w (.slice (some ⟨b, off, none⟩) n cap) l) {a c c' cc : Nat} (hc : a + c ≤ n) (hcc : c ≤ cc) (he : c' = c) :
    Holds k w (.slice (some ⟨b, off + a, none⟩) c' cc) ((l.drop a).take c) := by
  rw [he]; clear he
  have hn := h.lenEq; subst hn
  have hl : ((l.drop a).take c).length = c := by simp; omega
  refine ⟨_, cc, by rw [hl], by rw [hl]; exact hcc, ?_⟩
  by_cases h0 : c = 0
  · left; subst h0; simp
  · right
    refine ⟨b, off + a, rfl, fun j hj => ?_⟩
    rw [hl] at hj
    obtain ⟨b', off', hx, hcell⟩ := h.at (j := a + j) (by omega)
    cases hx
    rw [Nat.add_assoc, hcell]
    simp only [nth, List.getD, List.getElem?_take, List.getElem?_drop, if_pos hj]
def GivesB3 (w : World) (l : List Int) (n : Int) (ok : Bool) (e : Ending) (w' : World) : Prop := ∃ v, e = .returned (.tuple #[v, .int .i64 n, .bool ok]) ∧ Own 5 .u8 w.heap.size w' v l ∧ Below w.heap.size w w'
theorem GivesB3.of {w w' : World} {v : Value} {l m : List Int} {n p : Int} {a b : Bool} (h : (l, n, a) = (m, p, b)) (ho : Own 5 .u8 w.heap.size w' v l) (hb : Below w.heap.size w w') :
    GivesB3 w m p b (.returned (.tuple #[v, .int .i64 n, .bool a])) w' := by
  cases h; exact ⟨v, rfl, ho, hb⟩
end Go.Proofs.Ythfljbbigpophaa.Sl
/- Contract of the model's EncodeInterest. No conditions but that lengths fit. -/
namespace Go.Proofs.Ythfljbbigpophaa.Sl
open Go.ChangeShapes Go.WideShapes Go.ChangeAt Go.RowKit Go.Instr
set_option linter.unusedVariables false
end Go.Proofs.Ythfljbbigpophaa.Sl
namespace Go.Proofs.Ythfljbbigpophaa.Row
open Go.ChangeShapes Go.WideShapes Go.ChangeAt Go.RowKit Go.Instr
set_option linter.unusedVariables false
set_option maxRecDepth 100000
def encW (x : Wt) : List Int := if validW x = true then appName [] x.1 ++ Sl.encs [x.2.1, x.2.2.1, x.2.2.2] else []
end Go.Proofs.Ythfljbbigpophaa.Row
/- Contract of the model's ReadName. No conditions but that lengths fit. -/
namespace Go.Proofs.Ythfljbbigpophaa.Row
open Go.ChangeShapes Go.WideShapes Go.ChangeAt Go.RowKit Go.Instr
set_option linter.unusedVariables false
set_option maxRecDepth 100000
def rdP : Nat → List Int → Int → List ByteArray → Option (List ByteArray × Int)
  | 0, _, i, acc => some (acc, i)
  | k + 1, b, i, acc => if (Sl.readB b i 8).2.2 = true then rdP k b (Sl.readB b i 8).2.1 (acc ++ [strOfNums (Sl.readB b i 8).1]) else none
def rdN (b : List Int) (i : Int) : List ByteArray × Int × Bool :=
  if (Var.readV b i).2.2 = false ∨ 6 < (Var.readV b i).1 then ([], 0, false)
  else match rdP (Var.readV b i).1.toNat b (Var.readV b i).2.1 [] with
    | none => ([], 0, false)
    | some (l, j) => if validN l = true then (l, j, true) else ([], 0, false)
def GivesN3 (w : World) (l : List ByteArray) (n : Int) (ok : Bool) (e : Ending) (w' : World) : Prop := ∃ v, e = .returned (.tuple #[.agg #[v], .int .i64 n, .bool ok]) ∧ Own 9 Value.string w.heap.size w' v l ∧ Below w.heap.size w w'
end Go.Proofs.Ythfljbbigpophaa.Row
namespace Go.Proofs.Ythfljbbigpophaa.Ret
variable {P : Program}
end Go.Proofs.Ythfljbbigpophaa.Ret
namespace Go.Proofs.Ythfljbbigpophaa.Row
open Go.ChangeShapes Go.WideShapes Go.ChangeAt Go.RowKit Go.Instr
set_option linter.unusedVariables false
set_option maxRecDepth 100000
end Go.Proofs.Ythfljbbigpophaa.Row
/- Contracts of DecodeInts, the reference model's and the program's: so many numbers at the offset, the offset behind them, true; or an empty slice, 0 and false. What is returned lies in memory of the call's own. No conditions but that the elements are bytes and the length fits. -/
namespace Go.Proofs.Ythfljbbigpophaa.Sl
open Go.ChangeShapes Go.WideShapes Go.ChangeAt Go.RowKit Go.Instr
set_option linter.unusedVariables false
set_option maxRecDepth 100000
def decA : Nat → List Int → Int → List Int → List Int × Int × Bool
  | 0, _, i, acc => (acc, i, true)
  | k + 1, l, i, acc => if (Var.readV l i).2.2 = true then decA k l (Var.readV l i).2.1 (acc ++ [(Var.readV l i).1]) else ([], 0, false)
def readIs (l : List Int) (i n : Int) : List Int × Int × Bool := if (0 ≤ n ∧ n ≤ 100) ∧ 0 ≤ i ∧ i ≤ l.length then decA n.toNat l i [] else ([], 0, false)
def GivesI3 (w : World) (l : List Int) (n : Int) (ok : Bool) (e : Ending) (w' : World) : Prop := ∃ v, e = .returned (.tuple #[v, .int .i64 n, .bool ok]) ∧ Own 3 .i64 w.heap.size w' v l ∧ Below w.heap.size w w'
theorem GivesI3.of {w w' : World} {v : Value} {l m : List Int} {n p : Int} {a b : Bool} (h : (l, n, a) = (m, p, b)) (ho : Own 3 .i64 w.heap.size w' v l) (hb : Below w.heap.size w w') :
    GivesI3 w m p b (.returned (.tuple #[v, .int .i64 n, .bool a])) w' := by
  cases h; exact ⟨v, rfl, ho, hb⟩
end Go.Proofs.Ythfljbbigpophaa.Sl
/- Plain mathematics: what the encoding writes is read back, and what is read is what the encoding writes. No program in sight. -/
namespace Go.Proofs.Ythfljbbigpophaa.Var
open Sl (Byt)
end Go.Proofs.Ythfljbbigpophaa.Var
/- Contract of the model's DecodeInterest. No conditions but that lengths fit. -/
namespace Go.Proofs.Ythfljbbigpophaa.Row
open Go.ChangeShapes Go.WideShapes Go.ChangeAt Go.RowKit Go.Instr
set_option linter.unusedVariables false
set_option maxRecDepth 100000
def w0 : Wt := ([], 0, 0, 0)
def gotW (b : List Int) : Wt := ((rdN b 0).1, Sl.nth (Sl.readIs b (rdN b 0).2.1 3).1 0, Sl.nth (Sl.readIs b (rdN b 0).2.1 3).1 1, Sl.nth (Sl.readIs b (rdN b 0).2.1 3).1 2)
def dcW (b : List Int) : Wt × Bool :=
  if (rdN b 0).2.2 = true ∧ (Sl.readIs b (rdN b 0).2.1 3).2.2 = true ∧ (Sl.readIs b (rdN b 0).2.1 3).2.1 = b.length ∧ validW (gotW b) = true then (gotW b, true) else (w0, false)
end Go.Proofs.Ythfljbbigpophaa.Row
/- Contracts of the model's functions on data packets: copy, validity, freshness, equality. No conditions but that lengths fit. -/
namespace Go.Proofs.Ythfljbbigpophaa.Row
open Go.ChangeShapes Go.WideShapes Go.ChangeAt Go.RowKit Go.Instr
set_option linter.unusedVariables false
set_option maxRecDepth 100000
def GivesD (w : World) (x : Dt) (e : Ending) (w' : World) : Prop := ∃ a b c, e = .returned (.agg (dc a b c x.2.2.2.1 x.2.2.2.2)) ∧ DOwn w.heap.size w' a b c x ∧ Below w.heap.size w w'
def GivesDB (w : World) (x : Dt) (z : Bool) (e : Ending) (w' : World) : Prop := ∃ a b c, e = .returned (.tuple #[.agg (dc a b c x.2.2.2.1 x.2.2.2.2), .bool z]) ∧ DOwn w.heap.size w' a b c x ∧ Below w.heap.size w w'
set_option maxHeartbeats 4000000 in
theorem l8Copy (a b c : Value) (x : Dt) (w : World) (h : DHold w a b c x) (h1 : x.1.length ≤ 9000000) (h2 : x.2.1.length ≤ 9000000) (h3 : x.2.2.1.length ≤ 9000000) :
    Calls Try.prog 57 #[.agg (dc a b c x.2.2.2.1 x.2.2.2.2)] w (GivesD w x) := by
  obtain ⟨l, m, k, f, s⟩ := x
  unfold GivesD
  simp only at h1 h2 h3 ⊢
  obtain ⟨xa, na, ca, xb, nb, cb, xc, nc, cc, rfl, rfl, rfl⟩ := h.shape
  have hb0 := (Below.refl w.heap.size w).alloc (Nat.le_refl _) (.cells (dc (.slice xa na ca) (.slice xb nb cb) (.slice xc nc cc) f s) 46)
  have hb1 := hb0.alloc (by simp) (.cells (dc nil nil nil 0 0) 46)
  have hb2 := hb1.alloc (by simp; omega) (.cells (dc (.slice xa na ca) (.slice xb nb cb) (.slice xc nc cc) f s) 46)
  have HB := Lib.hid hb2
  have H0 := Lib.hid h
  have HX := Lib.hid (((Ret.Blk.new w (dc (.slice xa na ca) (.slice xb nb cb) (.slice xc nc cc) f s) 46).on ((Below.refl _ _).alloc (Nat.le_refl _) (.cells (dc nil nil nil 0 0) 46))).on ((Below.refl _ _).alloc (Nat.le_refl _) (.cells (dc (.slice xa na ca) (.slice xb nb cb) (.slice xc nc cc) f s) 46)))
  have HR := Lib.hid ((Ret.Blk.new' (w := (w.alloc (.cells (dc (.slice xa na ca) (.slice xb nb cb) (.slice xc nc cc) f s) 46))) (n := w.heap.size + 1) (dc nil nil nil 0 0) 46 (by simp)).on ((Below.refl _ _).alloc (Nat.le_refl _) (.cells (dc (.slice xa na ca) (.slice xb nb cb) (.slice xc nc cc) f s) 46)))
  have HL := Lib.hid (Ret.Blk.new' (w := (w.alloc (.cells (dc (.slice xa na ca) (.slice xb nb cb) (.slice xc nc cc) f s) 46)).alloc (.cells (dc nil nil nil 0 0) 46)) (n := w.heap.size + 1 + 1) (dc (.slice xa na ca) (.slice xb nb cb) (.slice xc nc cc) f s) 46 (by simp))
  have hz0 : (((w.alloc (.cells (dc (.slice xa na ca) (.slice xb nb cb) (.slice xc nc cc) f s) 46)).alloc (.cells (dc nil nil nil 0 0) 46)).alloc (.cells (dc (.slice xa na ca) (.slice xb nb cb) (.slice xc nc cc) f s) 46)).heap.size = w.heap.size + 3 := by simp
  have hml : m.length * 1 ≤ 9000000 := by omega
  clear h hb0 hb1 hb2
  go_enter Try.func57, Try.ntmps57
  go_wp2_with fail
  refine (l4Copy _ l _ (H0.out.on HB.out).1 (by omega)).mono ?_
  rintro e w1 ⟨a1, rfl, ho1, hb1⟩
  obtain ⟨ya, ma, da, rfl, -, -, ho1⟩ := ho1.shapeN
  have hs1 := hb1.size
  rw [hz0] at ho1 hs1
  replace HX := Lib.hid (HX.out.on hb1); replace HR := Lib.hid (HR.out.on hb1); replace HL := Lib.hid (HL.out.on hb1)
  replace HB := Lib.hid (HB.out.trans (hb1.mono HB.out.size))
  have HO1 := Lib.hid ho1
  have HLA := Lib.hid (fun g hg => (ho1.lt g hg).2)
  clear ho1 hb1 hz0
  have q0 : w1.cell? ⟨w.heap.size, 0, none⟩ = some (.slice xa na ca) := HX.out.cell 0
  have q1 : w1.cell? ⟨w.heap.size, 1, none⟩ = some (.slice xb nb cb) := HX.out.cell 1
  have q2 : w1.cell? ⟨w.heap.size, 2, none⟩ = some (.slice xc nc cc) := HX.out.cell 2
  have q3 : w1.cell? ⟨w.heap.size, 3, none⟩ = some (.int .i64 f) := HX.out.cell 3
  have q4 : w1.cell? ⟨w.heap.size, 4, none⟩ = some (.int .i64 s) := HX.out.cell 4
  have p0 : w1.cell? ⟨w.heap.size + 1 + 1, 0, none⟩ = some (.slice xa na ca) := HL.out.cell 0
  have p1 : w1.cell? ⟨w.heap.size + 1 + 1, 1, none⟩ = some (.slice xb nb cb) := HL.out.cell 1
  have p2 : w1.cell? ⟨w.heap.size + 1 + 1, 2, none⟩ = some (.slice xc nc cc) := HL.out.cell 2
  have p3 : w1.cell? ⟨w.heap.size + 1 + 1, 3, none⟩ = some (.int .i64 f) := HL.out.cell 3
  have p4 : w1.cell? ⟨w.heap.size + 1 + 1, 4, none⟩ = some (.int .i64 s) := HL.out.cell 4
  have t0 := HL.out.frozen 0; have t1 := HL.out.frozen 1; have t2 := HL.out.frozen 2; have t3 := HL.out.frozen 3; have t4 := HL.out.frozen 4
  go_upto_region 3 with fail
  clear q0 q1 q2 q3 q4 p0 p1 p2 p3 p4 t0 t1 t2 t3 t4
  replace HX := Lib.hid (HX.out.other (a := ⟨w.heap.size + 1 + 1, 0, none⟩) (by show w.heap.size + 1 + 1 ≠ w.heap.size; omega) (.slice ya ma da))
  replace HR := Lib.hid (HR.out.other (a := ⟨w.heap.size + 1 + 1, 0, none⟩) (by show w.heap.size + 1 + 1 ≠ w.heap.size + 1; omega) (.slice ya ma da))
  replace HL := Lib.hid (HL.out.set 0 (.slice ya ma da))
  replace HB := Lib.hid (HB.out.setCell (p := ⟨w.heap.size + 1 + 1, 0, none⟩) (by show w.heap.size ≤ w.heap.size + 1 + 1; omega) (.slice ya ma da))
  replace HO1 := Lib.hid (own_set (g := w.heap.size + 1 + 1) (i := 0) (u := .slice ya ma da) HO1.out (by omega))
  have hzs : (w1.setCell ⟨w.heap.size + 1 + 1, 0, none⟩ (.slice ya ma da)).heap.size = w1.heap.size := by simp [World.setCell]
  rw [← hzs] at HLA hs1
  clear hzs
  generalize w1.setCell ⟨w.heap.size + 1 + 1, 0, none⟩ (.slice ya ma da) = W at *
  have hal : Below W.heap.size W (W.alloc (.cells #[] 5)) := (Below.refl _ _).alloc (Nat.le_refl _) _
  have HOE := Lib.hid (Sl.own_empty .u8 5 W)
  have HHE := Lib.hid ((H0.out.on HB.out).2.1.on hal)
  have q0 : W.cell? ⟨w.heap.size, 0, none⟩ = some (.slice xa na ca) := HX.out.cell 0
  have q1 : W.cell? ⟨w.heap.size, 1, none⟩ = some (.slice xb nb cb) := HX.out.cell 1
  have q2 : W.cell? ⟨w.heap.size, 2, none⟩ = some (.slice xc nc cc) := HX.out.cell 2
  have q3 : W.cell? ⟨w.heap.size, 3, none⟩ = some (.int .i64 f) := HX.out.cell 3
  have q4 : W.cell? ⟨w.heap.size, 4, none⟩ = some (.int .i64 s) := HX.out.cell 4
  have p0 : W.cell? ⟨w.heap.size + 1 + 1, 0, none⟩ = some (.slice ya ma da) := HL.out.cell 0
  have p1 : W.cell? ⟨w.heap.size + 1 + 1, 1, none⟩ = some (.slice xb nb cb) := HL.out.cell 1
  have p2 : W.cell? ⟨w.heap.size + 1 + 1, 2, none⟩ = some (.slice xc nc cc) := HL.out.cell 2
  have p3 : W.cell? ⟨w.heap.size + 1 + 1, 3, none⟩ = some (.int .i64 f) := HL.out.cell 3
  have p4 : W.cell? ⟨w.heap.size + 1 + 1, 4, none⟩ = some (.int .i64 s) := HL.out.cell 4
  have t0 := HL.out.frozen 0; have t1 := HL.out.frozen 1; have t2 := HL.out.frozen 2; have t3 := HL.out.frozen 3; have t4 := HL.out.frozen 4
  have q1a := kc q1 hal
  go_wp2_with (at_builtin; refine Sl.wpList_app (k := .u8) (B := W.heap.size) (l := []) (m := m) rfl _ _ rfl Try.underlying39 Sl.elemBYTE rfl rfl rfl HOE.out HHE.out ?_ (by decide) ?_ ?_)
  all_goals first | (intro v2 w2 ho2 hg2; skip) | omega | (simp; omega) | simp
  obtain ⟨yb, mb, db, rfl, -, -, ho2⟩ := Own.shapeN (enc := Value.int .u8) ho2
  replace ho2 : Sl.Own 5 .u8 W.heap.size w2 (.slice yb mb db) m := ho2
  have hs2 : W.heap.size ≤ w2.heap.size := Nat.le_trans hal.size hg2.size
  have HLB := Lib.hid (fun g hg => (ho2.lt g hg).2)
  have hrow : ∀ q, q < W.heap.size → some q ≠ (Value.slice (some ⟨W.heap.size, 0, none⟩) 0 0).ownBlock := fun q hq e => by have h5 : q = W.heap.size := Option.some.inj e; omega
  replace HX := Lib.hid ((HX.out.on hal).grown hg2 (hrow _ (by omega))); replace HR := Lib.hid ((HR.out.on hal).grown hg2 (hrow _ (by omega))); replace HL := Lib.hid ((HL.out.on hal).grown hg2 (hrow _ (by omega)))
  replace HO1 := Lib.hid ((HO1.out.on hal).grown hg2 (by
    cases hv : (Value.slice ya ma da).ownBlock with
    | none => exact Or.inl rfl
    | some q => exact Or.inr (hrow q (HLA.out q hv))))
  replace HB := Lib.hid ((HB.out.trans (hal.mono HB.out.size)).grown hg2 (Nat.le_trans HB.out.size hal.size) (fun g e => by have h5 : W.heap.size = g := Option.some.inj e; have h6 := HB.out.size; omega))
  have HO2 := Lib.hid ho2
  clear ho2 hg2 hal hrow HOE HHE q1a q0 q1 q2 q3 q4 p0 p1 p2 p3 p4 t0 t1 t2 t3 t4
  have q0 : w2.cell? ⟨w.heap.size, 0, none⟩ = some (.slice xa na ca) := HX.out.cell 0
  have q1 : w2.cell? ⟨w.heap.size, 1, none⟩ = some (.slice xb nb cb) := HX.out.cell 1
  have q2 : w2.cell? ⟨w.heap.size, 2, none⟩ = some (.slice xc nc cc) := HX.out.cell 2
  have q3 : w2.cell? ⟨w.heap.size, 3, none⟩ = some (.int .i64 f) := HX.out.cell 3
  have q4 : w2.cell? ⟨w.heap.size, 4, none⟩ = some (.int .i64 s) := HX.out.cell 4
  have p0 : w2.cell? ⟨w.heap.size + 1 + 1, 0, none⟩ = some (.slice ya ma da) := HL.out.cell 0
  have p1 : w2.cell? ⟨w.heap.size + 1 + 1, 1, none⟩ = some (.slice xb nb cb) := HL.out.cell 1
  have p2 : w2.cell? ⟨w.heap.size + 1 + 1, 2, none⟩ = some (.slice xc nc cc) := HL.out.cell 2
  have p3 : w2.cell? ⟨w.heap.size + 1 + 1, 3, none⟩ = some (.int .i64 f) := HL.out.cell 3
  have p4 : w2.cell? ⟨w.heap.size + 1 + 1, 4, none⟩ = some (.int .i64 s) := HL.out.cell 4
  have t0 := HL.out.frozen 0; have t1 := HL.out.frozen 1; have t2 := HL.out.frozen 2; have t3 := HL.out.frozen 3; have t4 := HL.out.frozen 4
  go_wp2_with fail
  clear q0 q1 q2 q3 q4 p0 p1 p2 p3 p4 t0 t1 t2 t3 t4
  replace HX := Lib.hid (HX.out.other (a := ⟨w.heap.size + 1 + 1, 1, none⟩) (by show w.heap.size + 1 + 1 ≠ w.heap.size; omega) (.slice yb mb db))
  replace HR := Lib.hid (HR.out.other (a := ⟨w.heap.size + 1 + 1, 1, none⟩) (by show w.heap.size + 1 + 1 ≠ w.heap.size + 1; omega) (.slice yb mb db))
  replace HL := Lib.hid (HL.out.set 1 (.slice yb mb db))
  replace HB := Lib.hid (HB.out.setCell (p := ⟨w.heap.size + 1 + 1, 1, none⟩) (by show w.heap.size ≤ w.heap.size + 1 + 1; omega) (.slice yb mb db))
  replace HO1 := Lib.hid (own_set (g := w.heap.size + 1 + 1) (i := 1) (u := .slice yb mb db) HO1.out (by omega))
  replace HO2 := Lib.hid (sl_own_set (g := w.heap.size + 1 + 1) (i := 1) (u := .slice yb mb db) HO2.out (by omega))
  refine (l4Copy _ k _ (H0.out.on HB.out).2.2 (by omega)).mono ?_
  rintro e w3 ⟨c1, rfl, ho3, hb3⟩
  obtain ⟨yc, mc, dc_, rfl, -, -, ho3⟩ := ho3.shapeN
  have hs3 := hb3.size
  simp only [World.size_setCell] at hs3 ho3
  replace HX := Lib.hid (HX.out.on hb3); replace HR := Lib.hid (HR.out.on hb3); replace HL := Lib.hid (HL.out.on hb3)
  replace HO1 := Lib.hid (HO1.out.on hb3); replace HO2 := Lib.hid (HO2.out.on hb3)
  replace HB := Lib.hid (HB.out.trans (hb3.mono HB.out.size))
  have HO3 := Lib.hid ho3
  clear ho3 hb3
  have q0 : w3.cell? ⟨w.heap.size, 0, none⟩ = some (.slice xa na ca) := HX.out.cell 0
  have q1 : w3.cell? ⟨w.heap.size, 1, none⟩ = some (.slice xb nb cb) := HX.out.cell 1
  have q2 : w3.cell? ⟨w.heap.size, 2, none⟩ = some (.slice xc nc cc) := HX.out.cell 2
  have q3 : w3.cell? ⟨w.heap.size, 3, none⟩ = some (.int .i64 f) := HX.out.cell 3
  have q4 : w3.cell? ⟨w.heap.size, 4, none⟩ = some (.int .i64 s) := HX.out.cell 4
  have p0 : w3.cell? ⟨w.heap.size + 1 + 1, 0, none⟩ = some (.slice ya ma da) := HL.out.cell 0
  have p1 : w3.cell? ⟨w.heap.size + 1 + 1, 1, none⟩ = some (.slice yb mb db) := HL.out.cell 1
  have p2 : w3.cell? ⟨w.heap.size + 1 + 1, 2, none⟩ = some (.slice xc nc cc) := HL.out.cell 2
  have p3 : w3.cell? ⟨w.heap.size + 1 + 1, 3, none⟩ = some (.int .i64 f) := HL.out.cell 3
  have p4 : w3.cell? ⟨w.heap.size + 1 + 1, 4, none⟩ = some (.int .i64 s) := HL.out.cell 4
  have t0 := HL.out.frozen 0; have t1 := HL.out.frozen 1; have t2 := HL.out.frozen 2; have t3 := HL.out.frozen 3; have t4 := HL.out.frozen 4
  have r0 : w3.cell? ⟨w.heap.size + 1, 0, none⟩ = some (.slice none 0 0) := HR.out.cell 0
  have r1 : w3.cell? ⟨w.heap.size + 1, 1, none⟩ = some (.slice none 0 0) := HR.out.cell 1
  have r2 : w3.cell? ⟨w.heap.size + 1, 2, none⟩ = some (.slice none 0 0) := HR.out.cell 2
  have r3 : w3.cell? ⟨w.heap.size + 1, 3, none⟩ = some (.int .i64 0) := HR.out.cell 3
  have r4 : w3.cell? ⟨w.heap.size + 1, 4, none⟩ = some (.int .i64 0) := HR.out.cell 4
  have u0 := HR.out.frozen 0; have u1 := HR.out.frozen 1; have u2 := HR.out.frozen 2; have u3 := HR.out.frozen 3; have u4 := HR.out.frozen 4
  have Z1 := Lib.hid ((((((HR.out.other (a := ⟨w.heap.size + 1 + 1, 2, none⟩) (by show w.heap.size + 1 + 1 ≠ w.heap.size + 1; omega) (.slice yc mc dc_)).set 0 (.slice ya ma da)).set 1 (.slice yb mb db)).set 2 (.slice yc mc dc_)).set 3 (.int .i64 f)).set 4 (.int .i64 s))
  have Z2 := Lib.hid (own_set (g := w.heap.size + 1) (i := 4) (u := .int .i64 s) (own_set (g := w.heap.size + 1) (i := 3) (u := .int .i64 f) (own_set (g := w.heap.size + 1) (i := 2) (u := .slice yc mc dc_) (own_set (g := w.heap.size + 1) (i := 1) (u := .slice yb mb db) (own_set (g := w.heap.size + 1) (i := 0) (u := .slice ya ma da) (own_set (g := w.heap.size + 1 + 1) (i := 2) (u := .slice yc mc dc_) HO1.out (by omega)) (by omega)) (by omega)) (by omega)) (by omega)) (by omega))
  have Z3 := Lib.hid (sl_own_set (g := w.heap.size + 1) (i := 4) (u := .int .i64 s) (sl_own_set (g := w.heap.size + 1) (i := 3) (u := .int .i64 f) (sl_own_set (g := w.heap.size + 1) (i := 2) (u := .slice yc mc dc_) (sl_own_set (g := w.heap.size + 1) (i := 1) (u := .slice yb mb db) (sl_own_set (g := w.heap.size + 1) (i := 0) (u := .slice ya ma da) (sl_own_set (g := w.heap.size + 1 + 1) (i := 2) (u := .slice yc mc dc_) HO2.out (by omega)) (by omega)) (by omega)) (by omega)) (by omega)) (by omega))
  have Z4 := Lib.hid (own_set (g := w.heap.size + 1) (i := 4) (u := .int .i64 s) (own_set (g := w.heap.size + 1) (i := 3) (u := .int .i64 f) (own_set (g := w.heap.size + 1) (i := 2) (u := .slice yc mc dc_) (own_set (g := w.heap.size + 1) (i := 1) (u := .slice yb mb db) (own_set (g := w.heap.size + 1) (i := 0) (u := .slice ya ma da) (own_set (g := w.heap.size + 1 + 1) (i := 2) (u := .slice yc mc dc_) HO3.out (by omega)) (by omega)) (by omega)) (by omega)) (by omega)) (by omega))
  have Z5 := Lib.hid ((((((HB.out.setCell (p := ⟨w.heap.size + 1 + 1, 2, none⟩) (by show w.heap.size ≤ w.heap.size + 1 + 1; omega) (.slice yc mc dc_)).setCell (p := ⟨w.heap.size + 1, 0, none⟩) (by show w.heap.size ≤ w.heap.size + 1; omega) (.slice ya ma da)).setCell (p := ⟨w.heap.size + 1, 1, none⟩) (by show w.heap.size ≤ w.heap.size + 1; omega) (.slice yb mb db)).setCell (p := ⟨w.heap.size + 1, 2, none⟩) (by show w.heap.size ≤ w.heap.size + 1; omega) (.slice yc mc dc_)).setCell (p := ⟨w.heap.size + 1, 3, none⟩) (by show w.heap.size ≤ w.heap.size + 1; omega) (.int .i64 f)).setCell (p := ⟨w.heap.size + 1, 4, none⟩) (by show w.heap.size ≤ w.heap.size + 1; omega) (.int .i64 s))
  go_wp2_with fail
  refine bodyPost_ret (Ret.results_c rfl _ _ (w.heap.size + 1) (dc (.slice ya ma da) (.slice yb mb db) (.slice yc mc dc_) f s).toList rfl aggD Z1.out.cells) rfl ?_
  have hlb := fun g hg => (Sl.Own.lt Z3.out g hg).1
  have hlc := fun g hg => (Own.lt Z4.out g hg).1
  exact ⟨_, _, _, rfl, ⟨Z2.out.mono (by omega), Sl.Own.mono Z3.out (by omega), Z4.out.mono (by omega), fun g e1 e2 => by have h5 := HLA.out g e1; have h6 := hlb g e2; omega, fun g e1 e2 => by have h5 := HLA.out g e1; have h6 := hlc g e2; omega, fun g e1 e2 => by have h5 := HLB.out g e1; have h6 := hlc g e2; omega⟩, Z5.out⟩
def validD (x : Dt) : Bool := validN x.1 && decide (0 < x.1.length) && decide (x.2.1.length ≤ 60) && validN x.2.2.1 && decide (0 ≤ x.2.2.2.1 ∧ x.2.2.2.1 ≤ 100000) && decide (0 ≤ x.2.2.2.2 ∧ x.2.2.2.2 ≤ 2147483646)
theorem validD_iff {x : Dt} : validD x = true ↔ validN x.1 = true ∧ 0 < x.1.length ∧ x.2.1.length ≤ 60 ∧ validN x.2.2.1 = true ∧ (0 ≤ x.2.2.2.1 ∧ x.2.2.2.1 ≤ 100000) ∧ (0 ≤ x.2.2.2.2 ∧ x.2.2.2.2 ≤ 2147483646) := by
  unfold validD
  simp only [Bool.and_eq_true, decide_eq_true_eq, and_assoc]
theorem validD_no {x : Dt} (h : ¬ (validN x.1 = true ∧ 0 < x.1.length ∧ x.2.1.length ≤ 60 ∧ validN x.2.2.1 = true ∧ (0 ≤ x.2.2.2.1 ∧ x.2.2.2.1 ≤ 100000) ∧ (0 ≤ x.2.2.2.2 ∧ x.2.2.2.2 ≤ 2147483646))) : validD x = false := by
  cases e : validD x with
  | false => rfl
  | true => exact absurd (validD_iff.1 e) h
set_option maxHeartbeats 4000000 in
theorem specValidData (a b c : Value) (x : Dt) (w : World) (h : DHold w a b c x) (h1 : bulk x.1 ≤ 9000000) (h3 : bulk x.2.2.1 ≤ 9000000) :
    Calls Try.prog 50 #[.agg (dc a b c x.2.2.2.1 x.2.2.2.2)] w fun e w' => e = .returned (.bool (validD x)) ∧ Below w.heap.size w w' := by
  obtain ⟨l, m, k, f, s⟩ := x
  simp only at h1 h3 ⊢
  obtain ⟨xa, na, ca, xb, nb, cb, xc, nc, cc, rfl, rfl, rfl⟩ := h.shape
  have HA := Lib.hid (show na = l.length from Holds.lenEq h.1); have HM := Lib.hid (show nb = m.length from Sl.Holds.lenEq h.2.1)
  have HB := Lib.hid ((Below.refl w.heap.size w).alloc (Nat.le_refl _) (.cells (dc (.slice xa na ca) (.slice xb nb cb) (.slice xc nc cc) f s) 46))
  have H0 := Lib.hid h
  have HX := Lib.hid (Ret.Blk.new w (dc (.slice xa na ca) (.slice xb nb cb) (.slice xc nc cc) f s) 46)
  clear h
  obtain ⟨v1, hv1⟩ : ∃ z, validN l = z := ⟨_, rfl⟩
  obtain ⟨v2, hv2⟩ : ∃ z, validN k = z := ⟨_, rfl⟩
  have HV1 := Lib.hid hv1; have HV2 := Lib.hid hv2
  clear hv1 hv2
  go_enter Try.func50, Try.ntmps50
  go_wp2_with fail
  refine (specValidName _ l _ (H0.out.on HB.out).1 (by omega)).mono ?_
  rintro e w1 ⟨rfl, hb⟩
  rw [HV1.out]
  replace HX := Lib.hid (HX.out.on hb)
  replace HB := Lib.hid (HB.out.trans (hb.mono HB.out.size)); clear hb
  have q0 : w1.cell? ⟨w.heap.size, 0, none⟩ = some (.slice xa na ca) := HX.out.cell 0
  have q1 : w1.cell? ⟨w.heap.size, 1, none⟩ = some (.slice xb nb cb) := HX.out.cell 1
  have q2 : w1.cell? ⟨w.heap.size, 2, none⟩ = some (.slice xc nc cc) := HX.out.cell 2
  have q3 : w1.cell? ⟨w.heap.size, 3, none⟩ = some (.int .i64 f) := HX.out.cell 3
  have q4 : w1.cell? ⟨w.heap.size, 4, none⟩ = some (.int .i64 s) := HX.out.cell 4
  cases v1 with
  | false =>
    have HV := Lib.hid (validD_no (x := (l, m, k, f, s)) (fun e => by have h9 := e.1; rw [show validN l = false from HV1.out] at h9; cases h9))
    go_wp2_with fail
    go_ret
    exact ⟨ret_bool HV.out.symm, HB.out⟩
  | true =>
    by_cases hn : 0 < na
    · have t2 : decide ((0 : Int) < (na : Int)) = true := by simp; omega
      by_cases hm : nb ≤ 60
      · have t3 : decide ((nb : Int) ≤ 60) = true := by simp; omega
        go_wp2_with fail
        clear q0 q1 q2 q3 q4
        refine (specValidName _ k _ (H0.out.on HB.out).2.2 (by omega)).mono ?_
        rintro e w2 ⟨rfl, hb⟩
        rw [HV2.out]
        replace HX := Lib.hid (HX.out.on hb)
        replace HB := Lib.hid (HB.out.trans (hb.mono HB.out.size)); clear hb
        have q0 : w2.cell? ⟨w.heap.size, 0, none⟩ = some (.slice xa na ca) := HX.out.cell 0
        have q1 : w2.cell? ⟨w.heap.size, 1, none⟩ = some (.slice xb nb cb) := HX.out.cell 1
        have q2 : w2.cell? ⟨w.heap.size, 2, none⟩ = some (.slice xc nc cc) := HX.out.cell 2
        have q3 : w2.cell? ⟨w.heap.size, 3, none⟩ = some (.int .i64 f) := HX.out.cell 3
        have q4 : w2.cell? ⟨w.heap.size, 4, none⟩ = some (.int .i64 s) := HX.out.cell 4
        cases v2 with
        | false =>
          have HV := Lib.hid (validD_no (x := (l, m, k, f, s)) (fun e => by have h9 := e.2.2.2.1; rw [show validN k = false from HV2.out] at h9; cases h9))
          go_wp2_with fail
          go_ret
          exact ⟨ret_bool HV.out.symm, HB.out⟩
        | true =>
          by_cases hf : 0 ≤ f ∧ f ≤ 100000
          · have HI := Lib.hid (fun wx => Num.specIn_true hf.1 hf.2 wx)
            have H_hf := Lib.hid hf
            clear hf
            go_wp2_with fail
            refine (HI.out _).mono ?_
            rintro e w' ⟨rfl, rfl⟩
            clear HI
            by_cases hs : 0 ≤ s ∧ s ≤ 2147483646
            · have HI := Lib.hid (fun wx => Num.specIn_true hs.1 hs.2 wx)
              have H_hs := Lib.hid hs
              clear hs
              go_wp2_with fail
              refine (HI.out _).mono ?_
              rintro e w' ⟨rfl, rfl⟩
              clear HI
              have HV := Lib.hid ((validD_iff (x := (l, m, k, f, s))).2 (show validN l = true ∧ 0 < l.length ∧ m.length ≤ 60 ∧ validN k = true ∧ (0 ≤ f ∧ f ≤ 100000) ∧ (0 ≤ s ∧ s ≤ 2147483646) from ⟨HV1.out, by rw [← HA.out]; exact hn, by rw [← HM.out]; exact hm, HV2.out, H_hf.out, H_hs.out⟩))
              go_wp2_with fail
              go_ret
              exact ⟨ret_bool HV.out.symm, HB.out⟩
            · have HI := Lib.hid (fun wx => Num.specIn_false hs wx)
              have HV := Lib.hid (validD_no (x := (l, m, k, f, s)) (fun e => hs e.2.2.2.2.2))
              clear hs
              go_wp2_with fail
              refine (HI.out _).mono ?_
              rintro e w' ⟨rfl, rfl⟩
              go_wp2_with fail
              go_ret
              exact ⟨ret_bool HV.out.symm, HB.out⟩
          · have HI := Lib.hid (fun wx => Num.specIn_false hf wx)
            have HV := Lib.hid (validD_no (x := (l, m, k, f, s)) (fun e => hf e.2.2.2.2.1))
            clear hf
            go_wp2_with fail
            refine (HI.out _).mono ?_
            rintro e w' ⟨rfl, rfl⟩
            go_wp2_with fail
            go_ret
            exact ⟨ret_bool HV.out.symm, HB.out⟩
      · have t3 : decide ((nb : Int) ≤ 60) = false := by simp; omega
        have HV := Lib.hid (validD_no (x := (l, m, k, f, s)) (fun e => hm (by rw [HM.out]; exact e.2.2.1)))
        go_wp2_with fail
        go_ret
        exact ⟨ret_bool HV.out.symm, HB.out⟩
    · have t2 : decide ((0 : Int) < (na : Int)) = false := by simp; omega
      have HV := Lib.hid (validD_no (x := (l, m, k, f, s)) (fun e => hn (by rw [HA.out]; exact e.2.1)))
      go_wp2_with fail
      go_ret
      exact ⟨ret_bool HV.out.symm, HB.out⟩
theorem specFreshAt (a b c : Value) (x : Dt) (n : Int) (w : World) (hv : ∃ xa na ca xb nb cb xc nc cc, a = .slice xa na ca ∧ b = .slice xb nb cb ∧ c = .slice xc nc cc) :
    Calls Try.prog 70 #[.agg (dc a b c x.2.2.2.1 x.2.2.2.2), .int .i64 n] w fun e w' => e = .returned (.bool (decide (n ≤ x.2.2.2.1))) ∧ Below w.heap.size w w' := by
  obtain ⟨l, m, k, f, s⟩ := x
  obtain ⟨xa, na, ca, xb, nb, cb, xc, nc, cc, rfl, rfl, rfl⟩ := hv
  simp only
  obtain ⟨z, hz⟩ : ∃ z, decide (n ≤ f) = z := ⟨_, rfl⟩
  have HB := Lib.hid ((Below.refl w.heap.size w).alloc (Nat.le_refl _) (.cells (dc (.slice xa na ca) (.slice xb nb cb) (.slice xc nc cc) f s) 46))
  rw [hz]
  go_enter Try.func70, Try.ntmps70
  go_wp2_with fail
  go_ret
  exact ⟨rfl, HB.out⟩
set_option maxHeartbeats 4000000 in
theorem specEqualData (a b c a2 b2 c2 : Value) (x y : Dt) (w : World) (q : Bool) (hq : decide (x = y) = q) (h : DHold w a b c x) (g : DHold w a2 b2 c2 y) (hB : Sl.Byt x.2.1) (gB : Sl.Byt y.2.1) (h1 : x.1.length ≤ 9000000) (h2 : x.2.1.length ≤ 9000000) (h3 : x.2.2.1.length ≤ 9000000) (g1 : y.1.length ≤ 9000000) (g2 : y.2.1.length ≤ 9000000) (g3 : y.2.2.1.length ≤ 9000000) :
    Calls Try.prog 84 #[.agg (dc a b c x.2.2.2.1 x.2.2.2.2), .agg (dc a2 b2 c2 y.2.2.2.1 y.2.2.2.2)] w fun e w' => e = .returned (.bool q) ∧ Below w.heap.size w w' := by
  obtain ⟨l, m, k, f, s⟩ := x
  obtain ⟨l2, m2, k2, f2, s2⟩ := y
  simp only at h1 h2 h3 g1 g2 g3 hB gB ⊢
  obtain ⟨xa, na, ca, xb, nb, cb, xc, nc, cc, rfl, rfl, rfl⟩ := h.shape
  obtain ⟨ua, va, oa, ub, vb, ob, uc, vc, oc, rfl, rfl, rfl⟩ := g.shape
  have hb0 := (Below.refl w.heap.size w).alloc (Nat.le_refl _) (.cells (dc (.slice xa na ca) (.slice xb nb cb) (.slice xc nc cc) f s) 46)
  have HB := Lib.hid (hb0.alloc (by simp) (.cells (dc (.slice ua va oa) (.slice ub vb ob) (.slice uc vc oc) f2 s2) 46))
  have H0 := Lib.hid h; have G0 := Lib.hid g; have HY1 := Lib.hid hB; have HY2 := Lib.hid gB
  have HX := Lib.hid ((Ret.Blk.new w (dc (.slice xa na ca) (.slice xb nb cb) (.slice xc nc cc) f s) 46).on ((Below.refl _ _).alloc (Nat.le_refl _) (.cells (dc (.slice ua va oa) (.slice ub vb ob) (.slice uc vc oc) f2 s2) 46)))
  have HY := Lib.hid (Ret.Blk.new' (w := w.alloc (.cells (dc (.slice xa na ca) (.slice xb nb cb) (.slice xc nc cc) f s) 46)) (n := w.heap.size + 1) (dc (.slice ua va oa) (.slice ub vb ob) (.slice uc vc oc) f2 s2) 46 (by simp))
  have HQ := Lib.hid hq
  clear h g hq hb0 hB gB
  go_enter Try.func84, Try.ntmps84
  go_wp2_with fail
  refine (specEqualNames _ _ l l2 _ (H0.out.on HB.out).1 (G0.out.on HB.out).1 (by omega) (by omega)).mono ?_
  rintro e w1 ⟨rfl, hb⟩
  replace HX := Lib.hid (HX.out.on hb); replace HY := Lib.hid (HY.out.on hb)
  replace HB := Lib.hid (HB.out.trans (hb.mono HB.out.size)); clear hb
  have q0 : w1.cell? ⟨w.heap.size, 0, none⟩ = some (.slice xa na ca) := HX.out.cell 0
  have q1 : w1.cell? ⟨w.heap.size, 1, none⟩ = some (.slice xb nb cb) := HX.out.cell 1
  have q2 : w1.cell? ⟨w.heap.size, 2, none⟩ = some (.slice xc nc cc) := HX.out.cell 2
  have q3 : w1.cell? ⟨w.heap.size, 3, none⟩ = some (.int .i64 f) := HX.out.cell 3
  have q4 : w1.cell? ⟨w.heap.size, 4, none⟩ = some (.int .i64 s) := HX.out.cell 4
  have p0 : w1.cell? ⟨w.heap.size + 1, 0, none⟩ = some (.slice ua va oa) := HY.out.cell 0
  have p1 : w1.cell? ⟨w.heap.size + 1, 1, none⟩ = some (.slice ub vb ob) := HY.out.cell 1
  have p2 : w1.cell? ⟨w.heap.size + 1, 2, none⟩ = some (.slice uc vc oc) := HY.out.cell 2
  have p3 : w1.cell? ⟨w.heap.size + 1, 3, none⟩ = some (.int .i64 f2) := HY.out.cell 3
  have p4 : w1.cell? ⟨w.heap.size + 1, 4, none⟩ = some (.int .i64 s2) := HY.out.cell 4
  by_cases e1 : l = l2
  · rw [eqB_true e1]
    go_wp2_with fail
    clear q0 q1 q2 q3 q4 p0 p1 p2 p3 p4
    refine (Sl.specEqualBytes _ _ m m2 _ (H0.out.on HB.out).2.1 (G0.out.on HB.out).2.1 HY1.out HY2.out).mono ?_
    rintro e w2 ⟨rfl, rfl⟩
    have q0 : w1.cell? ⟨w.heap.size, 0, none⟩ = some (.slice xa na ca) := HX.out.cell 0
    have q1 : w1.cell? ⟨w.heap.size, 1, none⟩ = some (.slice xb nb cb) := HX.out.cell 1
    have q2 : w1.cell? ⟨w.heap.size, 2, none⟩ = some (.slice xc nc cc) := HX.out.cell 2
    have q3 : w1.cell? ⟨w.heap.size, 3, none⟩ = some (.int .i64 f) := HX.out.cell 3
    have q4 : w1.cell? ⟨w.heap.size, 4, none⟩ = some (.int .i64 s) := HX.out.cell 4
    have p0 : w1.cell? ⟨w.heap.size + 1, 0, none⟩ = some (.slice ua va oa) := HY.out.cell 0
    have p1 : w1.cell? ⟨w.heap.size + 1, 1, none⟩ = some (.slice ub vb ob) := HY.out.cell 1
    have p2 : w1.cell? ⟨w.heap.size + 1, 2, none⟩ = some (.slice uc vc oc) := HY.out.cell 2
    have p3 : w1.cell? ⟨w.heap.size + 1, 3, none⟩ = some (.int .i64 f2) := HY.out.cell 3
    have p4 : w1.cell? ⟨w.heap.size + 1, 4, none⟩ = some (.int .i64 s2) := HY.out.cell 4
    by_cases e2 : m = m2
    · rw [Sl.eqB_true e2]
      go_wp2_with fail
      clear q0 q1 q2 q3 q4 p0 p1 p2 p3 p4
      refine (specEqualNames _ _ k k2 _ (H0.out.on HB.out).2.2 (G0.out.on HB.out).2.2 (by omega) (by omega)).mono ?_
      rintro e w3 ⟨rfl, hb⟩
      replace HX := Lib.hid (HX.out.on hb); replace HY := Lib.hid (HY.out.on hb)
      replace HB := Lib.hid (HB.out.trans (hb.mono HB.out.size)); clear hb
      have q0 : w3.cell? ⟨w.heap.size, 0, none⟩ = some (.slice xa na ca) := HX.out.cell 0
      have q1 : w3.cell? ⟨w.heap.size, 1, none⟩ = some (.slice xb nb cb) := HX.out.cell 1
      have q2 : w3.cell? ⟨w.heap.size, 2, none⟩ = some (.slice xc nc cc) := HX.out.cell 2
      have q3 : w3.cell? ⟨w.heap.size, 3, none⟩ = some (.int .i64 f) := HX.out.cell 3
      have q4 : w3.cell? ⟨w.heap.size, 4, none⟩ = some (.int .i64 s) := HX.out.cell 4
      have p0 : w3.cell? ⟨w.heap.size + 1, 0, none⟩ = some (.slice ua va oa) := HY.out.cell 0
      have p1 : w3.cell? ⟨w.heap.size + 1, 1, none⟩ = some (.slice ub vb ob) := HY.out.cell 1
      have p2 : w3.cell? ⟨w.heap.size + 1, 2, none⟩ = some (.slice uc vc oc) := HY.out.cell 2
      have p3 : w3.cell? ⟨w.heap.size + 1, 3, none⟩ = some (.int .i64 f2) := HY.out.cell 3
      have p4 : w3.cell? ⟨w.heap.size + 1, 4, none⟩ = some (.int .i64 s2) := HY.out.cell 4
      by_cases e3 : k = k2
      · rw [eqB_true e3]
        by_cases e4 : f = f2
        · have t1 : (f == f2) = true := by simp [e4]
          obtain ⟨z, hz⟩ : ∃ z, (s == s2) = z := ⟨_, rfl⟩
          have HE : Hid (q = z) := Lib.hid (by rw [← HQ.out, ← hz]; simp [e1, e2, e3, e4]; rfl)
          clear e1 e2 e3 e4
          go_wp2
          go_ret
          exact ⟨ret_bool HE.out.symm, HB.out⟩
        · have t1 : (f == f2) = false := by simpa using e4
          have HE : Hid (q = false) := Lib.hid (by rw [← HQ.out]; simp [e4])
          clear e4
          go_wp2
          go_ret
          exact ⟨ret_bool HE.out.symm, HB.out⟩
      · rw [eqB_false e3]
        have HE : Hid (q = false) := Lib.hid (by rw [← HQ.out]; simp [e3])
        clear e3
        go_wp2
        go_ret
        exact ⟨ret_bool HE.out.symm, HB.out⟩
    · rw [Sl.eqB_false e2]
      have HE : Hid (q = false) := Lib.hid (by rw [← HQ.out]; simp [e2])
      clear e2
      go_wp2
      go_ret
      exact ⟨ret_bool HE.out.symm, HB.out⟩
  · rw [eqB_false e1]
    have HE : Hid (q = false) := Lib.hid (by rw [← HQ.out]; simp [e1])
    clear e1
    go_wp2
    go_ret
    exact ⟨ret_bool HE.out.symm, HB.out⟩
end Go.Proofs.Ythfljbbigpophaa.Row
/- Chapter 8's functions, the model's and the program's, in the words of kinds. No conditions but that lengths fit. -/
namespace Go.Proofs.Ythfljbbigpophaa.Row
open Go.ChangeShapes Go.WideShapes Go.ChangeAt Go.RowKit Go.Instr
set_option linter.unusedVariables false
set_option maxRecDepth 100000
set_option maxHeartbeats 4000000 in
theorem implValidData (a b c : Value) (x : Dt) (w : World) (h : DHold w a b c x) (h1 : bulk x.1 ≤ 9000000) (h3 : bulk x.2.2.1 ≤ 9000000) :
    Calls Try.prog 60 #[.agg (dc a b c x.2.2.2.1 x.2.2.2.2)] w fun e w' => e = .returned (.bool (validD x)) ∧ Below w.heap.size w w' := by
  obtain ⟨l, m, k, f, s⟩ := x
  simp only at h1 h3 ⊢
  obtain ⟨xa, na, ca, xb, nb, cb, xc, nc, cc, rfl, rfl, rfl⟩ := h.shape
  have HA := Lib.hid (show na = l.length from Holds.lenEq h.1); have HM := Lib.hid (show nb = m.length from Sl.Holds.lenEq h.2.1)
  have HB := Lib.hid ((Below.refl w.heap.size w).alloc (Nat.le_refl _) (.cells (dc (.slice xa na ca) (.slice xb nb cb) (.slice xc nc cc) f s) 46))
  have H0 := Lib.hid h
  have HX := Lib.hid (Ret.Blk.new w (dc (.slice xa na ca) (.slice xb nb cb) (.slice xc nc cc) f s) 46)
  clear h
  obtain ⟨v1, hv1⟩ : ∃ z, validN l = z := ⟨_, rfl⟩
  obtain ⟨v2, hv2⟩ : ∃ z, validN k = z := ⟨_, rfl⟩
  have HV1 := Lib.hid hv1; have HV2 := Lib.hid hv2
  clear hv1 hv2
  go_enter Try.func60, Try.ntmps60
  go_wp2_with fail
  refine (implValidName _ l _ (H0.out.on HB.out).1 (by omega)).mono ?_
  rintro e w1 ⟨rfl, hb⟩
  rw [HV1.out]
  replace HX := Lib.hid (HX.out.on hb)
  replace HB := Lib.hid (HB.out.trans (hb.mono HB.out.size)); clear hb
  have q0 : w1.cell? ⟨w.heap.size, 0, none⟩ = some (.slice xa na ca) := HX.out.cell 0
  have q1 : w1.cell? ⟨w.heap.size, 1, none⟩ = some (.slice xb nb cb) := HX.out.cell 1
  have q2 : w1.cell? ⟨w.heap.size, 2, none⟩ = some (.slice xc nc cc) := HX.out.cell 2
  have q3 : w1.cell? ⟨w.heap.size, 3, none⟩ = some (.int .i64 f) := HX.out.cell 3
  have q4 : w1.cell? ⟨w.heap.size, 4, none⟩ = some (.int .i64 s) := HX.out.cell 4
  cases v1 with
  | false =>
    have HV := Lib.hid (validD_no (x := (l, m, k, f, s)) (fun e => by have h9 := e.1; rw [show validN l = false from HV1.out] at h9; cases h9))
    go_wp2_with fail
    go_ret
    exact ⟨ret_bool HV.out.symm, HB.out⟩
  | true =>
    by_cases hn : 0 < na
    · have t2 : decide ((0 : Int) < (na : Int)) = true := by simp; omega
      by_cases hm : nb ≤ 60
      · have t3 : decide ((nb : Int) ≤ 60) = true := by simp; omega
        go_wp2_with fail
        clear q0 q1 q2 q3 q4
        refine (implValidName _ k _ (H0.out.on HB.out).2.2 (by omega)).mono ?_
        rintro e w2 ⟨rfl, hb⟩
        rw [HV2.out]
        replace HX := Lib.hid (HX.out.on hb)
        replace HB := Lib.hid (HB.out.trans (hb.mono HB.out.size)); clear hb
        have q0 : w2.cell? ⟨w.heap.size, 0, none⟩ = some (.slice xa na ca) := HX.out.cell 0
        have q1 : w2.cell? ⟨w.heap.size, 1, none⟩ = some (.slice xb nb cb) := HX.out.cell 1
        have q2 : w2.cell? ⟨w.heap.size, 2, none⟩ = some (.slice xc nc cc) := HX.out.cell 2
        have q3 : w2.cell? ⟨w.heap.size, 3, none⟩ = some (.int .i64 f) := HX.out.cell 3
        have q4 : w2.cell? ⟨w.heap.size, 4, none⟩ = some (.int .i64 s) := HX.out.cell 4
        cases v2 with
        | false =>
          have HV := Lib.hid (validD_no (x := (l, m, k, f, s)) (fun e => by have h9 := e.2.2.2.1; rw [show validN k = false from HV2.out] at h9; cases h9))
          go_wp2_with fail
          go_ret
          exact ⟨ret_bool HV.out.symm, HB.out⟩
        | true =>
          by_cases hf : 0 ≤ f ∧ f ≤ 100000
          · have HI := Lib.hid (fun wx => Num.implIn_true hf.1 hf.2 wx)
            have H_hf := Lib.hid hf
            clear hf
            go_wp2_with fail
            refine (HI.out _).mono ?_
            rintro e w' ⟨rfl, rfl⟩
            clear HI
            by_cases hs : 0 ≤ s ∧ s ≤ 2147483646
            · have HI := Lib.hid (fun wx => Num.implIn_true hs.1 hs.2 wx)
              have H_hs := Lib.hid hs
              clear hs
              go_wp2_with fail
              refine (HI.out _).mono ?_
              rintro e w' ⟨rfl, rfl⟩
              clear HI
              have HV := Lib.hid ((validD_iff (x := (l, m, k, f, s))).2 (show validN l = true ∧ 0 < l.length ∧ m.length ≤ 60 ∧ validN k = true ∧ (0 ≤ f ∧ f ≤ 100000) ∧ (0 ≤ s ∧ s ≤ 2147483646) from ⟨HV1.out, by rw [← HA.out]; exact hn, by rw [← HM.out]; exact hm, HV2.out, H_hf.out, H_hs.out⟩))
              go_wp2_with fail
              go_ret
              exact ⟨ret_bool HV.out.symm, HB.out⟩
            · have HI := Lib.hid (fun wx => Num.implIn_false hs wx)
              have HV := Lib.hid (validD_no (x := (l, m, k, f, s)) (fun e => hs e.2.2.2.2.2))
              clear hs
              go_wp2_with fail
              refine (HI.out _).mono ?_
              rintro e w' ⟨rfl, rfl⟩
              go_wp2_with fail
              go_ret
              exact ⟨ret_bool HV.out.symm, HB.out⟩
          · have HI := Lib.hid (fun wx => Num.implIn_false hf wx)
            have HV := Lib.hid (validD_no (x := (l, m, k, f, s)) (fun e => hf e.2.2.2.2.1))
            clear hf
            go_wp2_with fail
            refine (HI.out _).mono ?_
            rintro e w' ⟨rfl, rfl⟩
            go_wp2_with fail
            go_ret
            exact ⟨ret_bool HV.out.symm, HB.out⟩
      · have t3 : decide ((nb : Int) ≤ 60) = false := by simp; omega
        have HV := Lib.hid (validD_no (x := (l, m, k, f, s)) (fun e => hm (by rw [HM.out]; exact e.2.2.1)))
        go_wp2_with fail
        go_ret
        exact ⟨ret_bool HV.out.symm, HB.out⟩
    · have t2 : decide ((0 : Int) < (na : Int)) = false := by simp; omega
      have HV := Lib.hid (validD_no (x := (l, m, k, f, s)) (fun e => hn (by rw [HA.out]; exact e.2.1)))
      go_wp2_with fail
      go_ret
      exact ⟨ret_bool HV.out.symm, HB.out⟩
theorem implFreshAt (a b c : Value) (x : Dt) (n : Int) (w : World) (hv : ∃ xa na ca xb nb cb xc nc cc, a = .slice xa na ca ∧ b = .slice xb nb cb ∧ c = .slice xc nc cc) :
    Calls Try.prog 75 #[.agg (dc a b c x.2.2.2.1 x.2.2.2.2), .int .i64 n] w fun e w' => e = .returned (.bool (decide (n ≤ x.2.2.2.1))) ∧ Below w.heap.size w w' := by
  obtain ⟨l, m, k, f, s⟩ := x
  obtain ⟨xa, na, ca, xb, nb, cb, xc, nc, cc, rfl, rfl, rfl⟩ := hv
  simp only
  obtain ⟨z, hz⟩ : ∃ z, decide (n ≤ f) = z := ⟨_, rfl⟩
  have HB := Lib.hid ((Below.refl w.heap.size w).alloc (Nat.le_refl _) (.cells (dc (.slice xa na ca) (.slice xb nb cb) (.slice xc nc cc) f s) 46))
  rw [hz]
  go_enter Try.func75, Try.ntmps75
  go_wp2_with fail
  go_ret
  exact ⟨rfl, HB.out⟩
theorem specValidDataK (V : Value) (x : Dt) (w : World) (h : kD.At w V x) (hl : bulkD x ≤ 9000000) :
    Calls Try.prog 50 #[V] w fun e w' => e = .returned (.bool (validD x)) ∧ Below w.heap.size w w' := by
  obtain ⟨a, b, c, rfl, h9⟩ := kD_at h
  unfold bulkD at hl
  exact specValidData a b c x w h9 (by omega) (by omega)
theorem specFreshAtK (V : Value) (x : Dt) (n : Int) (w : World) (h : kD.At w V x) :
    Calls Try.prog 70 #[V, .int .i64 n] w fun e w' => e = .returned (.bool (decide (n ≤ x.2.2.2.1))) ∧ Below w.heap.size w w' := by
  obtain ⟨a, b, c, rfl, h9⟩ := kD_at h
  exact specFreshAt a b c x n w h9.shape
theorem implValidDataK (V : Value) (x : Dt) (w : World) (h : kD.At w V x) (hl : bulkD x ≤ 9000000) :
    Calls Try.prog 60 #[V] w fun e w' => e = .returned (.bool (validD x)) ∧ Below w.heap.size w w' := by
  obtain ⟨a, b, c, rfl, h9⟩ := kD_at h
  unfold bulkD at hl
  exact implValidData a b c x w h9 (by omega) (by omega)
theorem implFreshAtK (V : Value) (x : Dt) (n : Int) (w : World) (h : kD.At w V x) :
    Calls Try.prog 75 #[V, .int .i64 n] w fun e w' => e = .returned (.bool (decide (n ≤ x.2.2.2.1))) ∧ Below w.heap.size w w' := by
  obtain ⟨a, b, c, rfl, h9⟩ := kD_at h
  exact implFreshAt a b c x n w h9.shape
end Go.Proofs.Ythfljbbigpophaa.Row
/- What chapter 3 computes, on lists of numbers: digest, MAC, the bytes of a slice as numbers, enciphered and deciphered bytes. No conditions. -/
namespace Go.Proofs.Ythfljbbigpophaa.Seal
open Sl (nth nth_eq)
def dstep (d x : Int) : Int := (d * 1000003 + x % 2147483647 + 13) % 2147483647
def digest (l : List Int) : Int := l.foldl dstep 11
def mac (s : Int) (l : List Int) : Int := digest ([s] ++ l ++ [s])
def b2i (l : List Int) : List Int := (l.length : Int) :: l
def derive (s : Int) (l : List Int) : Int := if mac s (b2i l) = 0 then 1 else mac s (b2i l)
def chg (f : Nat → Int → Int) (l : List Int) : List Int := l.mapIdx f
def encF (s : Int) (i : Nat) (x : Int) : Int := (x + mac s [(i : Int)]) % 256
def decF (s : Int) (i : Nat) (x : Int) : Int := (x - mac s [(i : Int)]) % 256
def enc (s : Int) (l : List Int) : List Int := chg (encF s) l
def dec (s : Int) (l : List Int) : List Int := chg (decF s) l
end Go.Proofs.Ythfljbbigpophaa.Seal
/- Contracts of the library's slices.Grow at the nil slice, slices.Concat and slices.Equal at slices of integers. No conditions but that lengths fit. -/
namespace Go.Proofs.Ythfljbbigpophaa.Sl
open Go.ChangeShapes Go.WideShapes Go.ChangeAt Go.RowKit Go.Instr
set_option linter.unusedVariables false
set_option maxRecDepth 100000
def cat (ls : Nat → List Int) : Nat → List Int
  | 0 => []
  | k + 1 => cat ls k ++ ls k
theorem libEqI_len (x y : Option Addr) (n m cx cy : Nat) (w : World) (h : (((n : Nat) : Int) != ((m : Nat) : Int)) = true) :
    Calls Try.prog 115 #[.slice x n cx, .slice y m cy] w fun e w' => e = .returned (.bool false) ∧ w = w' := by
  go_enter Try.func115, Try.ntmps115
  go_wp2
  go_ret
  exact ⟨rfl, rfl⟩
set_option maxHeartbeats 1000000 in
theorem libEqI (v u : Value) (l m : List Int) (w : World) (h : Holds .i64 w v l) (g : Holds .i64 w u m) (hl : l.length ≤ 100000000) (hm : m.length ≤ 100000000) :
    Calls Try.prog 115 #[v, u] w fun e w' => e = .returned (.bool (eqB l m)) ∧ Below w.heap.size w w' := by
  obtain ⟨x, cx, rfl, hcx, hh⟩ := h.shape
  obtain ⟨y, cy, rfl, hcy, hg⟩ := g.shape
  by_cases he : l.length = m.length
  · obtain ⟨n, hn⟩ : ∃ n, n = l.length := ⟨_, rfl⟩
    rw [← he] at hg hm hcy ⊢
    rw [← hn] at hcx hh hl hg hm hcy ⊢
    have HE := Lib.hid he
    have HN := Lib.hid hn
    have HH := Lib.hid hh
    have HG := Lib.hid hg
    have htest : (((n : Nat) : Int) != ((n : Nat) : Int)) = false := by simp
    clear hn h hh g hg he
    go_enter Try.func115, Try.ntmps115
    go_wp2
    go_loopw [13] (fun i wr => ∃ k nq : Nat, k ≤ n ∧ i = .int .i64 k ∧ Hid (agree l m k) ∧ wr = w.drewN nq) (fun i _ => n - (intOf i).toNat)
    case atStart => exact ⟨0, 0, Nat.zero_le _, rfl, Lib.hid (agree_zero _ _), rfl⟩
    case round =>
      obtain ⟨k, nq, hk, rfl, ha, rfl⟩ := hrel
      by_cases hlt : k < n
      · have hlen := HN.out
        have hlen2 := HE.out
        obtain ⟨b, off, rfl, hc⟩ := HH.out.at (j := k) (by omega)
        obtain ⟨b', off', rfl, hc'⟩ := HG.out.at (j := k) (by omega)
        clear hlen hlen2
        by_cases hd : nth l k = nth m k
        · have hd2 : (nth l k != nth m k) = false := by simpa using hd
          have HD := Lib.hid hd; clear hd
          go_wp2_with fail
          go_quiet (fail)
          go_wp2_with fail
          go_roundw
          case rel => exact ⟨k + 1, _, by omega, by go_num, Lib.hid (agree_succ ha.out HD.out), rfl⟩
          case measure => simp [intOf]; omega
        · have hd2 : (nth l k != nth m k) = true := by simpa using hd
          have HD := Lib.hid (eqB_false (differ_at hd)); clear hd
          go_wp2_with fail
          go_quiet (fail)
          go_wp2_with fail
          go_ret
          exact ⟨ret_bool HD.out.symm, below_drewN (below_drewN (Below.refl _ _) _) _⟩
      · obtain rfl : k = n := by omega
        have HD := Lib.hid (eqB_true (agree_all HE.out (HN.out ▸ ha.out)))
        clear hlt
        go_wp2
        go_ret
        exact ⟨ret_bool HD.out.symm, below_drewN (Below.refl _ _) _⟩
  · have htest : (((l.length : Nat) : Int) != ((m.length : Nat) : Int)) = true := by
      rw [bne_iff_ne]; omega
    rw [eqB_false (fun e => he (by rw [e]))]
    exact (libEqI_len x y _ _ cx cy w htest).mono fun e w' ⟨h1, h2⟩ => ⟨h1, by subst h2; exact Below.refl _ _⟩
end Go.Proofs.Ythfljbbigpophaa.Sl
/- Contracts of the laws' own comparisons of slices of numbers: whether they hold equal lists. Nothing in memory turns but the count of draws. No conditions but that lengths fit. -/
namespace Go.Proofs.Ythfljbbigpophaa.Sl
open Go.ChangeShapes Go.WideShapes Go.ChangeAt Go.RowKit Go.Instr
set_option linter.unusedVariables false
set_option maxRecDepth 100000
theorem Holds.upto {k : IntKind} {w : World} {x : Option Addr} {n cap : Nat} {l : List Int} (h : Holds k w (.slice x n cap) l) {j : Nat} (hj : j ≤ n) : Holds k w (.slice x j cap) (l.take j) := by
  obtain ⟨x', cap', hv, hc, hh⟩ := h
  cases hv
  have hl : (l.take j).length = j := by simp; omega
  refine ⟨x, cap, by rw [hl], by omega, ?_⟩
  rcases hh with rfl | ⟨b, off, hx, hh⟩
  · left; simp
  · right
    refine ⟨b, off, hx, fun i hi => ?_⟩
    rw [hl] at hi
    rw [hh i (by omega)]
    simp only [nth, List.getD, List.getElem?_take, if_pos hi]
end Go.Proofs.Ythfljbbigpophaa.Sl
/- Contracts of chapter 3's digests and MACs, the reference model's and the program's: Digest, ComputeMAC, ValidSecret, BytesToInts, DeriveSecret, EqualInts. What was in memory stays as it was. No conditions but that lengths fit. -/
namespace Go.Proofs.Ythfljbbigpophaa.Sl
open Go.ChangeShapes Go.WideShapes Go.ChangeAt Go.RowKit Go.Instr
open Seal (digest mac b2i derive dstep)
set_option linter.unusedVariables false
set_option maxRecDepth 100000
def GivesN (w : World) (n : Int) (e : Ending) (w' : World) : Prop := e = .returned (.int .i64 n) ∧ Below w.heap.size w w'
theorem implEqualInts (v u : Value) (l m : List Int) (w : World) (h : Holds .i64 w v l) (g : Holds .i64 w u m) (hl : l.length ≤ 100000000) (hm : m.length ≤ 100000000) :
    Calls Try.prog 111 #[v, u] w fun e w' => e = .returned (.bool (eqB l m)) ∧ Below w.heap.size w w' := by
  have HC := Lib.hid (libEqI v u l m w h g hl hm)
  clear h g hl hm
  go_enter Try.func111, Try.ntmps111
  go_wp2_with fail
  refine HC.out.mono ?_
  rintro e w' ⟨rfl, hb⟩
  go_wp2_with fail
  go_ret
  exact ⟨rfl, hb⟩
end Go.Proofs.Ythfljbbigpophaa.Sl
/- Contracts of chapter 3's BytesToInts, DeriveSecret, Encrypt and Decrypt, the reference model's and the program's: what they give lies in memory of the call's own; what was in memory stays as it was. No conditions but that lengths fit and that the elements are bytes. -/
namespace Go.Proofs.Ythfljbbigpophaa.Sl
open Go.ChangeShapes Go.WideShapes Go.ChangeAt Go.RowKit Go.Instr
open Seal (digest mac b2i derive dstep chg encF decF enc dec)
set_option linter.unusedVariables false
set_option maxRecDepth 100000
def GivesM (w : World) (s i : Int) (e : Ending) (w' : World) : Prop := ∃ m : Int, e = .returned (.int .i64 m) ∧ m = mac s [i] ∧ 0 ≤ m ∧ m < 2147483647 ∧ Below w.heap.size w w'
def GivesU (w : World) (n : Int) (e : Ending) (w' : World) : Prop := ∃ m : Int, e = .returned (.int .u8 m) ∧ m = n ∧ 0 ≤ m ∧ m ≤ 255 ∧ Below w.heap.size w w'
end Go.Proofs.Ythfljbbigpophaa.Sl
/- Contract of the program's copy of a name. No conditions but that lengths fit. -/
namespace Go.Proofs.Ythfljbbigpophaa.Row
open Go.ChangeShapes Go.WideShapes Go.ChangeAt Go.RowKit Go.Instr
set_option linter.unusedVariables false
set_option maxRecDepth 100000
set_option maxHeartbeats 4000000 in
theorem cloneName (v : Value) (l : List ByteArray) (w : World) (h : Holds Value.string w v l) (hl : l.length ≤ 9000000) :
    Calls Try.prog 82 #[.agg #[v]] w (GivesN w l) := by
  obtain ⟨x, n, cap, rfl, hn, hcap, hh⟩ := h.shapeN
  have HB0 := Lib.hid (((Below.refl w.heap.size w).alloc (Nat.le_refl _) (.cells #[.slice x n cap] 44)).alloc (by simp) (.cells #[.slice none 0 0] 44))
  have HH := Lib.hid (hh.on HB0.out)
  have HR := Lib.hid (Ret.NC.new' (.slice none 0 0) 44 (w := w.alloc (.cells #[.slice x n cap] 44)) (n := w.heap.size + 1) (by simp))
  clear hh h hn
  go_enter Try.func82, Try.ntmps82
  go_wp2_with fail
  refine (cloneS _ l _ HH.out (by omega)).mono ?_
  rintro e w1 ⟨v1, rfl, ho, hb⟩
  obtain ⟨x1, n1, c1, rfl, -, -, ho1⟩ := ho.shapeN
  have HR1 := Lib.hid (HR.out.on hb)
  obtain ⟨hk, hf⟩ := HR1.out
  have HB1 := HB0.out.trans (hb.mono HB0.out.size)
  obtain ⟨q1, q2, q3⟩ := endN (w := w) (g := w.heap.size + 1) (by omega) (by simp) ho1 hk HB1
  have HQ1 := Lib.hid q1; have HQ2 := Lib.hid q2; have HQ3 := Lib.hid q3
  clear q1 q2 q3 ho ho1 hb HB1
  go_wp2
  refine bodyPost_ret (Ret.results_c rfl _ _ (w.heap.size + 1) [_] rfl aggN (Ret.one HQ1.out)) rfl ?_
  exact ⟨_, rfl, HQ2.out, HQ3.out⟩
end Go.Proofs.Ythfljbbigpophaa.Row
/- Contracts of the program's functions on interests: validity, AppendName, the numbers, copy, the hop limit. No conditions but that lengths fit. -/
namespace Go.Proofs.Ythfljbbigpophaa.Row
open Go.ChangeShapes Go.WideShapes Go.ChangeAt Go.RowKit Go.Instr
set_option linter.unusedVariables false
set_option maxRecDepth 100000
end Go.Proofs.Ythfljbbigpophaa.Row
/- Mathematics of the signed portion; the regions of SignedPortion of the model. No conditions but that lengths fit. -/
namespace Go.Proofs.Ythfljbbigpophaa.Row
open Go.ChangeShapes Go.WideShapes Go.ChangeAt Go.RowKit Go.Instr
set_option linter.unusedVariables false
set_option maxRecDepth 100000
def portD (x : Dt) : List Int := Seal.b2i (appName [] x.1) ++ Seal.b2i x.2.1 ++ Seal.b2i (appName [] x.2.2.1) ++ [x.2.2.2.1]
end Go.Proofs.Ythfljbbigpophaa.Row
/- The region of the program's portion. No conditions but that lengths fit. -/
namespace Go.Proofs.Ythfljbbigpophaa.Row
open Go.ChangeShapes Go.WideShapes Go.ChangeAt Go.RowKit Go.Instr
set_option linter.unusedVariables false
set_option maxRecDepth 100000
end Go.Proofs.Ythfljbbigpophaa.Row
/- Contracts of chapter 3's Encrypt, Decrypt and DeriveSecret, the reference model's, and the program's DeriveSecret. No conditions but that lengths fit and that the elements are bytes. -/
namespace Go.Proofs.Ythfljbbigpophaa.Sl
open Go.ChangeShapes Go.WideShapes Go.ChangeAt Go.RowKit Go.Instr
open Seal (digest mac b2i derive dstep chg encF decF enc dec)
set_option linter.unusedVariables false
set_option maxRecDepth 100000
theorem keepS {w w' : World} {a : Addr} {v : Value} (hc : w.cell? a = some v) (hb : Below w.heap.size w w') : w'.cell? a = some v ∧ Below w.heap.size w w' := ⟨by rw [hb.cell (cell_lt hc)]; exact hc, hb⟩
end Go.Proofs.Ythfljbbigpophaa.Sl
/- SignedPortion of the model and of the program; the program's mac, clone and sign. No conditions but that lengths fit. -/
namespace Go.Proofs.Ythfljbbigpophaa.Row
open Go.ChangeShapes Go.WideShapes Go.ChangeAt Go.RowKit Go.Instr
set_option linter.unusedVariables false
set_option maxRecDepth 100000
set_option maxHeartbeats 1000000 in
theorem cloneBs (v : Value) (l : List Int) (w : World) (h : Sl.Holds .u8 w v l) (hl : l.length ≤ 9000000) :
    Calls Try.prog 98 #[v] w (Sl.GivesB w l) := by
  obtain ⟨x, cx, rfl, hcx, hh⟩ := h.shape
  cases x with
  | none =>
    have hl0 : l = [] := by
      obtain ⟨x', cap', hv, hc', hh'⟩ := hh
      cases hv
      rcases hh' with h1 | ⟨b, off, h1, _⟩
      · exact h1
      · cases h1
    subst hl0
    have hq : ∀ w : World, (binOp .eql 39 (.slice none 0 cx) (.slice none 0 0)).run Try.prog w = .ok (.bool true) w := fun w => by
      exact Lib.run_eql_slice_nil w _ _ _ _ _ _ _ Try.underlying39
    clear hh h
    simp only [List.length_nil]
    go_enter Try.func98, Try.ntmps98
    go_wp2
    go_ret
    exact ⟨_, rfl, Sl.Own.nil _ _ _ _, Below.refl _ _⟩
  | some ad =>
    have HB := Lib.hid ((Below.refl w.heap.size w).alloc (Nat.le_refl _) (.cells #[] 5))
    have HH := Lib.hid (hh.on HB.out)
    have HO := Lib.hid (Sl.own_empty .u8 5 w)
    have hq : ∀ w : World, (binOp .eql 39 (.slice (some ad) l.length cx) (.slice none 0 0)).run Try.prog w = .ok (.bool false) w := fun w => by
      exact Lib.run_eql_slice_nil w _ _ _ _ _ _ _ Try.underlying39
    clear hh h
    go_enter Try.func98, Try.ntmps98
    go_wp2_with (at_builtin; refine Sl.wpList_app (k := .u8) (B := w.heap.size) (l := []) (m := l) rfl _ _ rfl Try.underlying39 Sl.elemBYTE rfl rfl rfl HO.out HH.out (by simp; omega) (by decide) (by simp) ?_)
    intro v2 w2 ho hg
    have HO2 := Lib.hid ho; have HB2 := Lib.hid (HB.out.grown hg (by simp) (fun g hh => (HO.out.lt g hh).1))
    clear ho hg
    go_wp2_with fail
    go_ret
    exact ⟨_, rfl, HO2.out, HB2.out⟩
end Go.Proofs.Ythfljbbigpophaa.Row
/- EncodeData, model and program; the program's numbers. No conditions but that lengths fit. -/
namespace Go.Proofs.Ythfljbbigpophaa.Row
open Go.ChangeShapes Go.WideShapes Go.ChangeAt Go.RowKit Go.Instr
set_option linter.unusedVariables false
set_option maxRecDepth 100000
def encD (x : Dt) : List Int := if validD x = true then appName (appName [] x.1 ++ Var.var x.2.1.length ++ x.2.1) x.2.2.1 ++ Sl.encs [x.2.2.2.1, x.2.2.2.2] else []
theorem own_two (e : TypeId) (w : World) (x y : Int) (b : Nat) (hb : b = w.heap.size) : Sl.Own e .i64 w.heap.size (w.alloc (.cells #[.int .i64 x, .int .i64 y] e)) (.slice (some ⟨b, 0, none⟩) 2 2) [x, y] := by
  subst hb
  exact World.ownsRow_lit w #[.int .i64 x, .int .i64 y] 2 (Nat.le_refl _) (by unfold maxLen; omega) rfl
set_option maxRecDepth 100000 in
set_option maxHeartbeats 4000000 in
theorem numsR {Q : Exit → Act → World → Prop} {v1 v2 v3 v4 v5 v6 v7 v8 v9 v10 v11 : Value} {w : World} {p : Nat} {f s : Int} (K3 : Hid (w.cell? ⟨p, 3, none⟩ = some (.int .i64 f))) (K4 : Hid (w.cell? ⟨p, 4, none⟩ = some (.int .i64 s)))
  (hQ : ∀ (u3 u4 u5 u6 u7 u8 u9 u10 : Value) (bb : Nat) (wx : World), Sl.Own 3 .i64 w.heap.size wx (.slice (some ⟨bb, 0, none⟩) 2 2) [f, s] → Below w.heap.size w wx → Q .normal ⟨#[.pointer (some ⟨p, 0, none⟩), v1, .slice (some ⟨bb, 0, none⟩) 2 2, u3, u4, u5, u6, u7, u8, u9, u10, .slice (some ⟨bb, 0, none⟩) 2 2], []⟩ wx) :
  (Code.region 1 #[⟨some 3, .move (.tmp 0), 109, "l08_thing.go:67", #[], none⟩,
   ⟨some 4, .nilCheck (.tmp 3), 0, "l08_thing.go:67", #[⟨0, .data⟩], none⟩,
   ⟨some 5, .fieldAddr 46 (.tmp 4) 3, 0, "l08_thing.go:67", #[⟨1, .data⟩], none⟩,
   ⟨some 6, .load 3 (.tmp 5), 3, "l08_thing.go:67", #[⟨2, .data⟩], none⟩,
   ⟨some 7, .move (.tmp 0), 109, "l08_thing.go:67", #[], none⟩,
   ⟨some 8, .nilCheck (.tmp 7), 0, "l08_thing.go:67", #[⟨4, .data⟩], none⟩,
   ⟨some 9, .fieldAddr 46 (.tmp 8) 4, 0, "l08_thing.go:67", #[⟨5, .data⟩], none⟩,
   ⟨some 10, .load 3 (.tmp 9), 3, "l08_thing.go:67", #[⟨6, .data⟩], none⟩,
   ⟨some 11, .buildSlice 117 2 #[(0, .tmp 6), (1, .tmp 10)], 117, "l08_thing.go:67", #[⟨3, .data⟩, ⟨7, .data⟩], none⟩,
   ⟨some 2, .assign (.tmp 11), 117, "l08_thing.go:67", #[⟨8, .data⟩, ⟨0, .phase⟩, ⟨1, .phase⟩, ⟨2, .phase⟩, ⟨3, .phase⟩, ⟨4, .phase⟩, ⟨5, .phase⟩, ⟨6, .phase⟩, ⟨7, .phase⟩, ⟨8, .phase⟩], none⟩] true).wp Try.prog Q ⟨#[.pointer (some ⟨p, 0, none⟩), v1, v2, v3, v4, v5, v6, v7, v8, v9, v10, v11], []⟩ w := by
 have HQ := Lib.hid hQ; clear hQ
 have hdr : Below w.heap.size w w.drew := (Below.refl _ _).drew
 have BB := Lib.hid hdr
 refine wp_region_noPanic ?_
 refine wp_region_held_drew (S := (fun w' => w'.cell? ⟨p, 3, none⟩ = some (.int .i64 f) ∧ w'.cell? ⟨p, 4, none⟩ = some (.int .i64 s))) (by kernel_rfl) ?_ (fun hHeld => ?_)
 ·
  exact ⟨kc K3.out BB.out, kc K4.out BB.out⟩
 clear hdr
 generalize w.drew = wd at *
 refine wpAnyH_take (i := 0) (oi := ⟨some 3, .move (.tmp 0), 109, "l08_thing.go:67", #[], none⟩) (v := ?_) rfl (by kernel_rfl) (by kernel_rfl) (by kernel_rfl) (fun _ _ _ h => h) (Or.inl ⟨by rfl, ?_⟩) (by assumption) ?_
 rotate_left
 ·
  intro w' hSw; (try dsimp only at hSw); first | (go_simp; done) | (go_simp; with_reducible rfl)
 (try simp only [Act.put, Row.pB0, Row.pB1, Row.pB2])
 refine wpAnyH_take (i := 1) (oi := ⟨some 4, .nilCheck (.tmp 3), 0, "l08_thing.go:67", #[⟨0, .data⟩], none⟩) (v := ?_) rfl (by kernel_rfl) (by kernel_rfl) (by kernel_rfl) (fun _ _ _ h => h) (Or.inl ⟨by rfl, ?_⟩) (by assumption) ?_
 rotate_left
 ·
  intro w' hSw; (try dsimp only at hSw); first | (go_simp; done) | (go_simp; with_reducible rfl)
 (try simp only [Act.put, Row.pB0, Row.pB1, Row.pB2])
 refine wpAnyH_take (i := 2) (oi := ⟨some 5, .fieldAddr 46 (.tmp 4) 3, 0, "l08_thing.go:67", #[⟨1, .data⟩], none⟩) (v := ?_) rfl (by kernel_rfl) (by kernel_rfl) (by kernel_rfl) (fun _ _ _ h => h) (Or.inl ⟨by rfl, ?_⟩) (by assumption) ?_
 rotate_left
 ·
  intro w' hSw; (try dsimp only at hSw); first | (go_simp; done) | (go_simp; with_reducible rfl)
 (try simp only [Act.put, Row.pB0, Row.pB1, Row.pB2])
 refine wpAnyH_take (i := 3) (oi := ⟨some 6, .load 3 (.tmp 5), 3, "l08_thing.go:67", #[⟨2, .data⟩], none⟩) (v := ?_) rfl (by kernel_rfl) (by kernel_rfl) (by kernel_rfl) (fun _ _ _ h => h) (Or.inl ⟨by rfl, ?_⟩) (by assumption) ?_
 rotate_left
 ·
  intro w' hSw; (try dsimp only at hSw); first | (go_simp; done) | (go_simp; with_reducible rfl)
 (try simp only [Act.put, Row.pB0, Row.pB1, Row.pB2])
 refine wpAnyH_take (i := 4) (oi := ⟨some 7, .move (.tmp 0), 109, "l08_thing.go:67", #[], none⟩) (v := ?_) rfl (by kernel_rfl) (by kernel_rfl) (by kernel_rfl) (fun _ _ _ h => h) (Or.inl ⟨by rfl, ?_⟩) (by assumption) ?_
 rotate_left
 ·
  intro w' hSw; (try dsimp only at hSw); first | (go_simp; done) | (go_simp; with_reducible rfl)
 (try simp only [Act.put, Row.pB0, Row.pB1, Row.pB2])
 refine wpAnyH_take (i := 5) (oi := ⟨some 8, .nilCheck (.tmp 7), 0, "l08_thing.go:67", #[⟨4, .data⟩], none⟩) (v := ?_) rfl (by kernel_rfl) (by kernel_rfl) (by kernel_rfl) (fun _ _ _ h => h) (Or.inl ⟨by rfl, ?_⟩) (by assumption) ?_
 rotate_left
 ·
  intro w' hSw; (try dsimp only at hSw); first | (go_simp; done) | (go_simp; with_reducible rfl)
 (try simp only [Act.put, Row.pB0, Row.pB1, Row.pB2])
 refine wpAnyH_take (i := 6) (oi := ⟨some 9, .fieldAddr 46 (.tmp 8) 4, 0, "l08_thing.go:67", #[⟨5, .data⟩], none⟩) (v := ?_) rfl (by kernel_rfl) (by kernel_rfl) (by kernel_rfl) (fun _ _ _ h => h) (Or.inl ⟨by rfl, ?_⟩) (by assumption) ?_
 rotate_left
 ·
  intro w' hSw; (try dsimp only at hSw); first | (go_simp; done) | (go_simp; with_reducible rfl)
 (try simp only [Act.put, Row.pB0, Row.pB1, Row.pB2])
 refine wpAnyH_take (i := 7) (oi := ⟨some 10, .load 3 (.tmp 9), 3, "l08_thing.go:67", #[⟨6, .data⟩], none⟩) (v := ?_) rfl (by kernel_rfl) (by kernel_rfl) (by kernel_rfl) (fun _ _ _ h => h) (Or.inl ⟨by rfl, ?_⟩) (by assumption) ?_
 rotate_left
 ·
  intro w' hSw; (try dsimp only at hSw); first | (go_simp; done) | (go_simp; with_reducible rfl)
 (try simp only [Act.put, Row.pB0, Row.pB1, Row.pB2])
 refine wpAnyH_ready (rs := [8]) (by kernel_rfl) (by simp) ?_
 refine AllReadyH.cons (o := ⟨some 11, .buildSlice 117 2 #[(0, .tmp 6), (1, .tmp 10)], 117, "l08_thing.go:67", #[⟨3, .data⟩, ⟨7, .data⟩], none⟩) rfl (fun K hK => ?_) AllReadyH.nil
 go_simp
 have hb : Below wd.heap.size wd (wd.alloc (.cells #[.int .i64 f, .int .i64 s] 3)) := (Below.refl _ _).alloc (Nat.le_refl _) _
 obtain ⟨bb, hbb⟩ : ∃ b, b = wd.heap.size := ⟨_, rfl⟩
 have HF := Lib.hid (Sl.Own.mono (own_two 3 wd f s bb hbb) BB.out.size)
 rw [← hbb]
 clear hbb
 replace BB := Lib.hid (BB.out.trans (hb.mono BB.out.size))
 clear hb
 generalize wd.alloc (.cells #[.int .i64 f, .int .i64 s] 3) = wn1 at *
 clear hHeld
 refine hK.out _ _ ?_ (fun hHeld => ?_)
 ·
  (try dsimp only); exact ⟨kc K3.out BB.out, kc K4.out BB.out⟩
 clear hK K
 (try simp only [Act.put, Row.pB0, Row.pB1, Row.pB2])
 refine wpAnyH_take (i := 9) (oi := ⟨some 2, .assign (.tmp 11), 117, "l08_thing.go:67", #[⟨8, .data⟩, ⟨0, .phase⟩, ⟨1, .phase⟩, ⟨2, .phase⟩, ⟨3, .phase⟩, ⟨4, .phase⟩, ⟨5, .phase⟩, ⟨6, .phase⟩, ⟨7, .phase⟩, ⟨8, .phase⟩], none⟩) (v := ?_) rfl (by kernel_rfl) (by kernel_rfl) (by kernel_rfl) (fun _ _ _ h => h) (Or.inl ⟨by rfl, ?_⟩) (by assumption) ?_
 rotate_left
 ·
  intro w' hSw; (try dsimp only at hSw); first | (go_simp; done) | (go_simp; with_reducible rfl)
 (try simp only [Act.put, Row.pB0, Row.pB1, Row.pB2])
 refine wpAnyH_done (by kernel_rfl) ?_ _
 exact NoPanic.normal (HQ.out _ _ _ _ _ _ _ _ _ _ HF.out BB.out)
set_option maxHeartbeats 1000000 in
theorem numbersD (g : Nat) (a b c : Value) (f s : Int) (w : World) (hx : Ret.Blk w g (dc a b c f s) 46) :
    Calls Try.prog 112 #[.pointer (some ⟨g, 0, none⟩)] w fun e w' => ∃ bb, e = .returned (.slice (some ⟨bb, 0, none⟩) 2 2) ∧ Sl.Own 3 .i64 w.heap.size w' (.slice (some ⟨bb, 0, none⟩) 2 2) [f, s] ∧ Below w.heap.size w w' := by
  have HX := Lib.hid hx
  clear hx
  go_enter Try.func112, Try.ntmps112
  go_wp2_with fail
  refine numsR (Lib.hid (HX.out.cell 3)) (Lib.hid (HX.out.cell 4)) ?_
  intro u3 u4 u5 u6 u7 u8 u9 u10 bb wx ho hb
  have HO := Lib.hid ho; have HB := Lib.hid hb
  clear ho hb
  go_wp2_with fail
  go_ret
  exact ⟨_, rfl, HO.out, HB.out⟩
end Go.Proofs.Ythfljbbigpophaa.Row
/- Contract of the program's EqualData. No conditions but that lengths fit. -/
namespace Go.Proofs.Ythfljbbigpophaa.Row
open Go.ChangeShapes Go.WideShapes Go.ChangeAt Go.RowKit Go.Instr
set_option linter.unusedVariables false
set_option maxRecDepth 100000
set_option maxHeartbeats 4000000 in
theorem implEqualData (a b c a2 b2 c2 : Value) (x y : Dt) (w : World) (q : Bool) (hq : decide (x = y) = q) (h : DHold w a b c x) (g : DHold w a2 b2 c2 y) (hB : Sl.Byt x.2.1) (gB : Sl.Byt y.2.1) (h1 : x.1.length ≤ 9000000) (h2 : x.2.1.length ≤ 9000000) (h3 : x.2.2.1.length ≤ 9000000) (g1 : y.1.length ≤ 9000000) (g2 : y.2.1.length ≤ 9000000) (g3 : y.2.2.1.length ≤ 9000000) :
    Calls Try.prog 106 #[.agg (dc a b c x.2.2.2.1 x.2.2.2.2), .agg (dc a2 b2 c2 y.2.2.2.1 y.2.2.2.2)] w fun e w' => e = .returned (.bool q) ∧ Below w.heap.size w w' := by
  obtain ⟨l, m, k, f, s⟩ := x
  obtain ⟨l2, m2, k2, f2, s2⟩ := y
  simp only at h1 h2 h3 g1 g2 g3 hB gB ⊢
  obtain ⟨xa, na, ca, xb, nb, cb, xc, nc, cc, rfl, rfl, rfl⟩ := h.shape
  obtain ⟨ua, va, oa, ub, vb, ob, uc, vc, oc, rfl, rfl, rfl⟩ := g.shape
  have hb0 := (Below.refl w.heap.size w).alloc (Nat.le_refl _) (.cells (dc (.slice xa na ca) (.slice xb nb cb) (.slice xc nc cc) f s) 46)
  have HB := Lib.hid (hb0.alloc (by simp) (.cells (dc (.slice ua va oa) (.slice ub vb ob) (.slice uc vc oc) f2 s2) 46))
  have H0 := Lib.hid h; have G0 := Lib.hid g; have HY1 := Lib.hid hB; have HY2 := Lib.hid gB
  have HX := Lib.hid ((Ret.Blk.new w (dc (.slice xa na ca) (.slice xb nb cb) (.slice xc nc cc) f s) 46).on ((Below.refl _ _).alloc (Nat.le_refl _) (.cells (dc (.slice ua va oa) (.slice ub vb ob) (.slice uc vc oc) f2 s2) 46)))
  have HY := Lib.hid (Ret.Blk.new' (w := w.alloc (.cells (dc (.slice xa na ca) (.slice xb nb cb) (.slice xc nc cc) f s) 46)) (n := w.heap.size + 1) (dc (.slice ua va oa) (.slice ub vb ob) (.slice uc vc oc) f2 s2) 46 (by simp))
  have HQ := Lib.hid hq
  clear h g hq hb0 hB gB
  go_enter Try.func106, Try.ntmps106
  go_wp2_with fail
  refine (implEqualNames _ _ l l2 _ (H0.out.on HB.out).1 (G0.out.on HB.out).1 (by omega) (by omega)).mono ?_
  rintro e w1 ⟨rfl, hb⟩
  replace HX := Lib.hid (HX.out.on hb); replace HY := Lib.hid (HY.out.on hb)
  replace HB := Lib.hid (HB.out.trans (hb.mono HB.out.size)); clear hb
  have q0 : w1.cell? ⟨w.heap.size, 0, none⟩ = some (.slice xa na ca) := HX.out.cell 0
  have q1 : w1.cell? ⟨w.heap.size, 1, none⟩ = some (.slice xb nb cb) := HX.out.cell 1
  have q2 : w1.cell? ⟨w.heap.size, 2, none⟩ = some (.slice xc nc cc) := HX.out.cell 2
  have q3 : w1.cell? ⟨w.heap.size, 3, none⟩ = some (.int .i64 f) := HX.out.cell 3
  have q4 : w1.cell? ⟨w.heap.size, 4, none⟩ = some (.int .i64 s) := HX.out.cell 4
  have p0 : w1.cell? ⟨w.heap.size + 1, 0, none⟩ = some (.slice ua va oa) := HY.out.cell 0
  have p1 : w1.cell? ⟨w.heap.size + 1, 1, none⟩ = some (.slice ub vb ob) := HY.out.cell 1
  have p2 : w1.cell? ⟨w.heap.size + 1, 2, none⟩ = some (.slice uc vc oc) := HY.out.cell 2
  have p3 : w1.cell? ⟨w.heap.size + 1, 3, none⟩ = some (.int .i64 f2) := HY.out.cell 3
  have p4 : w1.cell? ⟨w.heap.size + 1, 4, none⟩ = some (.int .i64 s2) := HY.out.cell 4
  by_cases e1 : l = l2
  · rw [eqB_true e1]
    go_wp2_with fail
    clear q0 q1 q2 q3 q4 p0 p1 p2 p3 p4
    refine (Sl.implEqualBytes _ _ m m2 _ (H0.out.on HB.out).2.1 (G0.out.on HB.out).2.1 HY1.out HY2.out).mono ?_
    rintro e w2 ⟨rfl, rfl⟩
    have q0 : w1.cell? ⟨w.heap.size, 0, none⟩ = some (.slice xa na ca) := HX.out.cell 0
    have q1 : w1.cell? ⟨w.heap.size, 1, none⟩ = some (.slice xb nb cb) := HX.out.cell 1
    have q2 : w1.cell? ⟨w.heap.size, 2, none⟩ = some (.slice xc nc cc) := HX.out.cell 2
    have q3 : w1.cell? ⟨w.heap.size, 3, none⟩ = some (.int .i64 f) := HX.out.cell 3
    have q4 : w1.cell? ⟨w.heap.size, 4, none⟩ = some (.int .i64 s) := HX.out.cell 4
    have p0 : w1.cell? ⟨w.heap.size + 1, 0, none⟩ = some (.slice ua va oa) := HY.out.cell 0
    have p1 : w1.cell? ⟨w.heap.size + 1, 1, none⟩ = some (.slice ub vb ob) := HY.out.cell 1
    have p2 : w1.cell? ⟨w.heap.size + 1, 2, none⟩ = some (.slice uc vc oc) := HY.out.cell 2
    have p3 : w1.cell? ⟨w.heap.size + 1, 3, none⟩ = some (.int .i64 f2) := HY.out.cell 3
    have p4 : w1.cell? ⟨w.heap.size + 1, 4, none⟩ = some (.int .i64 s2) := HY.out.cell 4
    by_cases e2 : m = m2
    · rw [Sl.eqB_true e2]
      go_wp2_with fail
      clear q0 q1 q2 q3 q4 p0 p1 p2 p3 p4
      refine (implEqualNames _ _ k k2 _ (H0.out.on HB.out).2.2 (G0.out.on HB.out).2.2 (by omega) (by omega)).mono ?_
      rintro e w3 ⟨rfl, hb⟩
      replace HX := Lib.hid (HX.out.on hb); replace HY := Lib.hid (HY.out.on hb)
      replace HB := Lib.hid (HB.out.trans (hb.mono HB.out.size)); clear hb
      have q0 : w3.cell? ⟨w.heap.size, 0, none⟩ = some (.slice xa na ca) := HX.out.cell 0
      have q1 : w3.cell? ⟨w.heap.size, 1, none⟩ = some (.slice xb nb cb) := HX.out.cell 1
      have q2 : w3.cell? ⟨w.heap.size, 2, none⟩ = some (.slice xc nc cc) := HX.out.cell 2
      have q3 : w3.cell? ⟨w.heap.size, 3, none⟩ = some (.int .i64 f) := HX.out.cell 3
      have q4 : w3.cell? ⟨w.heap.size, 4, none⟩ = some (.int .i64 s) := HX.out.cell 4
      have p0 : w3.cell? ⟨w.heap.size + 1, 0, none⟩ = some (.slice ua va oa) := HY.out.cell 0
      have p1 : w3.cell? ⟨w.heap.size + 1, 1, none⟩ = some (.slice ub vb ob) := HY.out.cell 1
      have p2 : w3.cell? ⟨w.heap.size + 1, 2, none⟩ = some (.slice uc vc oc) := HY.out.cell 2
      have p3 : w3.cell? ⟨w.heap.size + 1, 3, none⟩ = some (.int .i64 f2) := HY.out.cell 3
      have p4 : w3.cell? ⟨w.heap.size + 1, 4, none⟩ = some (.int .i64 s2) := HY.out.cell 4
      by_cases e3 : k = k2
      · rw [eqB_true e3]
        go_wp2_with fail
        clear q0 q1 q2 q3 q4 p0 p1 p2 p3 p4
        refine (numbersD w.heap.size _ _ _ f s _ HX.out).mono ?_
        rintro e w4 ⟨b4, rfl, ho, hb⟩
        have O4 := Lib.hid ho.holds
        replace HX := Lib.hid (HX.out.on hb); replace HY := Lib.hid (HY.out.on hb)
        replace HB := Lib.hid (HB.out.trans (hb.mono HB.out.size)); clear ho hb
        go_wp2_with fail
        refine (numbersD (w.heap.size + 1) _ _ _ f2 s2 _ HY.out).mono ?_
        rintro e w5 ⟨b5, rfl, ho, hb⟩
        have O5 := Lib.hid ho.holds
        replace O4 := Lib.hid (O4.out.on hb)
        replace HB := Lib.hid (HB.out.trans (hb.mono HB.out.size)); clear ho hb
        obtain ⟨z, hz⟩ : ∃ z, Sl.eqB [f, s] [f2, s2] = z := ⟨_, rfl⟩
        have HE : Hid (q = z) := Lib.hid (by rw [← HQ.out, ← hz]; simp [e1, e2, e3, Sl.eqB])
        have HZ := Lib.hid hz
        clear e1 e2 e3 hz
        go_wp2_with fail
        refine (Sl.implEqualInts _ _ [f, s] [f2, s2] _ O4.out O5.out (by simp) (by simp)).mono ?_
        rintro e w6 ⟨rfl, hb⟩
        rw [HZ.out]
        replace HB := Lib.hid (HB.out.trans (hb.mono HB.out.size)); clear hb
        go_wp2_with fail
        go_ret
        exact ⟨ret_bool HE.out.symm, HB.out⟩
      · rw [eqB_false e3]
        have HE : Hid (q = false) := Lib.hid (by rw [← HQ.out]; simp [e3])
        clear e3
        go_wp2
        go_ret
        exact ⟨ret_bool HE.out.symm, HB.out⟩
    · rw [Sl.eqB_false e2]
      have HE : Hid (q = false) := Lib.hid (by rw [← HQ.out]; simp [e2])
      clear e2
      go_wp2
      go_ret
      exact ⟨ret_bool HE.out.symm, HB.out⟩
  · rw [eqB_false e1]
    have HE : Hid (q = false) := Lib.hid (by rw [← HQ.out]; simp [e1])
    clear e1
    go_wp2
    go_ret
    exact ⟨ret_bool HE.out.symm, HB.out⟩
end Go.Proofs.Ythfljbbigpophaa.Row
/- Names and packets in the kinds of kstruct.py: what chapters 4 and 8 do with them, model and program; a packet's clone at any address. No conditions but that lengths fit. -/
namespace Go.Proofs.Ythfljbbigpophaa.Row
open Go.ChangeShapes Go.WideShapes Go.ChangeAt Go.RowKit Go.Instr
set_option linter.unusedVariables false
set_option maxRecDepth 100000
section
variable {w : World} {V U : Value} {x y : Dzt} {l m : List ByteArray} {B E : Nat}
theorem kDz_ofD (h : kD.In B E w V x) : kDz.In B E w V x := h
theorem kD_ofZ (h : kDz.At w V x) : kD.At w V x := h
theorem sEqK (z : Bool) (hz : decide (l = m) = z) (h : kN.At w V l) (g : kN.At w U m) (hl : bulk l ≤ 9000000) (hm : bulk m ≤ 9000000) :
    Calls Try.prog 69 #[V, U] w fun e w' => e = .returned (.bool z) ∧ Below w.heap.size w w' := by
  obtain ⟨v, rfl, h9⟩ := kN_at h
  obtain ⟨u, rfl, g9⟩ := kN_at g
  exact hz ▸ specEqualNames v u l m w h9 g9 (by have := bulk_len l; omega) (by have := bulk_len m; omega)
theorem iEqK (z : Bool) (hz : decide (l = m) = z) (h : kN.At w V l) (g : kN.At w U m) (hl : bulk l ≤ 9000000) (hm : bulk m ≤ 9000000) :
    Calls Try.prog 74 #[V, U] w fun e w' => e = .returned (.bool z) ∧ Below w.heap.size w w' := by
  obtain ⟨v, rfl, h9⟩ := kN_at h
  obtain ⟨u, rfl, g9⟩ := kN_at g
  exact hz ▸ implEqualNames v u l m w h9 g9 (by have := bulk_len l; omega) (by have := bulk_len m; omega)
theorem sCpyN (h : kN.At w V l) (hl : bulk l ≤ 9000000) : Calls Try.prog 81 #[V] w fun e w' => ∃ U, e = .returned U ∧ kN.In w.heap.size w'.heap.size w' U l ∧ Below w.heap.size w w' := by
  obtain ⟨v, rfl, h9⟩ := kN_at h
  exact (l4Copy v l w h9 (by have := bulk_len l; omega)).mono fun e w' ⟨v', a, b, c⟩ => ⟨_, a, kN_own b, c⟩
theorem iCpyN (h : kN.At w V l) (hl : bulk l ≤ 9000000) : Calls Try.prog 82 #[V] w fun e w' => ∃ U, e = .returned U ∧ kN.In w.heap.size w'.heap.size w' U l ∧ Below w.heap.size w w' := by
  obtain ⟨v, rfl, h9⟩ := kN_at h
  exact (cloneName v l w h9 (by have := bulk_len l; omega)).mono fun e w' ⟨v', a, b, c⟩ => ⟨_, a, kN_own b, c⟩
theorem sValZ (z : Bool) (hz : validD x = z) (h : kDz.At w V x) (hl : wtDz x ≤ 9000000) :
    Calls Try.prog 50 #[V] w fun e w' => e = .returned (.bool z) ∧ Below w.heap.size w w' := hz ▸ specValidDataK V x w (kD_ofZ h) hl
theorem iValZ (z : Bool) (hz : validD x = z) (h : kDz.At w V x) (hl : wtDz x ≤ 9000000) :
    Calls Try.prog 60 #[V] w fun e w' => e = .returned (.bool z) ∧ Below w.heap.size w w' := hz ▸ implValidDataK V x w (kD_ofZ h) hl
theorem sFrZ (n : Int) (z : Bool) (hz : decide (n ≤ x.2.2.2.1) = z) (h : kDz.At w V x) :
    Calls Try.prog 70 #[V, .int .i64 n] w fun e w' => e = .returned (.bool z) ∧ Below w.heap.size w w' := hz ▸ specFreshAtK V x n w (kD_ofZ h)
theorem iFrZ (n : Int) (z : Bool) (hz : decide (n ≤ x.2.2.2.1) = z) (h : kDz.At w V x) :
    Calls Try.prog 75 #[V, .int .i64 n] w fun e w' => e = .returned (.bool z) ∧ Below w.heap.size w w' := hz ▸ implFreshAtK V x n w (kD_ofZ h)
theorem giveZ {P : Program} {f : FuncId} {args : Array Value} (h : Calls P f args w (GivesD w x)) : Calls P f args w fun e w' => ∃ U, e = .returned U ∧ kDz.In w.heap.size w'.heap.size w' U x ∧ Below w.heap.size w w' := h.mono fun e w' ⟨a, b, c, p, q, r⟩ => ⟨_, p, kDz_ofD (kD_own q), r⟩
theorem wtDz_lens (x : Dzt) {n : Nat} (h : wtDz x ≤ n) : bulk x.1 ≤ n ∧ x.1.length ≤ n ∧ x.2.1.length ≤ n ∧ bulk x.2.2.1 ≤ n ∧ x.2.2.1.length ≤ n := by
  have h1 := bulk_len x.1
  have h2 := bulk_len x.2.2.1
  unfold wtDz at h
  omega
theorem sCpyZ (h : kDz.At w V x) (hl : wtDz x ≤ 9000000) : Calls Try.prog 57 #[V] w fun e w' => ∃ U, e = .returned U ∧ kDz.In w.heap.size w'.heap.size w' U x ∧ Below w.heap.size w w' := by
  obtain ⟨a, b, c, rfl, h9⟩ := kD_at (kD_ofZ h)
  obtain ⟨-, l1, l2, -, l3⟩ := wtDz_lens x hl
  exact giveZ (l8Copy a b c x w h9 l1 l2 l3)
theorem inDz.byt (h : inDz x) : Sl.Byt x.2.1 := Sl.byt_of_wf h.2.1.2
theorem sEqZ (q : Bool) (hq : decide (x = y) = q) (h : kDz.At w V x) (g : kDz.At w U y) (hn : inDz x) (gn : inDz y) (hl : wtDz x ≤ 9000000) (hm : wtDz y ≤ 9000000) :
    Calls Try.prog 84 #[V, U] w fun e w' => e = .returned (.bool q) ∧ Below w.heap.size w w' := by
  obtain ⟨a, b, c, rfl, h9⟩ := kD_at (kD_ofZ h)
  obtain ⟨a2, b2, c2, rfl, g9⟩ := kD_at (kD_ofZ g)
  obtain ⟨-, l1, l2, -, l3⟩ := wtDz_lens x hl
  obtain ⟨-, m1, m2, -, m3⟩ := wtDz_lens y hm
  exact specEqualData a b c a2 b2 c2 x y w q hq h9 g9 hn.byt gn.byt l1 l2 l3 m1 m2 m3
theorem iEqZ (q : Bool) (hq : decide (x = y) = q) (h : kDz.At w V x) (g : kDz.At w U y) (hn : inDz x) (gn : inDz y) (hl : wtDz x ≤ 9000000) (hm : wtDz y ≤ 9000000) :
    Calls Try.prog 106 #[V, U] w fun e w' => e = .returned (.bool q) ∧ Below w.heap.size w w' := by
  obtain ⟨a, b, c, rfl, h9⟩ := kD_at (kD_ofZ h)
  obtain ⟨a2, b2, c2, rfl, g9⟩ := kD_at (kD_ofZ g)
  obtain ⟨-, l1, l2, -, l3⟩ := wtDz_lens x hl
  obtain ⟨-, m1, m2, -, m3⟩ := wtDz_lens y hm
  exact implEqualData a b c a2 b2 c2 x y w q hq h9 g9 hn.byt gn.byt l1 l2 l3 m1 m2 m3
end
def Five (w : World) (g o : Nat) (a b c : Value) (f s : Int) : Prop := w.cell? ⟨g, o, none⟩ = some a ∧ w.cell? ⟨g, o + 1, none⟩ = some b ∧ w.cell? ⟨g, o + 2, none⟩ = some c ∧ w.cell? ⟨g, o + 3, none⟩ = some (.int .i64 f) ∧ w.cell? ⟨g, o + 4, none⟩ = some (.int .i64 s)
section
variable {w w' : World} {g o : Nat} {a b c : Value} {f s : Int}
theorem Five.lt (h : Five w g o a b c f s) : g < w.heap.size := Ret.cell_lt h.1
theorem Five.on (h : Five w g o a b c f s) (hb : Below w.heap.size w w') : Five w' g o a b c f s := ⟨kc h.1 hb, kc h.2.1 hb, kc h.2.2.1 hb, kc h.2.2.2.1 hb, kc h.2.2.2.2 hb⟩
theorem Five.grown (h : Five w g o a b c f s) {row : Option Nat} (hg : w.grownBy w' row) (hne : some g ≠ row) : Five w' g o a b c f s := ⟨hg.cell h.1 hne, hg.cell h.2.1 hne, hg.cell h.2.2.1 hne, hg.cell h.2.2.2.1 hne, hg.cell h.2.2.2.2 hne⟩
theorem Five.other (h : Five w g o a b c f s) {ad : Addr} (hne : ad.block ≠ g) (v : Value) : Five (w.setCell ad v) g o a b c f s := h.grown (Ret.grownBy_set w ad v) (fun e => hne (by cases e; rfl))
end
set_option maxHeartbeats 4000000 in
theorem cloneAt (g o : Nat) (a b c : Value) (x : Dt) (w : World) (hx : Five w g o a b c x.2.2.2.1 x.2.2.2.2) (h : DHold w a b c x) (h1 : x.1.length ≤ 9000000) (h2 : x.2.1.length ≤ 9000000) (h3 : x.2.2.1.length ≤ 9000000) :
    Calls Try.prog 64 #[.pointer (some ⟨g, o, none⟩)] w (GivesD w x) := by
  obtain ⟨l, m, k, f, s⟩ := x
  unfold GivesD
  simp only at h1 h2 h3 hx ⊢
  obtain ⟨xa, na, ca, xb, nb, cb, xc, nc, cc, rfl, rfl, rfl⟩ := h.shape
  have hg0 := hx.lt
  have hb1 := (Below.refl w.heap.size w).alloc (Nat.le_refl _) (.cells (dc nil nil nil 0 0) 46)
  have hb2 := hb1.alloc (by simp) (.cells (dc (.slice xa na ca) (.slice xb nb cb) (.slice xc nc cc) f s) 46)
  have HB := Lib.hid hb2
  have H0 := Lib.hid h
  have HX := Lib.hid (hx.on hb2)
  have HR := Lib.hid ((Ret.Blk.new w (dc nil nil nil 0 0) 46).on ((Below.refl _ _).alloc (Nat.le_refl _) (.cells (dc (.slice xa na ca) (.slice xb nb cb) (.slice xc nc cc) f s) 46)))
  have HL := Lib.hid (Ret.Blk.new' (w := w.alloc (.cells (dc nil nil nil 0 0) 46)) (n := w.heap.size + 1) (dc (.slice xa na ca) (.slice xb nb cb) (.slice xc nc cc) f s) 46 (by simp))
  have hz0 : ((w.alloc (.cells (dc nil nil nil 0 0) 46)).alloc (.cells (dc (.slice xa na ca) (.slice xb nb cb) (.slice xc nc cc) f s) 46)).heap.size = w.heap.size + 2 := by simp
  have q0 : w.cell? ⟨g, o, none⟩ = some (.slice xa na ca) := hx.1
  have q1 : w.cell? ⟨g, o + 1, none⟩ = some (.slice xb nb cb) := hx.2.1
  have q2 : w.cell? ⟨g, o + 2, none⟩ = some (.slice xc nc cc) := hx.2.2.1
  have q3 : w.cell? ⟨g, o + 3, none⟩ = some (.int .i64 f) := hx.2.2.2.1
  have q4 : w.cell? ⟨g, o + 4, none⟩ = some (.int .i64 s) := hx.2.2.2.2
  clear h hx hb1 hb2
  go_enter Try.func64, Try.ntmps64
  go_wp2_with fail
  clear q0 q1 q2 q3 q4
  refine (cloneName _ l _ (H0.out.on HB.out).1 (by omega)).mono ?_
  rintro e w1 ⟨a1, rfl, ho1, hb1⟩
  obtain ⟨ya, ma, da, rfl, -, -, ho1⟩ := ho1.shapeN
  have hs1 := hb1.size
  rw [hz0] at ho1 hs1
  replace HX := Lib.hid (HX.out.on hb1); replace HR := Lib.hid (HR.out.on hb1); replace HL := Lib.hid (HL.out.on hb1)
  replace HB := Lib.hid (HB.out.trans (hb1.mono HB.out.size))
  have HO1 := Lib.hid ho1
  have HLA := Lib.hid (fun g hg => (ho1.lt g hg).2)
  clear ho1 hb1 hz0
  have q0 : w1.cell? ⟨g, o, none⟩ = some (.slice xa na ca) := HX.out.1
  have q1 : w1.cell? ⟨g, o + 1, none⟩ = some (.slice xb nb cb) := HX.out.2.1
  have q2 : w1.cell? ⟨g, o + 2, none⟩ = some (.slice xc nc cc) := HX.out.2.2.1
  have q3 : w1.cell? ⟨g, o + 3, none⟩ = some (.int .i64 f) := HX.out.2.2.2.1
  have q4 : w1.cell? ⟨g, o + 4, none⟩ = some (.int .i64 s) := HX.out.2.2.2.2
  have p0 : w1.cell? ⟨w.heap.size + 1, 0, none⟩ = some (.slice xa na ca) := HL.out.cell 0
  have p1 : w1.cell? ⟨w.heap.size + 1, 1, none⟩ = some (.slice xb nb cb) := HL.out.cell 1
  have p2 : w1.cell? ⟨w.heap.size + 1, 2, none⟩ = some (.slice xc nc cc) := HL.out.cell 2
  have p3 : w1.cell? ⟨w.heap.size + 1, 3, none⟩ = some (.int .i64 f) := HL.out.cell 3
  have p4 : w1.cell? ⟨w.heap.size + 1, 4, none⟩ = some (.int .i64 s) := HL.out.cell 4
  have t0 := HL.out.frozen 0; have t1 := HL.out.frozen 1; have t2 := HL.out.frozen 2; have t3 := HL.out.frozen 3; have t4 := HL.out.frozen 4
  go_wp2_with fail
  clear q0 q1 q2 q3 q4 p0 p1 p2 p3 p4 t0 t1 t2 t3 t4
  replace HX := Lib.hid (HX.out.other (ad := ⟨w.heap.size + 1, 0, none⟩) (by show w.heap.size + 1 ≠ g; omega) (.slice ya ma da))
  replace HR := Lib.hid (HR.out.other (a := ⟨w.heap.size + 1, 0, none⟩) (by show w.heap.size + 1 ≠ w.heap.size; omega) (.slice ya ma da))
  replace HL := Lib.hid (HL.out.set 0 (.slice ya ma da))
  replace HB := Lib.hid (HB.out.setCell (p := ⟨w.heap.size + 1, 0, none⟩) (by show w.heap.size ≤ w.heap.size + 1; omega) (.slice ya ma da))
  replace HO1 := Lib.hid (own_set (g := w.heap.size + 1) (i := 0) (u := .slice ya ma da) HO1.out (by omega))
  refine (cloneBs _ m _ (H0.out.on HB.out).2.1 (by omega)).mono ?_
  rintro e w2 ⟨b1, rfl, ho2, hb2⟩
  obtain ⟨yb, mb, db, rfl, -, -, ho2⟩ := Own.shapeN (enc := Value.int .u8) ho2
  replace ho2 : Sl.Own 5 .u8 _ w2 (.slice yb mb db) m := ho2
  have hs2 := hb2.size
  simp only [World.size_setCell] at hs2 ho2
  replace HX := Lib.hid (HX.out.on hb2); replace HR := Lib.hid (HR.out.on hb2); replace HL := Lib.hid (HL.out.on hb2)
  replace HO1 := Lib.hid (HO1.out.on hb2)
  replace HB := Lib.hid (HB.out.trans (hb2.mono HB.out.size))
  have HO2 := Lib.hid ho2
  have HLB := Lib.hid (fun g hg => (ho2.lt g hg).2)
  clear ho2 hb2
  have q0 : w2.cell? ⟨g, o, none⟩ = some (.slice xa na ca) := HX.out.1
  have q1 : w2.cell? ⟨g, o + 1, none⟩ = some (.slice xb nb cb) := HX.out.2.1
  have q2 : w2.cell? ⟨g, o + 2, none⟩ = some (.slice xc nc cc) := HX.out.2.2.1
  have q3 : w2.cell? ⟨g, o + 3, none⟩ = some (.int .i64 f) := HX.out.2.2.2.1
  have q4 : w2.cell? ⟨g, o + 4, none⟩ = some (.int .i64 s) := HX.out.2.2.2.2
  have p0 : w2.cell? ⟨w.heap.size + 1, 0, none⟩ = some (.slice ya ma da) := HL.out.cell 0
  have p1 : w2.cell? ⟨w.heap.size + 1, 1, none⟩ = some (.slice xb nb cb) := HL.out.cell 1
  have p2 : w2.cell? ⟨w.heap.size + 1, 2, none⟩ = some (.slice xc nc cc) := HL.out.cell 2
  have p3 : w2.cell? ⟨w.heap.size + 1, 3, none⟩ = some (.int .i64 f) := HL.out.cell 3
  have p4 : w2.cell? ⟨w.heap.size + 1, 4, none⟩ = some (.int .i64 s) := HL.out.cell 4
  have t0 := HL.out.frozen 0; have t1 := HL.out.frozen 1; have t2 := HL.out.frozen 2; have t3 := HL.out.frozen 3; have t4 := HL.out.frozen 4
  go_wp2_with fail
  clear q0 q1 q2 q3 q4 p0 p1 p2 p3 p4 t0 t1 t2 t3 t4
  replace HX := Lib.hid (HX.out.other (ad := ⟨w.heap.size + 1, 1, none⟩) (by show w.heap.size + 1 ≠ g; omega) (.slice yb mb db))
  replace HR := Lib.hid (HR.out.other (a := ⟨w.heap.size + 1, 1, none⟩) (by show w.heap.size + 1 ≠ w.heap.size; omega) (.slice yb mb db))
  replace HL := Lib.hid (HL.out.set 1 (.slice yb mb db))
  replace HB := Lib.hid (HB.out.setCell (p := ⟨w.heap.size + 1, 1, none⟩) (by show w.heap.size ≤ w.heap.size + 1; omega) (.slice yb mb db))
  replace HO1 := Lib.hid (own_set (g := w.heap.size + 1) (i := 1) (u := .slice yb mb db) HO1.out (by omega))
  replace HO2 := Lib.hid (sl_own_set (g := w.heap.size + 1) (i := 1) (u := .slice yb mb db) HO2.out (by omega))
  refine (cloneName _ k _ (H0.out.on HB.out).2.2 (by omega)).mono ?_
  rintro e w3 ⟨c1, rfl, ho3, hb3⟩
  obtain ⟨yc, mc, dc_, rfl, -, -, ho3⟩ := ho3.shapeN
  have hs3 := hb3.size
  simp only [World.size_setCell] at hs3 ho3
  replace HX := Lib.hid (HX.out.on hb3); replace HR := Lib.hid (HR.out.on hb3); replace HL := Lib.hid (HL.out.on hb3)
  replace HO1 := Lib.hid (HO1.out.on hb3); replace HO2 := Lib.hid (HO2.out.on hb3)
  replace HB := Lib.hid (HB.out.trans (hb3.mono HB.out.size))
  have HO3 := Lib.hid ho3
  clear ho3 hb3
  have q0 : w3.cell? ⟨g, o, none⟩ = some (.slice xa na ca) := HX.out.1
  have q1 : w3.cell? ⟨g, o + 1, none⟩ = some (.slice xb nb cb) := HX.out.2.1
  have q2 : w3.cell? ⟨g, o + 2, none⟩ = some (.slice xc nc cc) := HX.out.2.2.1
  have q3 : w3.cell? ⟨g, o + 3, none⟩ = some (.int .i64 f) := HX.out.2.2.2.1
  have q4 : w3.cell? ⟨g, o + 4, none⟩ = some (.int .i64 s) := HX.out.2.2.2.2
  have p0 : w3.cell? ⟨w.heap.size + 1, 0, none⟩ = some (.slice ya ma da) := HL.out.cell 0
  have p1 : w3.cell? ⟨w.heap.size + 1, 1, none⟩ = some (.slice yb mb db) := HL.out.cell 1
  have p2 : w3.cell? ⟨w.heap.size + 1, 2, none⟩ = some (.slice xc nc cc) := HL.out.cell 2
  have p3 : w3.cell? ⟨w.heap.size + 1, 3, none⟩ = some (.int .i64 f) := HL.out.cell 3
  have p4 : w3.cell? ⟨w.heap.size + 1, 4, none⟩ = some (.int .i64 s) := HL.out.cell 4
  have t0 := HL.out.frozen 0; have t1 := HL.out.frozen 1; have t2 := HL.out.frozen 2; have t3 := HL.out.frozen 3; have t4 := HL.out.frozen 4
  have r0 : w3.cell? ⟨w.heap.size, 0, none⟩ = some (.slice none 0 0) := HR.out.cell 0
  have r1 : w3.cell? ⟨w.heap.size, 1, none⟩ = some (.slice none 0 0) := HR.out.cell 1
  have r2 : w3.cell? ⟨w.heap.size, 2, none⟩ = some (.slice none 0 0) := HR.out.cell 2
  have r3 : w3.cell? ⟨w.heap.size, 3, none⟩ = some (.int .i64 0) := HR.out.cell 3
  have r4 : w3.cell? ⟨w.heap.size, 4, none⟩ = some (.int .i64 0) := HR.out.cell 4
  have z0 := HR.out.frozen 0; have z1 := HR.out.frozen 1; have z2 := HR.out.frozen 2; have z3 := HR.out.frozen 3; have z4 := HR.out.frozen 4
  have Z1 := Lib.hid ((((((HR.out.other (a := ⟨w.heap.size + 1, 2, none⟩) (by show w.heap.size + 1 ≠ w.heap.size; omega) (.slice yc mc dc_)).set 0 (.slice ya ma da)).set 1 (.slice yb mb db)).set 2 (.slice yc mc dc_)).set 3 (.int .i64 f)).set 4 (.int .i64 s))
  have Z2 := Lib.hid (own_set (g := w.heap.size) (i := 4) (u := .int .i64 s) (own_set (g := w.heap.size) (i := 3) (u := .int .i64 f) (own_set (g := w.heap.size) (i := 2) (u := .slice yc mc dc_) (own_set (g := w.heap.size) (i := 1) (u := .slice yb mb db) (own_set (g := w.heap.size) (i := 0) (u := .slice ya ma da) (own_set (g := w.heap.size + 1) (i := 2) (u := .slice yc mc dc_) HO1.out (by omega)) (by omega)) (by omega)) (by omega)) (by omega)) (by omega))
  have Z3 := Lib.hid (sl_own_set (g := w.heap.size) (i := 4) (u := .int .i64 s) (sl_own_set (g := w.heap.size) (i := 3) (u := .int .i64 f) (sl_own_set (g := w.heap.size) (i := 2) (u := .slice yc mc dc_) (sl_own_set (g := w.heap.size) (i := 1) (u := .slice yb mb db) (sl_own_set (g := w.heap.size) (i := 0) (u := .slice ya ma da) (sl_own_set (g := w.heap.size + 1) (i := 2) (u := .slice yc mc dc_) HO2.out (by omega)) (by omega)) (by omega)) (by omega)) (by omega)) (by omega))
  have Z4 := Lib.hid (own_set (g := w.heap.size) (i := 4) (u := .int .i64 s) (own_set (g := w.heap.size) (i := 3) (u := .int .i64 f) (own_set (g := w.heap.size) (i := 2) (u := .slice yc mc dc_) (own_set (g := w.heap.size) (i := 1) (u := .slice yb mb db) (own_set (g := w.heap.size) (i := 0) (u := .slice ya ma da) (own_set (g := w.heap.size + 1) (i := 2) (u := .slice yc mc dc_) HO3.out (by omega)) (by omega)) (by omega)) (by omega)) (by omega)) (by omega))
  have Z5 := Lib.hid ((((((HB.out.setCell (p := ⟨w.heap.size + 1, 2, none⟩) (by show w.heap.size ≤ w.heap.size + 1; omega) (.slice yc mc dc_)).setCell (p := ⟨w.heap.size, 0, none⟩) (by show w.heap.size ≤ w.heap.size; omega) (.slice ya ma da)).setCell (p := ⟨w.heap.size, 1, none⟩) (by show w.heap.size ≤ w.heap.size; omega) (.slice yb mb db)).setCell (p := ⟨w.heap.size, 2, none⟩) (by show w.heap.size ≤ w.heap.size; omega) (.slice yc mc dc_)).setCell (p := ⟨w.heap.size, 3, none⟩) (by show w.heap.size ≤ w.heap.size; omega) (.int .i64 f)).setCell (p := ⟨w.heap.size, 4, none⟩) (by show w.heap.size ≤ w.heap.size; omega) (.int .i64 s))
  go_wp2_with fail
  refine bodyPost_ret (Ret.results_c rfl _ _ w.heap.size (dc (.slice ya ma da) (.slice yb mb db) (.slice yc mc dc_) f s).toList rfl aggD Z1.out.cells) rfl ?_
  have hlb := fun g hg => (Sl.Own.lt Z3.out g hg).1
  have hlc := fun g hg => (Own.lt Z4.out g hg).1
  exact ⟨_, _, _, rfl, ⟨Z2.out.mono (by omega), Sl.Own.mono Z3.out (by omega), Z4.out.mono (by omega), fun g e1 e2 => by have h5 := HLA.out g e1; have h6 := hlb g e2; omega, fun g e1 e2 => by have h5 := HLA.out g e1; have h6 := hlc g e2; omega, fun g e1 e2 => by have h5 := HLB.out g e1; have h6 := hlc g e2; omega⟩, Z5.out⟩
theorem iClnZ (g o : Nat) (a b c : Value) (x : Dzt) (w : World) (hx : Five w g o a b c x.2.2.2.1 x.2.2.2.2) (h : kDz.At w (.agg (dc a b c x.2.2.2.1 x.2.2.2.2)) x) (hl : wtDz x ≤ 9000000) :
    Calls Try.prog 64 #[.pointer (some ⟨g, o, none⟩)] w fun e w' => ∃ U, e = .returned U ∧ kDz.In w.heap.size w'.heap.size w' U x ∧ Below w.heap.size w w' := by
  obtain ⟨a', b', c', e, h9⟩ := kD_at (kD_ofZ h)
  obtain ⟨-, l1, l2, -, l3⟩ := wtDz_lens x hl
  injection e with e
  have e0 := congrArg Array.toList e
  simp only [List.cons.injEq] at e0
  obtain ⟨rfl, rfl, rfl, -⟩ := e0
  exact giveZ (cloneAt g o _ _ _ x w hx h9 l1 l2 l3)
end Go.Proofs.Ythfljbbigpophaa.Row
/- Searching a list for the first element of which something holds; what is asked of a closure that is handed to the library. For any kind. No conditions. -/
namespace Go.Proofs.Ythfljbbigpophaa.Row
open Go.ChangeShapes Go.WideShapes Go.ChangeAt Go.RowKit Go.Instr
set_option linter.unusedVariables false
set_option maxRecDepth 100000
section
variable {α : Type} [Inhabited α] {p : α → Bool} {l : List α} {k : Nat}
def ixL (p : α → Bool) (l : List α) : Int := if l.findIdx p < l.length then (l.findIdx p : Int) else -1
def noL (p : α → Bool) (l : List α) (k : Nat) : Prop := ∀ j, j < k → p (nth l j) = false
theorem noL_zero (p : α → Bool) (l : List α) : noL p l 0 := fun j h => absurd h (by omega)
theorem noL_succ (h : noL p l k) (hc : p (nth l k) = false) : noL p l (k + 1) := fun j h1 => by
  by_cases e : j = k
  · subst e; exact hc
  · exact h j (by omega)
theorem ixL_at (hk : k < l.length) (h : noL p l k) (hc : p (nth l k) = true) : ixL p l = k := by
  have e : l.findIdx p = k := by
    rw [List.findIdx_eq hk]
    exact ⟨by rw [← nth_eq hk]; exact hc, fun j hj => by rw [← nth_eq (Nat.lt_trans hj hk)]; exact h j hj⟩
  unfold ixL; rw [e, if_pos hk]
theorem ixL_none (h : noL p l l.length) : ixL p l = -1 := by
  have e : l.findIdx p = l.length := by
    rw [List.findIdx_eq_length]
    intro x hx
    obtain ⟨j, hj, rfl⟩ := List.getElem_of_mem hx
    rw [← nth_eq hj]; exact h j hj
  unfold ixL; rw [e, if_neg (by omega)]
theorem ixL_cases (p : α → Bool) (l : List α) : (ixL p l = -1 ∧ noL p l l.length) ∨ ∃ k, k < l.length ∧ ixL p l = (k : Int) ∧ p (nth l k) = true ∧ noL p l k := by
  by_cases h : l.findIdx p < l.length
  · refine Or.inr ⟨l.findIdx p, h, by unfold ixL; rw [if_pos h], ?_, ?_⟩
    · rw [nth_eq h]; exact List.findIdx_getElem
    · intro j hj
      rw [nth_eq (Nat.lt_trans hj h)]
      have := List.not_of_lt_findIdx hj
      simpa using this
  · have e : l.findIdx p = l.length := Nat.le_antisymm List.findIdx_le_length (by omega)
    refine Or.inl ⟨by unfold ixL; rw [if_neg h], fun j hj => ?_⟩
    rw [nth_eq hj]
    have := List.not_of_lt_findIdx (p := p) (xs := l) (i := j) (by omega)
    simpa using this
theorem any_of_noL (h : noL p l l.length) : l.any p = false := by
  rw [List.any_eq_false]
  intro x hx
  obtain ⟨j, hj, rfl⟩ := List.getElem_of_mem hx
  rw [← nth_eq hj, h j hj]
  simp
theorem any_of_at (hk : k < l.length) (hc : p (nth l k) = true) : l.any p = true := List.any_eq_true.2 ⟨_, nth_mem hk, hc⟩
theorem any_ixL (p : α → Bool) (l : List α) : l.any p = decide (0 ≤ ixL p l) := by
  rcases ixL_cases p l with ⟨e, h⟩ | ⟨k, hk, e, hc, -⟩
  · rw [e, any_of_noL h]; rfl
  · rw [e, any_of_at hk hc]; simp
end
def ClosK {α M : Type} (P : Program) (k : Kd α M) (fid : FuncId) (cap : Array Value) (p : α → Bool) (ok : α → Prop) (w : World) : Prop :=
  ∀ (x : α) (V : Value) (W : World), Below w.heap.size w W → k.At W V x → ok x → Calls P fid (#[V] ++ cap) W fun e w' => e = .returned (.bool (p x)) ∧ Below W.heap.size W w'
theorem ClosK.on {α M : Type} {P : Program} {k : Kd α M} {fid : FuncId} {cap : Array Value} {p : α → Bool} {ok : α → Prop} {w w' : World} (h : ClosK P k fid cap p ok w) (hb : Below w.heap.size w w') : ClosK P k fid cap p ok w' := fun x V W hW => h x V W (hb.trans (hW.mono hb.size))
end Go.Proofs.Ythfljbbigpophaa.Row
/- A list of elements of a kind, all of the call's own, grows by an append: the row apart from what is beneath its elements by its type. For any kind. No conditions. -/
namespace Go.Proofs.Ythfljbbigpophaa.Row
open Go.ChangeShapes Go.WideShapes Go.ChangeAt Go.RowKit Go.Instr
set_option linter.unusedVariables false
set_option maxRecDepth 100000
section
variable {α M β N : Type} {k : Kd α M} {l : Kd β N} {e e' : TypeId} {B C E : Nat} {w w' : World} {r : Rw M} {x : M}
def Kd.NoRow (k : Kd α M) (e : TypeId) : Prop := ∀ (B : Nat) (w : World) (m : M), k.own B w m → ∀ g ∈ k.blocks m, ∀ cs, w.heap[g]? ≠ some (.cells cs e)
theorem Kd.noRow_scalar {enc : α → Value} {h1 : ∀ x, (enc x).oneCell' = true} : (Kd.scalar enc h1).NoRow e := fun B w m _ g hg => by cases hg
theorem Kd.NoRow.wrap (h : k.NoRow e) : k.wrap.NoRow e := fun B w m hm g hg => h B w m hm g hg
theorem Kd.NoRow.pair (h : k.NoRow e) (g : l.NoRow e) : (k.pair l).NoRow e := fun B w m hm q hq => by
  rcases List.mem_append.1 (show q ∈ k.blocks m.1 ++ l.blocks m.2 from hq) with hq | hq
  · exact h B w m.1 hm.1 q hq
  · exact g B w m.2 hm.2 q hq
theorem OwnK.row {enc : α → List Value} {sz : Nat} {v : Value} {L : List α} (h : OwnK e enc sz B w v L) {g : Nat} (hg : v.ownBlock = some g) : ∃ cs, w.heap[g]? = some (.cells cs e) := by
  rcases h.2 with ⟨rfl, -⟩ | ⟨g2, cap, cur, rfl, -, hh, -⟩
  · cases hg
  · have e2 : g2 = g := by simpa [Value.ownBlock] using hg
    exact ⟨cur, e2 ▸ hh⟩
theorem Kd.NoRow.slice (h : k.NoRow e) (hne : e' ≠ e) : (k.slice e').NoRow e := fun B w m hm q hq => by
  rcases List.mem_append.1 (show q ∈ m.v.ownBlock.toList ++ m.els.flatMap k.blocks from hq) with hq | hq
  · intro cs hc
    obtain ⟨cs2, h2⟩ := hm.1.row (g := q) (by simpa using hq)
    rw [h2] at hc
    injection hc with hc
    injection hc with h3 h4
    exact hne h4
  · obtain ⟨y, hy, hyq⟩ := List.mem_flatMap.1 hq
    exact h B w y (hm.2 y hy) q hyq
theorem Kd.push (hN : k.NoRow e) (h : (k.slice e).Own B C w r) (hx : k.Own B E w x) (hd : ∀ g ∈ k.blocks x, g ∉ (k.slice e).blocks r) {ad : Option Addr} {n cap : Nat}
    (ho : OwnK e k.cells k.size B w' (.slice ad n cap) (r.els ++ [x])) (hg : w.grownBy w' r.v.ownBlock) : (k.slice e).Own B w'.heap.size w' ⟨ad, n, cap, r.els ++ [x]⟩ := by
  have hnd : (r.v.ownBlock.toList ++ r.els.flatMap k.blocks).Nodup := h.2.1
  have hnd2 := List.nodup_append.1 hnd
  have hold : ∀ y ∈ r.els, k.own B w' y := fun y hy => k.own_keep (h.1.2 y hy) (fun g hgy => hg.block g (k.own_lt (h.1.2 y hy) g hgy).2 (fun er => hnd2.2.2 g (by rw [← er]; simp) g (List.mem_flatMap.2 ⟨y, hy, hgy⟩) rfl))
  have hnew : k.own B w' x := k.own_keep hx.1 (fun g hgx => hg.block g (k.own_lt hx.1 g hgx).2 (fun er => hd g hgx (List.mem_append_left _ (by rw [← er]; simp))))
  have hel : ∀ y ∈ r.els ++ [x], k.own B w' y := fun y hy => by
    rcases List.mem_append.1 hy with hy | hy
    · exact hold y hy
    · rw [List.mem_singleton.1 hy]; exact hnew
  refine ⟨⟨ho, hel⟩, ?_, fun g hgm => ?_⟩
  · show ((Rw.v ⟨ad, n, cap, r.els ++ [x]⟩).ownBlock.toList ++ (r.els ++ [x]).flatMap k.blocks).Nodup
    rw [List.nodup_append]
    refine ⟨by cases (Rw.v ⟨ad, n, cap, r.els ++ [x]⟩).ownBlock <;> simp, ?_, fun a ha b hb eab => ?_⟩
    · rw [List.flatMap_append, List.nodup_append]
      refine ⟨hnd2.2.1, by simpa using hx.2.1, fun a ha b hb eab => ?_⟩
      exact hd b (by simpa using hb) (List.mem_append_right _ (eab ▸ ha))
    · obtain ⟨y, hy, hyb⟩ := List.mem_flatMap.1 hb
      obtain ⟨cs, hc⟩ := ho.row (g := a) (show (Value.slice ad n cap).ownBlock = some a from Option.mem_toList.1 ha)
      rw [eab] at hc
      exact hN B w' y (hel y hy) b hyb cs hc
  · rcases List.mem_append.1 (show g ∈ (Rw.v ⟨ad, n, cap, r.els ++ [x]⟩).ownBlock.toList ++ (r.els ++ [x]).flatMap k.blocks from hgm) with hgm | hgm
    · exact (ho.lt g (show (Value.slice ad n cap).ownBlock = some g from Option.mem_toList.1 hgm)).2
    · obtain ⟨y, hy, hyb⟩ := List.mem_flatMap.1 hgm
      exact (k.own_lt (hel y hy) g hyb).2
theorem Kd.push_later (hN : k.NoRow e) (h : (k.slice e).Own B C w r) (hx : k.Own C E w x) (hBC : B ≤ C) {ad : Option Addr} {n cap : Nat}
    (ho : OwnK e k.cells k.size B w' (.slice ad n cap) (r.els ++ [x])) (hg : w.grownBy w' r.v.ownBlock) : (k.slice e).Own B w'.heap.size w' ⟨ad, n, cap, r.els ++ [x]⟩ :=
  Kd.push hN h (hx.mono hBC (Nat.le_refl _)) (fun g hgx hgr => by have h1 := (hx.lt g hgx).1; have h2 := (h.lt g hgr).2.1; omega) ho hg
theorem Kd.own_row (h : OwnK e k.cells k.size B w r.v []) (he : r.els = []) : (k.slice e).Own B w.heap.size w r := by
  refine ⟨⟨by rw [he]; exact h, fun y hy => (by rw [he] at hy; cases hy)⟩, ?_, fun g hg => ?_⟩
  · show (r.v.ownBlock.toList ++ r.els.flatMap k.blocks).Nodup
    rw [he]
    cases r.v.ownBlock <;> simp
  · have hg2 : g ∈ r.v.ownBlock.toList ++ r.els.flatMap k.blocks := hg
    rw [he] at hg2
    exact (h.lt g (by simpa using hg2)).2
end
theorem noRow_kN : kN.NoRow 44 := (Kd.NoRow.slice (e' := 9) (Kd.noRow_scalar) (by decide)).wrap
end Go.Proofs.Ythfljbbigpophaa.Row
/- Names in the words that kslice.py wants. No conditions but that lengths fit. -/
namespace Go.Proofs.Ythfljbbigpophaa.Row
open Go.ChangeShapes Go.WideShapes Go.ChangeAt Go.RowKit Go.Instr
set_option linter.unusedVariables false
set_option maxRecDepth 100000
abbrev Nnt := List ByteArray
abbrev Nnm := Rw ByteArray
abbrev kNn : Kd Nnt Nnm := kN
abbrev wtNn (x : Nnt) : Nat := bulk x
abbrev adNn (x : Nnt) : Nat := x.length
abbrev okNn (x : Nnt) : Prop := okN x
abbrev inNn (x : Nnt) : Prop := okN x
theorem okN.ok {x : List ByteArray} (h : okN x) : okNn x := h
theorem kNn_shapeA {w : World} {V : Value} {x : Nnt} (h : kNn.At w V x) : ∃ (y : Option Addr) (n c : Nat), V = .agg #[.slice y n c] ∧ kNn.At w (.agg #[.slice y n c]) x := kN_shapeA h
theorem eqNameK (V U : Value) (l m : Nnt) (w : World) (q : Bool) (hq : decide (l = m) = q) (h : kNn.At w V l) (g : kNn.At w U m) (hl : adNn l ≤ 100000000) (hm : adNn m ≤ 100000000) :
    Calls Try.prog 30 #[V, U] w fun e w' => e = .returned (.bool q) ∧ Below w.heap.size w w' := eqNmK V U l m w q hq h g hl hm
end Go.Proofs.Ythfljbbigpophaa.Row
