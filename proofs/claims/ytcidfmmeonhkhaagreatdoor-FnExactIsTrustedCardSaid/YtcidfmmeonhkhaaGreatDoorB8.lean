/- Contracts and mathematics, joined: DataSK. No conditions but those that each states. -/
import Derived.Test.YtcidfmmeonhkhaaGreatDoorB7
/- Lists of data packets in the words of kinds: sz, to, eq. No conditions but that lengths fit. -/
namespace Go.Proofs.YtcidfmmeonhkhaaGreatDoor.Row
open Go.ChangeShapes Go.WideShapes Go.ChangeAt Go.RowKit Go.Instr
set_option linter.unusedVariables false
set_option maxRecDepth 100000

def kLDz : Kd (List Dzt) (Rw Dzm) := kDz.slice 34
theorem szDz_cells : Sz kDz.cells 5 := fun m => kDz.len m
theorem kindDz : Kind Tryz.prog 34 kDz.cells (.agg #[.slice none 0 0, .slice none 0 0, .slice none 0 0, .int .i64 0, .int .i64 0]) 5 88 where
  elem := by unfold ElemK; kernel_rfl
  zs := rfl
  pos := by decide
  size := szDz_cells
  one := fun m u hu => kDz.one m u hu
def okLDz (l : List Dzt) : Prop := l.length ≤ 9223372036854775807 ∧ ∀ x ∈ l, okDz x
section
variable {w : World} {V : Value} {l : List Dzt} {B E : Nat}
theorem kLDz_at (h : kLDz.At w V l) : ∃ ad n cap L, V = .slice ad n cap ∧ n = L.length ∧ L.map kDz.strip = l ∧ HoldsK kDz.cells 5 w (.slice ad n cap) L ∧ ∀ x ∈ L, kDz.holds w x := by
  obtain ⟨⟨ad, n, cap, L⟩, hV, hl, hh, hel⟩ := h
  exact ⟨ad, n, cap, L, hV, HoldsK.lenEq (show HoldsK kDz.cells 5 w (.slice ad n cap) L from hh), hl, hh, hel⟩
theorem kLDz_shapeA (h : kLDz.At w V l) : ∃ x n c, V = .slice x n c ∧ kLDz.At w (.slice x n c) l := by
  obtain ⟨ad, n, cap, L, rfl, -⟩ := kLDz_at h
  exact ⟨ad, n, cap, rfl, h⟩
/-- The element at place j: its cells, what it reads as. -/
theorem kLDz_elem {x : Option Addr} {n cap : Nat} {L : List Dzm} (h : HoldsK kDz.cells 5 w (.slice x n cap) L) (hel : ∀ y ∈ L, kDz.holds w y) {j : Nat} (hj : j < L.length) :
    ∃ (b off : Nat) (x0 : Option Addr) (n0 c0 : Nat) (x1 : Option Addr) (n1 c1 : Nat) (x2 : Option Addr) (n2 c2 : Nat), x = some ⟨b, off, none⟩ ∧ kDz.cells (nth L j) = [.slice x0 n0 c0, .slice x1 n1 c1, .slice x2 n2 c2, .int .i64 (kDz.strip (nth L j)).2.2.2.1, .int .i64 (kDz.strip (nth L j)).2.2.2.2] ∧ w.cell? ⟨b, off + j * 5, none⟩ = some (.slice x0 n0 c0) ∧ w.cell? ⟨b, off + j * 5 + 1, none⟩ = some (.slice x1 n1 c1) ∧ w.cell? ⟨b, off + j * 5 + 2, none⟩ = some (.slice x2 n2 c2) ∧ w.cell? ⟨b, off + j * 5 + 3, none⟩ = some (.int .i64 (kDz.strip (nth L j)).2.2.2.1) ∧ w.cell? ⟨b, off + j * 5 + 4, none⟩ = some (.int .i64 (kDz.strip (nth L j)).2.2.2.2) ∧ kDz.At w (.agg #[.slice x0 n0 c0, .slice x1 n1 c1, .slice x2 n2 c2, .int .i64 (kDz.strip (nth L j)).2.2.2.1, .int .i64 (kDz.strip (nth L j)).2.2.2.2]) (kDz.strip (nth L j)) := by
  obtain ⟨b, off, hx, hc⟩ := h.at szDz_cells hj
  obtain ⟨x0, n0, c0, x1, n1, c1, x2, n2, c2, e, ha⟩ := kDz_shapeA (Kd.at_of (k := kDz) (hel _ (nth_mem hj)))
  have d : kDz.cells (nth L j) = [.slice x0 n0 c0, .slice x1 n1 c1, .slice x2 n2 c2, .int .i64 (kDz.strip (nth L j)).2.2.2.1, .int .i64 (kDz.strip (nth L j)).2.2.2.2] := by injection e with e; exact congrArg Array.toList e
  rw [d] at hc
  exact ⟨b, off, x0, n0, c0, x1, n1, c1, x2, n2, c2, hx, d, by have := hc 0 (by decide); simpa [Nat.add_assoc] using this, by have := hc 1 (by decide); simpa [Nat.add_assoc] using this, by have := hc 2 (by decide); simpa [Nat.add_assoc] using this, by have := hc 3 (by decide); simpa [Nat.add_assoc] using this, by have := hc 4 (by decide); simpa [Nat.add_assoc] using this, ha⟩
end

set_option maxHeartbeats 4000000 in
theorem szDataSK (V : Value) (l : List Dzt) (w : World) (left : Int) (h : kLDz.At w V l) (hp : okLDz l) (h0 : 0 ≤ left) (h1 : left ≤ 1048576) :
    Calls Tryz.prog 96 #[V, .int .i64 left] w fun e w' => e = .returned (.int .i64 (szW (bulkK wtDz l) left)) ∧ Below w.heap.size w w' := by
  obtain ⟨ad, n, cap, L, rfl, hn, hl, hh, hel⟩ := kLDz_at h
  have hle := bulkKTo_le wtDz l
  have hb0 := bulkKTo_zero wtDz l
  have hlen : l.length = n := by rw [← hl, List.length_map]; exact hn.symm
  obtain ⟨p0, hs⟩ := hp
  rw [hlen] at p0 hb0
  by_cases hbig : left < (n : Int)
  · have hS : szW (bulkK wtDz l) left = -1 := szW_not (by have := bulkK_len wtDz l; omega)
    rw [hS]
    clear hh h hs hle hn hb0 hS hl hlen hel
    go_enter Tryz.func96, Tryz.ntmps96
    go_wp2
    go_ret
    exact ⟨rfl, Below.refl _ _⟩
  have HN := Lib.hid hn; have HT := Lib.hid hl; have HH := Lib.hid hh; have HEL := Lib.hid hel; have HS := Lib.hid hs; have HLE := Lib.hid hle; have HB0 := Lib.hid hb0; have HLEN := Lib.hid hlen
  clear hn h hh hs hle hb0 hl hlen hel
  go_enter Tryz.func96, Tryz.ntmps96
  go_wp2
  go_loopw [1, 5] (fun lv i wr => ∃ k : Nat, k ≤ n ∧ i = .int .i64 k ∧ ∃ u : Int, lv = .int .i64 u ∧ u = left - bulkKTo wtDz l k ∧ 0 ≤ u ∧ Hid (Below w.heap.size w wr)) (fun _ i _ => n - (intOf i).toNat)
  case atStart => exact ⟨0, Nat.zero_le _, rfl, _, rfl, by rw [HB0.out], by omega, Lib.hid (Below.refl _ _)⟩
  case round =>
    obtain ⟨k, hk, rfl, u, rfl, hu, h0u, hb⟩ := hrel
    have hub : u ≤ left := by omega
    have HU := Lib.hid hu
    clear hu
    by_cases hlt : k < n
    · have hlen := HN.out
      obtain ⟨b, off, x0, n0, c0, x1, n1, c1, x2, n2, c2, rfl, -, hc0, hc1, hc2, hc3, hc4, ha⟩ := kLDz_elem (HH.out.on hb.out) (fun y hy => kDz.holds_on (HEL.out y hy) hb.out) (j := k) (by omega)
      have hpt : nth l k = kDz.strip (nth L k) := by rw [← HT.out, nth_map _ (by omega)]
      have hsz := HS.out (nth l k) (nth_mem (by have := HLEN.out; omega))
      rw [hpt] at hsz
      have HA := Lib.hid ha
      have HSZ := Lib.hid hsz
      have hstep := Lib.hid (bulkKTo_succ wtDz l (j := k) (by have := HLEN.out; omega))
      rw [hpt] at hstep
      have HALL := Lib.hid (HLE.out (k + 1))
      clear hlen hsz hpt ha
      go_wp2_with fail
      refine (szDataK _ _ wr u HA.out HSZ.out h0u (by omega)).mono ?_
      rintro e w1 ⟨rfl, hb1⟩
      have HB1 := Lib.hid (hb.out.trans (hb1.mono hb.out.size))
      clear hb1 hc0 hc1 hc2 hc3 hc4
      by_cases c1 : (wtDz (kDz.strip (nth L k)) : Int) ≤ u
      · rw [szW_fit c1]
        have h2 : ¬ u - (wtDz (kDz.strip (nth L k)) : Int) < 0 := by omega
        go_wp2
        go_roundw
        case rel => exact ⟨k + 1, by omega, by go_num, _, rfl, by rw [hstep.out, HU.out]; omega, by omega, HB1⟩
        case measure => simp [intOf]; omega
      · rw [szW_not c1]
        have HZ : Hid (szW (bulkK wtDz l) left = -1) := by
          have e1 := HALL.out; have e2 := HU.out; have e3 := hstep.out
          exact Lib.hid (szW_not (by omega))
        clear c1
        go_wp2
        go_ret
        exact ⟨ret_int HZ.out.symm, HB1.out⟩
    · obtain rfl : k = n := by omega
      clear hlt
      go_wp2
      go_ret
      refine ⟨ret_int ?_, hb.out⟩
      have := HU.out
      rw [← HLEN.out] at this
      rw [szW_fit (by unfold bulkK; omega)]
      exact this

set_option maxHeartbeats 4000000 in
theorem toDataSK (V : Value) (l : List Dzt) (w : World) (h : kLDz.At w V l) (hl : l.length ≤ 100000000) (hs : ∀ x ∈ l, adDz x ≤ 100000000) :
    Calls Tryz.prog 102 #[V] w fun e w' => ∃ U, e = .returned U ∧ kLDz.In w.heap.size w'.heap.size w' U l ∧ Below w.heap.size w w' := by
  obtain ⟨ad, n, cap, L, rfl, hn, ht, hh, hel⟩ := kLDz_at h
  obtain ⟨i0, hi, hz0, hz1, hz2⟩ := info_parts kindDz.elem
  have hlen : l.length = n := by rw [← ht, List.length_map]; exact hn.symm
  rw [hlen] at hl
  have HN := Lib.hid hn; have HT := Lib.hid ht; have HH := Lib.hid hh; have HEL := Lib.hid hel; have HS := Lib.hid hs; have HLEN := Lib.hid hlen
  have HI := Lib.hid hi; have HZ0 := Lib.hid hz0; have HZ1 := Lib.hid hz1; have HZ2 := Lib.hid hz2
  clear hn h hh hi hz0 hz1 hz2 hs ht hel hlen
  go_enter Tryz.func102, Tryz.ntmps102
  go_wp2_with (at_make; refine wpList_make_full _ rfl _ _ 27 rfl w.heap.size 34 i0 (.agg #[.slice none 0 0, .slice none 0 0, .slice none 0 0, .int .i64 0, .int .i64 0]) 5 Tryz.underlying27 HI.out HZ0.out HZ1.out _ _ _ _ n rfl rfl rfl rfl (by rw [HZ2.out]; omega) (by unfold maxLen; omega) (Nat.le_refl _) ?_)
  intro w1 hown hgrow
  have ho : OwnK 34 kDz.cells 5 w.heap.size w1 (.slice (some ⟨w.heap.size, 0, none⟩) n n) (madeK' [] n) := by
    have e1 : madeK' ([] : List Dzm) n = List.replicate n default := by simp [madeK']
    rw [e1]
    unfold OwnK
    rw [List.length_replicate, ← madeK szDz_cells (by decide) (z := .agg #[.slice none 0 0, .slice none 0 0, .slice none 0 0, .int .i64 0, .int .i64 0]) rfl n]
    exact hown
  have HO := Lib.hid ho
  have HB := Lib.hid ((Below.refl w.heap.size w).grown hgrow (Nat.le_refl _) (fun g hg => by cases hg))
  have HG := Lib.hid (show w.heap.size < w1.heap.size from (OwnK.lt ho _ rfl).2)
  clear ho hown hgrow
  go_wp2
  go_loopw [4] (fun i wr => ∃ j : Nat, j ≤ n ∧ i = .int .i64 j ∧ ∃ M : List Dzm, Hid (M.length = j) ∧ Hid (M.map kDz.strip = l.take j) ∧ Hid (OwnK 34 kDz.cells 5 w.heap.size wr (.slice (some ⟨w.heap.size, 0, none⟩) n n) (madeK' M n)) ∧ Hid (kDz.EOwn (w.heap.size + 1) wr.heap.size wr M) ∧ Hid (Below w.heap.size w wr)) (fun i _ => n - (intOf i).toNat)
  case atStart => exact ⟨0, Nat.zero_le _, rfl, [], Lib.hid rfl, Lib.hid (by simp), HO, Lib.hid (Kd.EOwn.nil _ _ _ _), HB⟩
  case round =>
    obtain ⟨j, hj, rfl, M, hM, hst, ho, he, hb⟩ := hrel
    by_cases hlt : j < n
    · have hlen := HN.out
      obtain ⟨b, off, x0, n0, c0, x1, n1, c1, x2, n2, c2, rfl, -, hc0, hc1, hc2, hc3, hc4, ha⟩ := kLDz_elem (HH.out.on hb.out) (fun y hy => kDz.holds_on (HEL.out y hy) hb.out) (j := j) (by omega)
      have HA := Lib.hid ha
      have hpt : nth l j = kDz.strip (nth L j) := by rw [← HT.out, nth_map _ (by omega)]
      have hps := HS.out (nth l j) (nth_mem (by have := HLEN.out; omega))
      rw [hpt] at hps
      have HPS := Lib.hid hps
      have HST := Lib.hid (show l.take (j + 1) = l.take j ++ [kDz.strip (nth L j)] by rw [← HT.out]; exact take_map_succ _ (by omega))
      clear hlen ha hpt hps
      go_wp2_with fail
      refine (toDataK _ _ wr HA.out HPS.out).mono ?_
      rintro e w1 ⟨U, rfl, hi1, hb1⟩
      obtain ⟨m1, rfl, hm1, hi1⟩ := hi1.split
      obtain ⟨xy0, ny0, cy0, xy1, ny1, cy1, xy2, ny2, cy2, ey, -⟩ := kDz_shapeA (Kd.at_of (k := kDz) hi1.holds)
      have dy : kDz.cells m1 = [.slice xy0 ny0 cy0, .slice xy1 ny1 cy1, .slice xy2 ny2 cy2, .int .i64 (kDz.strip m1).2.2.2.1, .int .i64 (kDz.strip m1).2.2.2.2] := by injection ey with e; exact congrArg Array.toList e
      rw [ey]
      have HO1 := Lib.hid (ho.out.on hb1)
      have HE1 := Lib.hid (he.out.on hb1 (Nat.le_refl _))
      have HX := Lib.hid hi1
      have HB1 := Lib.hid (hb.out.trans (hb1.mono hb.out.size))
      have HSZ := Lib.hid hb1.size
      have HDY := Lib.hid dy
      have HM1 := Lib.hid hm1
      have hml : n = (madeK' M n).length := (madeK'_length (by have := hM.out; omega)).symm
      have hmj : j < (madeK' M n).length := by omega
      have hgl := (OwnK.lt HO1.out _ rfl).2
      have hgr := (OwnK.lt ho.out _ rfl).2
      obtain ⟨k0, f0⟩ := ownK_cell szDz_cells HO1.out hml hmj (i := 0) (by decide)
      obtain ⟨z0, hz0⟩ : ∃ z, w1.cell? ⟨w.heap.size, j * 5, none⟩ = some z := ⟨_, by simpa [Nat.add_zero] using (k0.trans (List.getElem?_eq_getElem (by rw [kDz.len]; decide)))⟩
      have g0 : w1.frozen? ⟨w.heap.size, j * 5, none⟩ = false := by simpa using f0
      clear k0 f0
      obtain ⟨k1, f1⟩ := ownK_cell szDz_cells HO1.out hml hmj (i := 1) (by decide)
      obtain ⟨z1, hz1⟩ : ∃ z, w1.cell? ⟨w.heap.size, j * 5 + 1, none⟩ = some z := ⟨_, by simpa [] using (k1.trans (List.getElem?_eq_getElem (by rw [kDz.len]; decide)))⟩
      have g1 : w1.frozen? ⟨w.heap.size, j * 5 + 1, none⟩ = false := by simpa using f1
      clear k1 f1
      obtain ⟨k2, f2⟩ := ownK_cell szDz_cells HO1.out hml hmj (i := 2) (by decide)
      obtain ⟨z2, hz2⟩ : ∃ z, w1.cell? ⟨w.heap.size, j * 5 + 2, none⟩ = some z := ⟨_, by simpa [] using (k2.trans (List.getElem?_eq_getElem (by rw [kDz.len]; decide)))⟩
      have g2 : w1.frozen? ⟨w.heap.size, j * 5 + 2, none⟩ = false := by simpa using f2
      clear k2 f2
      obtain ⟨k3, f3⟩ := ownK_cell szDz_cells HO1.out hml hmj (i := 3) (by decide)
      obtain ⟨z3, hz3⟩ : ∃ z, w1.cell? ⟨w.heap.size, j * 5 + 3, none⟩ = some z := ⟨_, by simpa [] using (k3.trans (List.getElem?_eq_getElem (by rw [kDz.len]; decide)))⟩
      have g3 : w1.frozen? ⟨w.heap.size, j * 5 + 3, none⟩ = false := by simpa using f3
      clear k3 f3
      obtain ⟨k4, f4⟩ := ownK_cell szDz_cells HO1.out hml hmj (i := 4) (by decide)
      obtain ⟨z4, hz4⟩ : ∃ z, w1.cell? ⟨w.heap.size, j * 5 + 4, none⟩ = some z := ⟨_, by simpa [] using (k4.trans (List.getElem?_eq_getElem (by rw [kDz.len]; decide)))⟩
      have g4 : w1.frozen? ⟨w.heap.size, j * 5 + 4, none⟩ = false := by simpa using f4
      clear k4 f4
      have p1 := ownK_put szDz_cells HO1.out hml hmj m1
      have p2 := setCells_grown w.heap.size (kDz.cells m1) (j * 5) w1
      rw [dy] at p1 p2
      have HP1 := Lib.hid (show OwnK 34 kDz.cells 5 w.heap.size (((((w1.setCell ⟨w.heap.size, j * 5, none⟩ (.slice xy0 ny0 cy0)).setCell ⟨w.heap.size, j * 5 + 1, none⟩ (.slice xy1 ny1 cy1)).setCell ⟨w.heap.size, j * 5 + 2, none⟩ (.slice xy2 ny2 cy2)).setCell ⟨w.heap.size, j * 5 + 3, none⟩ (.int .i64 (kDz.strip m1).2.2.2.1)).setCell ⟨w.heap.size, j * 5 + 4, none⟩ (.int .i64 (kDz.strip m1).2.2.2.2)) _ _ from p1)
      have HP2 := Lib.hid (show w1.grownBy (((((w1.setCell ⟨w.heap.size, j * 5, none⟩ (.slice xy0 ny0 cy0)).setCell ⟨w.heap.size, j * 5 + 1, none⟩ (.slice xy1 ny1 cy1)).setCell ⟨w.heap.size, j * 5 + 2, none⟩ (.slice xy2 ny2 cy2)).setCell ⟨w.heap.size, j * 5 + 3, none⟩ (.int .i64 (kDz.strip m1).2.2.2.1)).setCell ⟨w.heap.size, j * 5 + 4, none⟩ (.int .i64 (kDz.strip m1).2.2.2.2)) (some w.heap.size) from p2)
      have HGL := Lib.hid hgl; have HGR := Lib.hid hgr
      clear hc0 hc1 hc2 hc3 hc4 hi1 hb1 hml hmj p1 p2 dy ey hm1 hgl hgr
      go_wp2
      go_roundw
      case rel =>
        refine ⟨j + 1, by omega, by go_num, M ++ [m1], Lib.hid (by simp [hM.out]), Lib.hid ?_, Lib.hid ?_, Lib.hid ?_, Lib.hid (HB1.out.grown HP2.out HB1.out.size (fun g hg => by cases hg; exact Nat.le_refl _))⟩
        · rw [List.map_append, hst.out, HST.out, List.map_cons, List.map_nil, HM1.out]
        · rw [← madeK'_step (by have := hM.out; omega), hM.out]; exact HP1.out
        · have h7 := HP2.out.size
          have h8 := HGR.out
          have h9 := HSZ.out
          exact ((HE1.out.snoc HX.out (by omega) (by omega)).grown HP2.out (by omega) (Nat.le_refl _)).keep (fun _ _ _ => rfl) |> fun h => ⟨h.1, h.2.1, fun g hg => ⟨(h.2.2 g hg).1, Nat.lt_of_lt_of_le (h.2.2 g hg).2 h7⟩⟩
      case measure => simp [intOf]; omega
    · obtain rfl : j = n := by omega
      clear hlt
      go_wp2
      go_ret
      refine ⟨_, rfl, ?_, hb.out⟩
      have h1 := ho.out
      rw [madeK'_all hM.out] at h1
      have h2 : M.map kDz.strip = l := by rw [hst.out, List.take_of_length_le (by rw [HLEN.out]; omega)]
      have h3 := (he.out.slice h1 (OwnK.lt h1 _ rfl).2).in
      rw [← h2]
      exact h3

theorem eqDataSK_len (x y : Option Addr) (n m cx cy : Nat) (w : World) (h : (((n : Nat) : Int) != ((m : Nat) : Int)) = true) :
    Calls Tryz.prog 108 #[.slice x n cx, .slice y m cy] w fun e w' => e = .returned (.bool false) ∧ w = w' := by
  go_enter Tryz.func108, Tryz.ntmps108
  go_wp2
  go_ret
  exact ⟨rfl, rfl⟩
set_option maxHeartbeats 4000000 in
theorem eqDataSK (V U : Value) (l m : List Dzt) (w : World) (q : Bool) (hq : decide (l = m) = q) (h : kLDz.At w V l) (g : kLDz.At w U m) (hl : l.length ≤ 100000000) (hm : m.length ≤ 100000000) (hsl : ∀ x ∈ l, adDz x ≤ 100000000) (hsm : ∀ x ∈ m, adDz x ≤ 100000000) :
    Calls Tryz.prog 108 #[V, U] w fun e w' => e = .returned (.bool q) ∧ Below w.heap.size w w' := by
  obtain ⟨x, n, cx, L, rfl, hn, hL, hh, hel⟩ := kLDz_at h
  obtain ⟨y, n2, cy, M, rfl, hn2, hM, hg, hem⟩ := kLDz_at g
  have hnl : l.length = n := by rw [← hL, List.length_map]; exact hn.symm
  have hnm : m.length = n2 := by rw [← hM, List.length_map]; exact hn2.symm
  by_cases he : n = n2
  · subst he
    rw [hnl] at hl
    have HN := Lib.hid hn; have HM := Lib.hid hn2; have HNL := Lib.hid hnl; have HNM9 := Lib.hid hnm
    have HH := Lib.hid hh; have HG := Lib.hid hg; have HEL := Lib.hid hel; have HEM := Lib.hid hem
    have HTL := Lib.hid hL; have HTM := Lib.hid hM; have HQ := Lib.hid hq; have HSL := Lib.hid hsl; have HSM := Lib.hid hsm
    have htest : (((n : Nat) : Int) != ((n : Nat) : Int)) = false := by simp
    clear hn h hh g hg hn2 hL hM hq hsl hsm hel hem hnl hnm hm
    go_enter Tryz.func108, Tryz.ntmps108
    go_wp2
    go_loopw [5] (fun i wr => ∃ k : Nat, k ≤ n ∧ i = .int .i64 k ∧ Hid (agree l m k) ∧ Hid (Below w.heap.size w wr)) (fun i _ => n - (intOf i).toNat)
    case atStart => exact ⟨0, Nat.zero_le _, rfl, Lib.hid (agree_zero _ _), Lib.hid (Below.refl _ _)⟩
    case round =>
      obtain ⟨k, hk, rfl, ha, hb⟩ := hrel
      by_cases hlt : k < n
      · have hlen := HN.out
        have hlen2 := HM.out
        obtain ⟨b, off, x0, n0, c0, x1, n1, c1, x2, n2, c2, rfl, -, hc0, hc1, hc2, hc3, hc4, hnm⟩ := kLDz_elem (HH.out.on hb.out) (fun y hy => kDz.holds_on (HEL.out y hy) hb.out) (j := k) (by omega)
        obtain ⟨b', off', xy0, ny0, cy0, xy1, ny1, cy1, xy2, ny2, cy2, rfl, -, hd0, hd1, hd2, hd3, hd4, hnm'⟩ := kLDz_elem (HG.out.on hb.out) (fun y hy => kDz.holds_on (HEM.out y hy) hb.out) (j := k) (by omega)
        have e1 : nth l k = kDz.strip (nth L k) := by rw [← HTL.out, nth_map _ (by omega)]
        have e2 : nth m k = kDz.strip (nth M k) := by rw [← HTM.out, nth_map _ (by omega)]
        have hl1 := HSL.out (nth l k) (nth_mem (by have := HNL.out; omega)); rw [e1] at hl1
        have hl2 := HSM.out (nth m k) (nth_mem (by have := HNM9.out; omega)); rw [e2] at hl2
        have HL := Lib.hid hl1; have HL' := Lib.hid hl2
        have HC0 := Lib.hid hc0; have HD0 := Lib.hid hd0; have HC1 := Lib.hid hc1; have HD1 := Lib.hid hd1; have HC2 := Lib.hid hc2; have HD2 := Lib.hid hd2; have HC3 := Lib.hid hc3; have HD3 := Lib.hid hd3; have HC4 := Lib.hid hc4; have HD4 := Lib.hid hd4
        have HNM := Lib.hid hnm; have HNM' := Lib.hid hnm'
        by_cases hq : kDz.strip (nth L k) = kDz.strip (nth M k)
        · have HE1 : Hid (decide (kDz.strip (nth L k) = kDz.strip (nth M k)) = true) := Lib.hid (decide_eq_true hq)
          have HA := Lib.hid (agree_succ ha.out (by rw [e1, e2, hq]))
          clear hq hlen hlen2 e1 e2 hc0 hc1 hc2 hc3 hc4 hd0 hd1 hd2 hd3 hd4 hnm hnm' hl1 hl2
          go_wp2_with fail
          go_region_held3 (fun w' => w'.cell? ⟨b, off + k * 5, none⟩ = some (.slice x0 n0 c0) ∧ w'.cell? ⟨b, off + k * 5 + 1, none⟩ = some (.slice x1 n1 c1) ∧ w'.cell? ⟨b, off + k * 5 + 2, none⟩ = some (.slice x2 n2 c2) ∧ w'.cell? ⟨b, off + k * 5 + 3, none⟩ = some (.int .i64 (kDz.strip (nth L k)).2.2.2.1) ∧ w'.cell? ⟨b, off + k * 5 + 4, none⟩ = some (.int .i64 (kDz.strip (nth L k)).2.2.2.2) ∧ w'.cell? ⟨b', off' + k * 5, none⟩ = some (.slice xy0 ny0 cy0) ∧ w'.cell? ⟨b', off' + k * 5 + 1, none⟩ = some (.slice xy1 ny1 cy1) ∧ w'.cell? ⟨b', off' + k * 5 + 2, none⟩ = some (.slice xy2 ny2 cy2) ∧ w'.cell? ⟨b', off' + k * 5 + 3, none⟩ = some (.int .i64 (kDz.strip (nth M k)).2.2.2.1) ∧ w'.cell? ⟨b', off' + k * 5 + 4, none⟩ = some (.int .i64 (kDz.strip (nth M k)).2.2.2.2) ∧ Below w.heap.size w w') (first | exact ⟨kc HC0.out ((Below.refl _ _).drew), kc HC1.out ((Below.refl _ _).drew), kc HC2.out ((Below.refl _ _).drew), kc HC3.out ((Below.refl _ _).drew), kc HC4.out ((Below.refl _ _).drew), kc HD0.out ((Below.refl _ _).drew), kc HD1.out ((Below.refl _ _).drew), kc HD2.out ((Below.refl _ _).drew), kc HD3.out ((Below.refl _ _).drew), kc HD4.out ((Below.refl _ _).drew), hb.out.trans (Below.mono ((Below.refl _ _).drew) hb.out.size)⟩ | exact ⟨kc HC0.out (hb1.mono (Nat.le_refl _)), kc HC1.out (hb1.mono (Nat.le_refl _)), kc HC2.out (hb1.mono (Nat.le_refl _)), kc HC3.out (hb1.mono (Nat.le_refl _)), kc HC4.out (hb1.mono (Nat.le_refl _)), kc HD0.out (hb1.mono (Nat.le_refl _)), kc HD1.out (hb1.mono (Nat.le_refl _)), kc HD2.out (hb1.mono (Nat.le_refl _)), kc HD3.out (hb1.mono (Nat.le_refl _)), kc HD4.out (hb1.mono (Nat.le_refl _)), hb.out.trans (Below.mono (hb1.mono (Nat.le_refl _)) hb.out.size)⟩ | exact ⟨kc HC0.out ((Below.refl _ _).drew.trans (hb1.mono (Nat.le_refl _))), kc HC1.out ((Below.refl _ _).drew.trans (hb1.mono (Nat.le_refl _))), kc HC2.out ((Below.refl _ _).drew.trans (hb1.mono (Nat.le_refl _))), kc HC3.out ((Below.refl _ _).drew.trans (hb1.mono (Nat.le_refl _))), kc HC4.out ((Below.refl _ _).drew.trans (hb1.mono (Nat.le_refl _))), kc HD0.out ((Below.refl _ _).drew.trans (hb1.mono (Nat.le_refl _))), kc HD1.out ((Below.refl _ _).drew.trans (hb1.mono (Nat.le_refl _))), kc HD2.out ((Below.refl _ _).drew.trans (hb1.mono (Nat.le_refl _))), kc HD3.out ((Below.refl _ _).drew.trans (hb1.mono (Nat.le_refl _))), kc HD4.out ((Below.refl _ _).drew.trans (hb1.mono (Nat.le_refl _))), hb.out.trans (Below.mono ((Below.refl _ _).drew.trans (hb1.mono (Nat.le_refl _))) hb.out.size)⟩) ((go_at_call 43; refine (eqDataK _ _ _ _ _ _ HE1.out (HNM.out.on (Below.refl _ _).drew) (HNM'.out.on (Below.refl _ _).drew) HL.out HL'.out).mono ?_; rintro e w1 ⟨rfl, hb1⟩))
          all_goals
            have HB2 := Lib.hid (hb.out.drew.trans (hb1.mono hb.out.size))
            clear hb1
            go_wp2_with fail
            go_roundw
            case rel => exact ⟨k + 1, by omega, by go_num, HA, HB2⟩
            case measure => simp [intOf]; omega
        · have HE1 : Hid (decide (kDz.strip (nth L k) = kDz.strip (nth M k)) = false) := Lib.hid (decide_eq_false hq)
          have HA : Hid (q = false) := Lib.hid (by rw [← HQ.out]; exact decide_eq_false (differ_K (k := k) (by rw [e1, e2]; exact hq)))
          clear hq hlen hlen2 e1 e2 hc0 hc1 hc2 hc3 hc4 hd0 hd1 hd2 hd3 hd4 hnm hnm' hl1 hl2
          go_wp2_with fail
          go_region_held3 (fun w' => w'.cell? ⟨b, off + k * 5, none⟩ = some (.slice x0 n0 c0) ∧ w'.cell? ⟨b, off + k * 5 + 1, none⟩ = some (.slice x1 n1 c1) ∧ w'.cell? ⟨b, off + k * 5 + 2, none⟩ = some (.slice x2 n2 c2) ∧ w'.cell? ⟨b, off + k * 5 + 3, none⟩ = some (.int .i64 (kDz.strip (nth L k)).2.2.2.1) ∧ w'.cell? ⟨b, off + k * 5 + 4, none⟩ = some (.int .i64 (kDz.strip (nth L k)).2.2.2.2) ∧ w'.cell? ⟨b', off' + k * 5, none⟩ = some (.slice xy0 ny0 cy0) ∧ w'.cell? ⟨b', off' + k * 5 + 1, none⟩ = some (.slice xy1 ny1 cy1) ∧ w'.cell? ⟨b', off' + k * 5 + 2, none⟩ = some (.slice xy2 ny2 cy2) ∧ w'.cell? ⟨b', off' + k * 5 + 3, none⟩ = some (.int .i64 (kDz.strip (nth M k)).2.2.2.1) ∧ w'.cell? ⟨b', off' + k * 5 + 4, none⟩ = some (.int .i64 (kDz.strip (nth M k)).2.2.2.2) ∧ Below w.heap.size w w') (first | exact ⟨kc HC0.out ((Below.refl _ _).drew), kc HC1.out ((Below.refl _ _).drew), kc HC2.out ((Below.refl _ _).drew), kc HC3.out ((Below.refl _ _).drew), kc HC4.out ((Below.refl _ _).drew), kc HD0.out ((Below.refl _ _).drew), kc HD1.out ((Below.refl _ _).drew), kc HD2.out ((Below.refl _ _).drew), kc HD3.out ((Below.refl _ _).drew), kc HD4.out ((Below.refl _ _).drew), hb.out.trans (Below.mono ((Below.refl _ _).drew) hb.out.size)⟩ | exact ⟨kc HC0.out (hb1.mono (Nat.le_refl _)), kc HC1.out (hb1.mono (Nat.le_refl _)), kc HC2.out (hb1.mono (Nat.le_refl _)), kc HC3.out (hb1.mono (Nat.le_refl _)), kc HC4.out (hb1.mono (Nat.le_refl _)), kc HD0.out (hb1.mono (Nat.le_refl _)), kc HD1.out (hb1.mono (Nat.le_refl _)), kc HD2.out (hb1.mono (Nat.le_refl _)), kc HD3.out (hb1.mono (Nat.le_refl _)), kc HD4.out (hb1.mono (Nat.le_refl _)), hb.out.trans (Below.mono (hb1.mono (Nat.le_refl _)) hb.out.size)⟩ | exact ⟨kc HC0.out ((Below.refl _ _).drew.trans (hb1.mono (Nat.le_refl _))), kc HC1.out ((Below.refl _ _).drew.trans (hb1.mono (Nat.le_refl _))), kc HC2.out ((Below.refl _ _).drew.trans (hb1.mono (Nat.le_refl _))), kc HC3.out ((Below.refl _ _).drew.trans (hb1.mono (Nat.le_refl _))), kc HC4.out ((Below.refl _ _).drew.trans (hb1.mono (Nat.le_refl _))), kc HD0.out ((Below.refl _ _).drew.trans (hb1.mono (Nat.le_refl _))), kc HD1.out ((Below.refl _ _).drew.trans (hb1.mono (Nat.le_refl _))), kc HD2.out ((Below.refl _ _).drew.trans (hb1.mono (Nat.le_refl _))), kc HD3.out ((Below.refl _ _).drew.trans (hb1.mono (Nat.le_refl _))), kc HD4.out ((Below.refl _ _).drew.trans (hb1.mono (Nat.le_refl _))), hb.out.trans (Below.mono ((Below.refl _ _).drew.trans (hb1.mono (Nat.le_refl _))) hb.out.size)⟩) ((go_at_call 43; refine (eqDataK _ _ _ _ _ _ HE1.out (HNM.out.on (Below.refl _ _).drew) (HNM'.out.on (Below.refl _ _).drew) HL.out HL'.out).mono ?_; rintro e w1 ⟨rfl, hb1⟩))
          all_goals
            have HB2 := Lib.hid (hb.out.drew.trans (hb1.mono hb.out.size))
            clear hb1
            go_wp2_with fail
            go_ret
            exact ⟨ret_bool HA.out.symm, HB2.out⟩
      · obtain rfl : k = n := by omega
        have HD : Hid (q = true) := Lib.hid (by rw [← HQ.out]; exact decide_eq_true (agree_all (by rw [HNL.out, HNM9.out]) (by rw [HNL.out]; exact ha.out)))
        clear hlt
        go_wp2
        go_ret
        exact ⟨ret_bool HD.out.symm, hb.out⟩
  · have htest : (((n : Nat) : Int) != ((n2 : Nat) : Int)) = true := by
      rw [bne_iff_ne]; omega
    have hf : q = false := by rw [← hq]; exact decide_eq_false (fun e => he (by rw [← hnl, ← hnm, e]))
    rw [hf]
    exact (eqDataSK_len x y _ _ cx cy w htest).mono fun e w' ⟨h1, h2⟩ => ⟨h1, by subst h2; exact Below.refl _ _⟩
def inLDz (l : List Dzt) : Prop := l.length ≤ 9223372036854775807 ∧ ∀ x ∈ l, inDz x
theorem inLDz.ok {l : List Dzt} (h : inLDz l) : okLDz l := ⟨h.1, fun x hx => (h.2 x hx).ok⟩
def adLDz (l : List Dzt) : Nat := bulkK adDz l
theorem toLDzK (V : Value) (l : List Dzt) (w : World) (h : kLDz.At w V l) (hl : adLDz l ≤ 100000000) :
    Calls Tryz.prog 102 #[V] w fun e w' => ∃ U, e = .returned U ∧ kLDz.In w.heap.size w'.heap.size w' U l ∧ Below w.heap.size w w' :=
  toDataSK V l w h (Nat.le_trans (bulkK_len _ _) hl) (fun x hx => Nat.le_trans (bulkK_mem hx) hl)
/-! ### as a field of a struct (kstruct.py's LIST) -/
theorem szDataSF (V : Value) (l : List Dzt) (w : World) (left : Int) (h : kLDz.At w V l) (hp : okLDz l) (h0 : 0 ≤ left) (h1 : left ≤ 1048576) :
    Calls Tryz.prog 96 #[V, .int .i64 left] w fun e w' => e = .returned (.int .i64 (szW (bulkK wtDz l) left)) ∧ Below w.heap.size w w' := szDataSK V l w left h hp h0 h1
theorem toDataSF (V : Value) (l : List Dzt) (w : World) (h : kLDz.At w V l) (hl : bulkK adDz l ≤ 100000000) :
    Calls Tryz.prog 102 #[V] w fun e w' => ∃ U, e = .returned U ∧ kLDz.In w.heap.size w'.heap.size w' U l ∧ Below w.heap.size w w' := toLDzK V l w h hl
theorem eqDataSF (V U : Value) (l m : List Dzt) (w : World) (q : Bool) (hq : decide (l = m) = q) (h : kLDz.At w V l) (g : kLDz.At w U m) (hl : bulkK adDz l ≤ 100000000) (hm : bulkK adDz m ≤ 100000000) :
    Calls Tryz.prog 108 #[V, U] w fun e w' => e = .returned (.bool q) ∧ Below w.heap.size w w' :=
  eqDataSK V U l m w q hq h g (Nat.le_trans (bulkK_len _ _) hl) (Nat.le_trans (bulkK_len _ _) hm) (fun x hx => Nat.le_trans (bulkK_mem hx) hl) (fun x hx => Nat.le_trans (bulkK_mem hx) hm)
theorem opens_DataS : OpensK Tryz.prog kLDz 66 inLDz := opens_slice Tryz.underlying66 (by kernel_rfl) (by decide) opens_Data
end Go.Proofs.YtcidfmmeonhkhaaGreatDoor.Row
