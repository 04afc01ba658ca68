/- Contracts and mathematics, joined: KeySK, Patn, PtK, RuleK. No conditions but those that each states. -/
import Derived.Test.YtcidfmmeonhkhaaGreatDoorB4
import Derived.Test.YtcidfmmeonhkhaaGreatDoorB1
/- Lists of keys in the words of kinds: sz, to, eq. No conditions but that lengths fit. -/
namespace Go.Proofs.YtcidfmmeonhkhaaGreatDoor.Row
open Go.ChangeShapes Go.WideShapes Go.ChangeAt Go.RowKit Go.Instr
set_option linter.unusedVariables false
set_option maxRecDepth 100000

def kLKy : Kd (List Kyt) (Rw Kym) := kKy.slice 156
theorem szKy_cells : Sz kKy.cells 2 := fun m => kKy.len m
theorem kindKy : Kind Tryz.prog 156 kKy.cells (.agg #[.slice none 0 0, .int .i64 0]) 2 32 where
  elem := by unfold ElemK; kernel_rfl
  zs := rfl
  pos := by decide
  size := szKy_cells
  one := fun m u hu => kKy.one m u hu
def okLKy (l : List Kyt) : Prop := l.length ≤ 9223372036854775807 ∧ ∀ x ∈ l, okKy x
section
variable {w : World} {V : Value} {l : List Kyt} {B E : Nat}
theorem kLKy_at (h : kLKy.At w V l) : ∃ ad n cap L, V = .slice ad n cap ∧ n = L.length ∧ L.map kKy.strip = l ∧ HoldsK kKy.cells 2 w (.slice ad n cap) L ∧ ∀ x ∈ L, kKy.holds w x := by
  obtain ⟨⟨ad, n, cap, L⟩, hV, hl, hh, hel⟩ := h
  exact ⟨ad, n, cap, L, hV, HoldsK.lenEq (show HoldsK kKy.cells 2 w (.slice ad n cap) L from hh), hl, hh, hel⟩
theorem kLKy_shapeA (h : kLKy.At w V l) : ∃ x n c, V = .slice x n c ∧ kLKy.At w (.slice x n c) l := by
  obtain ⟨ad, n, cap, L, rfl, -⟩ := kLKy_at h
  exact ⟨ad, n, cap, rfl, h⟩
/-- The element at place j: its cells, what it reads as. -/
theorem kLKy_elem {x : Option Addr} {n cap : Nat} {L : List Kym} (h : HoldsK kKy.cells 2 w (.slice x n cap) L) (hel : ∀ y ∈ L, kKy.holds w y) {j : Nat} (hj : j < L.length) :
    ∃ (b off : Nat) (x0 : Option Addr) (n0 c0 : Nat), x = some ⟨b, off, none⟩ ∧ kKy.cells (nth L j) = [.slice x0 n0 c0, .int .i64 (kKy.strip (nth L j)).2] ∧ w.cell? ⟨b, off + j * 2, none⟩ = some (.slice x0 n0 c0) ∧ w.cell? ⟨b, off + j * 2 + 1, none⟩ = some (.int .i64 (kKy.strip (nth L j)).2) ∧ kKy.At w (.agg #[.slice x0 n0 c0, .int .i64 (kKy.strip (nth L j)).2]) (kKy.strip (nth L j)) := by
  obtain ⟨b, off, hx, hc⟩ := h.at szKy_cells hj
  obtain ⟨x0, n0, c0, e, ha⟩ := kKy_shapeA (Kd.at_of (k := kKy) (hel _ (nth_mem hj)))
  have d : kKy.cells (nth L j) = [.slice x0 n0 c0, .int .i64 (kKy.strip (nth L j)).2] := by injection e with e; exact congrArg Array.toList e
  rw [d] at hc
  exact ⟨b, off, x0, n0, c0, hx, d, by have := hc 0 (by decide); simpa [Nat.add_assoc] using this, by have := hc 1 (by decide); simpa [Nat.add_assoc] using this, ha⟩
end

set_option maxHeartbeats 4000000 in
theorem szKeySK (V : Value) (l : List Kyt) (w : World) (left : Int) (h : kLKy.At w V l) (hp : okLKy l) (h0 : 0 ≤ left) (h1 : left ≤ 1048576) :
    Calls Tryz.prog 93 #[V, .int .i64 left] w fun e w' => e = .returned (.int .i64 (szW (bulkK wtKy l) left)) ∧ Below w.heap.size w w' := by
  obtain ⟨ad, n, cap, L, rfl, hn, hl, hh, hel⟩ := kLKy_at h
  have hle := bulkKTo_le wtKy l
  have hb0 := bulkKTo_zero wtKy l
  have hlen : l.length = n := by rw [← hl, List.length_map]; exact hn.symm
  obtain ⟨p0, hs⟩ := hp
  rw [hlen] at p0 hb0
  by_cases hbig : left < (n : Int)
  · have hS : szW (bulkK wtKy l) left = -1 := szW_not (by have := bulkK_len wtKy l; omega)
    rw [hS]
    clear hh h hs hle hn hb0 hS hl hlen hel
    go_enter Tryz.func93, Tryz.ntmps93
    go_wp2
    go_ret
    exact ⟨rfl, Below.refl _ _⟩
  have HN := Lib.hid hn; have HT := Lib.hid hl; have HH := Lib.hid hh; have HEL := Lib.hid hel; have HS := Lib.hid hs; have HLE := Lib.hid hle; have HB0 := Lib.hid hb0; have HLEN := Lib.hid hlen
  clear hn h hh hs hle hb0 hl hlen hel
  go_enter Tryz.func93, Tryz.ntmps93
  go_wp2
  go_loopw [1, 5] (fun lv i wr => ∃ k : Nat, k ≤ n ∧ i = .int .i64 k ∧ ∃ u : Int, lv = .int .i64 u ∧ u = left - bulkKTo wtKy l k ∧ 0 ≤ u ∧ Hid (Below w.heap.size w wr)) (fun _ i _ => n - (intOf i).toNat)
  case atStart => exact ⟨0, Nat.zero_le _, rfl, _, rfl, by rw [HB0.out], by omega, Lib.hid (Below.refl _ _)⟩
  case round =>
    obtain ⟨k, hk, rfl, u, rfl, hu, h0u, hb⟩ := hrel
    have hub : u ≤ left := by omega
    have HU := Lib.hid hu
    clear hu
    by_cases hlt : k < n
    · have hlen := HN.out
      obtain ⟨b, off, x0, n0, c0, rfl, -, hc0, hc1, ha⟩ := kLKy_elem (HH.out.on hb.out) (fun y hy => kKy.holds_on (HEL.out y hy) hb.out) (j := k) (by omega)
      have hpt : nth l k = kKy.strip (nth L k) := by rw [← HT.out, nth_map _ (by omega)]
      have hsz := HS.out (nth l k) (nth_mem (by have := HLEN.out; omega))
      rw [hpt] at hsz
      have HA := Lib.hid ha
      have HSZ := Lib.hid hsz
      have hstep := Lib.hid (bulkKTo_succ wtKy l (j := k) (by have := HLEN.out; omega))
      rw [hpt] at hstep
      have HALL := Lib.hid (HLE.out (k + 1))
      clear hlen hsz hpt ha
      go_wp2_with fail
      refine (szKeyK _ _ wr u HA.out HSZ.out h0u (by omega)).mono ?_
      rintro e w1 ⟨rfl, hb1⟩
      have HB1 := Lib.hid (hb.out.trans (hb1.mono hb.out.size))
      clear hb1 hc0 hc1
      by_cases c1 : (wtKy (kKy.strip (nth L k)) : Int) ≤ u
      · rw [szW_fit c1]
        have h2 : ¬ u - (wtKy (kKy.strip (nth L k)) : Int) < 0 := by omega
        go_wp2
        go_roundw
        case rel => exact ⟨k + 1, by omega, by go_num, _, rfl, by rw [hstep.out, HU.out]; omega, by omega, HB1⟩
        case measure => simp [intOf]; omega
      · rw [szW_not c1]
        have HZ : Hid (szW (bulkK wtKy l) left = -1) := by
          have e1 := HALL.out; have e2 := HU.out; have e3 := hstep.out
          exact Lib.hid (szW_not (by omega))
        clear c1
        go_wp2
        go_ret
        exact ⟨ret_int HZ.out.symm, HB1.out⟩
    · obtain rfl : k = n := by omega
      clear hlt
      go_wp2
      go_ret
      refine ⟨ret_int ?_, hb.out⟩
      have := HU.out
      rw [← HLEN.out] at this
      rw [szW_fit (by unfold bulkK; omega)]
      exact this

set_option maxHeartbeats 4000000 in
theorem toKeySK (V : Value) (l : List Kyt) (w : World) (h : kLKy.At w V l) (hl : l.length ≤ 100000000) (hs : ∀ x ∈ l, adKy x ≤ 100000000) :
    Calls Tryz.prog 99 #[V] w fun e w' => ∃ U, e = .returned U ∧ kLKy.In w.heap.size w'.heap.size w' U l ∧ Below w.heap.size w w' := by
  obtain ⟨ad, n, cap, L, rfl, hn, ht, hh, hel⟩ := kLKy_at h
  obtain ⟨i0, hi, hz0, hz1, hz2⟩ := info_parts kindKy.elem
  have hlen : l.length = n := by rw [← ht, List.length_map]; exact hn.symm
  rw [hlen] at hl
  have HN := Lib.hid hn; have HT := Lib.hid ht; have HH := Lib.hid hh; have HEL := Lib.hid hel; have HS := Lib.hid hs; have HLEN := Lib.hid hlen
  have HI := Lib.hid hi; have HZ0 := Lib.hid hz0; have HZ1 := Lib.hid hz1; have HZ2 := Lib.hid hz2
  clear hn h hh hi hz0 hz1 hz2 hs ht hel hlen
  go_enter Tryz.func99, Tryz.ntmps99
  go_wp2_with (at_make; refine wpList_make_full _ rfl _ _ 24 rfl w.heap.size 156 i0 (.agg #[.slice none 0 0, .int .i64 0]) 2 Tryz.underlying24 HI.out HZ0.out HZ1.out _ _ _ _ n rfl rfl rfl rfl (by rw [HZ2.out]; omega) (by unfold maxLen; omega) (Nat.le_refl _) ?_)
  intro w1 hown hgrow
  have ho : OwnK 156 kKy.cells 2 w.heap.size w1 (.slice (some ⟨w.heap.size, 0, none⟩) n n) (madeK' [] n) := by
    have e1 : madeK' ([] : List Kym) n = List.replicate n default := by simp [madeK']
    rw [e1]
    unfold OwnK
    rw [List.length_replicate, ← madeK szKy_cells (by decide) (z := .agg #[.slice none 0 0, .int .i64 0]) rfl n]
    exact hown
  have HO := Lib.hid ho
  have HB := Lib.hid ((Below.refl w.heap.size w).grown hgrow (Nat.le_refl _) (fun g hg => by cases hg))
  have HG := Lib.hid (show w.heap.size < w1.heap.size from (OwnK.lt ho _ rfl).2)
  clear ho hown hgrow
  go_wp2
  go_loopw [4] (fun i wr => ∃ j : Nat, j ≤ n ∧ i = .int .i64 j ∧ ∃ M : List Kym, Hid (M.length = j) ∧ Hid (M.map kKy.strip = l.take j) ∧ Hid (OwnK 156 kKy.cells 2 w.heap.size wr (.slice (some ⟨w.heap.size, 0, none⟩) n n) (madeK' M n)) ∧ Hid (kKy.EOwn (w.heap.size + 1) wr.heap.size wr M) ∧ Hid (Below w.heap.size w wr)) (fun i _ => n - (intOf i).toNat)
  case atStart => exact ⟨0, Nat.zero_le _, rfl, [], Lib.hid rfl, Lib.hid (by simp), HO, Lib.hid (Kd.EOwn.nil _ _ _ _), HB⟩
  case round =>
    obtain ⟨j, hj, rfl, M, hM, hst, ho, he, hb⟩ := hrel
    by_cases hlt : j < n
    · have hlen := HN.out
      obtain ⟨b, off, x0, n0, c0, rfl, -, hc0, hc1, ha⟩ := kLKy_elem (HH.out.on hb.out) (fun y hy => kKy.holds_on (HEL.out y hy) hb.out) (j := j) (by omega)
      have HA := Lib.hid ha
      have hpt : nth l j = kKy.strip (nth L j) := by rw [← HT.out, nth_map _ (by omega)]
      have hps := HS.out (nth l j) (nth_mem (by have := HLEN.out; omega))
      rw [hpt] at hps
      have HPS := Lib.hid hps
      have HST := Lib.hid (show l.take (j + 1) = l.take j ++ [kKy.strip (nth L j)] by rw [← HT.out]; exact take_map_succ _ (by omega))
      clear hlen ha hpt hps
      go_wp2_with fail
      refine (toKeyK _ _ wr HA.out HPS.out).mono ?_
      rintro e w1 ⟨U, rfl, hi1, hb1⟩
      obtain ⟨m1, rfl, hm1, hi1⟩ := hi1.split
      obtain ⟨xy0, ny0, cy0, ey, -⟩ := kKy_shapeA (Kd.at_of (k := kKy) hi1.holds)
      have dy : kKy.cells m1 = [.slice xy0 ny0 cy0, .int .i64 (kKy.strip m1).2] := by injection ey with e; exact congrArg Array.toList e
      rw [ey]
      have HO1 := Lib.hid (ho.out.on hb1)
      have HE1 := Lib.hid (he.out.on hb1 (Nat.le_refl _))
      have HX := Lib.hid hi1
      have HB1 := Lib.hid (hb.out.trans (hb1.mono hb.out.size))
      have HSZ := Lib.hid hb1.size
      have HDY := Lib.hid dy
      have HM1 := Lib.hid hm1
      have hml : n = (madeK' M n).length := (madeK'_length (by have := hM.out; omega)).symm
      have hmj : j < (madeK' M n).length := by omega
      have hgl := (OwnK.lt HO1.out _ rfl).2
      have hgr := (OwnK.lt ho.out _ rfl).2
      obtain ⟨k0, f0⟩ := ownK_cell szKy_cells HO1.out hml hmj (i := 0) (by decide)
      obtain ⟨z0, hz0⟩ : ∃ z, w1.cell? ⟨w.heap.size, j * 2, none⟩ = some z := ⟨_, by simpa [Nat.add_zero] using (k0.trans (List.getElem?_eq_getElem (by rw [kKy.len]; decide)))⟩
      have g0 : w1.frozen? ⟨w.heap.size, j * 2, none⟩ = false := by simpa using f0
      clear k0 f0
      obtain ⟨k1, f1⟩ := ownK_cell szKy_cells HO1.out hml hmj (i := 1) (by decide)
      obtain ⟨z1, hz1⟩ : ∃ z, w1.cell? ⟨w.heap.size, j * 2 + 1, none⟩ = some z := ⟨_, by simpa [] using (k1.trans (List.getElem?_eq_getElem (by rw [kKy.len]; decide)))⟩
      have g1 : w1.frozen? ⟨w.heap.size, j * 2 + 1, none⟩ = false := by simpa using f1
      clear k1 f1
      have p1 := ownK_put szKy_cells HO1.out hml hmj m1
      have p2 := setCells_grown w.heap.size (kKy.cells m1) (j * 2) w1
      rw [dy] at p1 p2
      have HP1 := Lib.hid (show OwnK 156 kKy.cells 2 w.heap.size ((w1.setCell ⟨w.heap.size, j * 2, none⟩ (.slice xy0 ny0 cy0)).setCell ⟨w.heap.size, j * 2 + 1, none⟩ (.int .i64 (kKy.strip m1).2)) _ _ from p1)
      have HP2 := Lib.hid (show w1.grownBy ((w1.setCell ⟨w.heap.size, j * 2, none⟩ (.slice xy0 ny0 cy0)).setCell ⟨w.heap.size, j * 2 + 1, none⟩ (.int .i64 (kKy.strip m1).2)) (some w.heap.size) from p2)
      have HGL := Lib.hid hgl; have HGR := Lib.hid hgr
      clear hc0 hc1 hi1 hb1 hml hmj p1 p2 dy ey hm1 hgl hgr
      go_wp2
      go_roundw
      case rel =>
        refine ⟨j + 1, by omega, by go_num, M ++ [m1], Lib.hid (by simp [hM.out]), Lib.hid ?_, Lib.hid ?_, Lib.hid ?_, Lib.hid (HB1.out.grown HP2.out HB1.out.size (fun g hg => by cases hg; exact Nat.le_refl _))⟩
        · rw [List.map_append, hst.out, HST.out, List.map_cons, List.map_nil, HM1.out]
        · rw [← madeK'_step (by have := hM.out; omega), hM.out]; exact HP1.out
        · have h7 := HP2.out.size
          have h8 := HGR.out
          have h9 := HSZ.out
          exact ((HE1.out.snoc HX.out (by omega) (by omega)).grown HP2.out (by omega) (Nat.le_refl _)).keep (fun _ _ _ => rfl) |> fun h => ⟨h.1, h.2.1, fun g hg => ⟨(h.2.2 g hg).1, Nat.lt_of_lt_of_le (h.2.2 g hg).2 h7⟩⟩
      case measure => simp [intOf]; omega
    · obtain rfl : j = n := by omega
      clear hlt
      go_wp2
      go_ret
      refine ⟨_, rfl, ?_, hb.out⟩
      have h1 := ho.out
      rw [madeK'_all hM.out] at h1
      have h2 : M.map kKy.strip = l := by rw [hst.out, List.take_of_length_le (by rw [HLEN.out]; omega)]
      have h3 := (he.out.slice h1 (OwnK.lt h1 _ rfl).2).in
      rw [← h2]
      exact h3

theorem eqKeySK_len (x y : Option Addr) (n m cx cy : Nat) (w : World) (h : (((n : Nat) : Int) != ((m : Nat) : Int)) = true) :
    Calls Tryz.prog 106 #[.slice x n cx, .slice y m cy] w fun e w' => e = .returned (.bool false) ∧ w = w' := by
  go_enter Tryz.func106, Tryz.ntmps106
  go_wp2
  go_ret
  exact ⟨rfl, rfl⟩
theorem differ_K {α : Type} [Inhabited α] {a b : List α} {k : Nat} (h : nth a k ≠ nth b k) : a ≠ b := fun e => h (by rw [e])

set_option maxHeartbeats 4000000 in
theorem eqKeySK (V U : Value) (l m : List Kyt) (w : World) (q : Bool) (hq : decide (l = m) = q) (h : kLKy.At w V l) (g : kLKy.At w U m) (hl : l.length ≤ 100000000) (hm : m.length ≤ 100000000) (hsl : ∀ x ∈ l, adKy x ≤ 100000000) (hsm : ∀ x ∈ m, adKy x ≤ 100000000) :
    Calls Tryz.prog 106 #[V, U] w fun e w' => e = .returned (.bool q) ∧ Below w.heap.size w w' := by
  obtain ⟨x, n, cx, L, rfl, hn, hL, hh, hel⟩ := kLKy_at h
  obtain ⟨y, n2, cy, M, rfl, hn2, hM, hg, hem⟩ := kLKy_at g
  have hnl : l.length = n := by rw [← hL, List.length_map]; exact hn.symm
  have hnm : m.length = n2 := by rw [← hM, List.length_map]; exact hn2.symm
  by_cases he : n = n2
  · subst he
    rw [hnl] at hl
    have HN := Lib.hid hn; have HM := Lib.hid hn2; have HNL := Lib.hid hnl; have HNM9 := Lib.hid hnm
    have HH := Lib.hid hh; have HG := Lib.hid hg; have HEL := Lib.hid hel; have HEM := Lib.hid hem
    have HTL := Lib.hid hL; have HTM := Lib.hid hM; have HQ := Lib.hid hq; have HSL := Lib.hid hsl; have HSM := Lib.hid hsm
    have htest : (((n : Nat) : Int) != ((n : Nat) : Int)) = false := by simp
    clear hn h hh g hg hn2 hL hM hq hsl hsm hel hem hnl hnm hm
    go_enter Tryz.func106, Tryz.ntmps106
    go_wp2
    go_loopw [5] (fun i wr => ∃ k : Nat, k ≤ n ∧ i = .int .i64 k ∧ Hid (agree l m k) ∧ Hid (Below w.heap.size w wr)) (fun i _ => n - (intOf i).toNat)
    case atStart => exact ⟨0, Nat.zero_le _, rfl, Lib.hid (agree_zero _ _), Lib.hid (Below.refl _ _)⟩
    case round =>
      obtain ⟨k, hk, rfl, ha, hb⟩ := hrel
      by_cases hlt : k < n
      · have hlen := HN.out
        have hlen2 := HM.out
        obtain ⟨b, off, x0, n0, c0, rfl, -, hc0, hc1, hnm⟩ := kLKy_elem (HH.out.on hb.out) (fun y hy => kKy.holds_on (HEL.out y hy) hb.out) (j := k) (by omega)
        obtain ⟨b', off', xy0, ny0, cy0, rfl, -, hd0, hd1, hnm'⟩ := kLKy_elem (HG.out.on hb.out) (fun y hy => kKy.holds_on (HEM.out y hy) hb.out) (j := k) (by omega)
        have e1 : nth l k = kKy.strip (nth L k) := by rw [← HTL.out, nth_map _ (by omega)]
        have e2 : nth m k = kKy.strip (nth M k) := by rw [← HTM.out, nth_map _ (by omega)]
        have hl1 := HSL.out (nth l k) (nth_mem (by have := HNL.out; omega)); rw [e1] at hl1
        have hl2 := HSM.out (nth m k) (nth_mem (by have := HNM9.out; omega)); rw [e2] at hl2
        have HL := Lib.hid hl1; have HL' := Lib.hid hl2
        have HC0 := Lib.hid hc0; have HD0 := Lib.hid hd0; have HC1 := Lib.hid hc1; have HD1 := Lib.hid hd1
        have HNM := Lib.hid hnm; have HNM' := Lib.hid hnm'
        by_cases hq : kKy.strip (nth L k) = kKy.strip (nth M k)
        · have HE1 : Hid (decide (kKy.strip (nth L k) = kKy.strip (nth M k)) = true) := Lib.hid (decide_eq_true hq)
          have HA := Lib.hid (agree_succ ha.out (by rw [e1, e2, hq]))
          clear hq hlen hlen2 e1 e2 hc0 hc1 hd0 hd1 hnm hnm' hl1 hl2
          go_wp2_with fail
          go_region_held3 (fun w' => w'.cell? ⟨b, off + k * 2, none⟩ = some (.slice x0 n0 c0) ∧ w'.cell? ⟨b, off + k * 2 + 1, none⟩ = some (.int .i64 (kKy.strip (nth L k)).2) ∧ w'.cell? ⟨b', off' + k * 2, none⟩ = some (.slice xy0 ny0 cy0) ∧ w'.cell? ⟨b', off' + k * 2 + 1, none⟩ = some (.int .i64 (kKy.strip (nth M k)).2) ∧ Below w.heap.size w w') (first | exact ⟨kc HC0.out ((Below.refl _ _).drew), kc HC1.out ((Below.refl _ _).drew), kc HD0.out ((Below.refl _ _).drew), kc HD1.out ((Below.refl _ _).drew), hb.out.trans (Below.mono ((Below.refl _ _).drew) hb.out.size)⟩ | exact ⟨kc HC0.out (hb1.mono (Nat.le_refl _)), kc HC1.out (hb1.mono (Nat.le_refl _)), kc HD0.out (hb1.mono (Nat.le_refl _)), kc HD1.out (hb1.mono (Nat.le_refl _)), hb.out.trans (Below.mono (hb1.mono (Nat.le_refl _)) hb.out.size)⟩ | exact ⟨kc HC0.out ((Below.refl _ _).drew.trans (hb1.mono (Nat.le_refl _))), kc HC1.out ((Below.refl _ _).drew.trans (hb1.mono (Nat.le_refl _))), kc HD0.out ((Below.refl _ _).drew.trans (hb1.mono (Nat.le_refl _))), kc HD1.out ((Below.refl _ _).drew.trans (hb1.mono (Nat.le_refl _))), hb.out.trans (Below.mono ((Below.refl _ _).drew.trans (hb1.mono (Nat.le_refl _))) hb.out.size)⟩) ((go_at_call 170; refine (eqKeyK _ _ _ _ _ _ HE1.out (HNM.out.on (Below.refl _ _).drew) (HNM'.out.on (Below.refl _ _).drew) HL.out HL'.out).mono ?_; rintro e w1 ⟨rfl, hb1⟩))
          all_goals
            have HB2 := Lib.hid (hb.out.drew.trans (hb1.mono hb.out.size))
            clear hb1
            go_wp2_with fail
            go_roundw
            case rel => exact ⟨k + 1, by omega, by go_num, HA, HB2⟩
            case measure => simp [intOf]; omega
        · have HE1 : Hid (decide (kKy.strip (nth L k) = kKy.strip (nth M k)) = false) := Lib.hid (decide_eq_false hq)
          have HA : Hid (q = false) := Lib.hid (by rw [← HQ.out]; exact decide_eq_false (differ_K (k := k) (by rw [e1, e2]; exact hq)))
          clear hq hlen hlen2 e1 e2 hc0 hc1 hd0 hd1 hnm hnm' hl1 hl2
          go_wp2_with fail
          go_region_held3 (fun w' => w'.cell? ⟨b, off + k * 2, none⟩ = some (.slice x0 n0 c0) ∧ w'.cell? ⟨b, off + k * 2 + 1, none⟩ = some (.int .i64 (kKy.strip (nth L k)).2) ∧ w'.cell? ⟨b', off' + k * 2, none⟩ = some (.slice xy0 ny0 cy0) ∧ w'.cell? ⟨b', off' + k * 2 + 1, none⟩ = some (.int .i64 (kKy.strip (nth M k)).2) ∧ Below w.heap.size w w') (first | exact ⟨kc HC0.out ((Below.refl _ _).drew), kc HC1.out ((Below.refl _ _).drew), kc HD0.out ((Below.refl _ _).drew), kc HD1.out ((Below.refl _ _).drew), hb.out.trans (Below.mono ((Below.refl _ _).drew) hb.out.size)⟩ | exact ⟨kc HC0.out (hb1.mono (Nat.le_refl _)), kc HC1.out (hb1.mono (Nat.le_refl _)), kc HD0.out (hb1.mono (Nat.le_refl _)), kc HD1.out (hb1.mono (Nat.le_refl _)), hb.out.trans (Below.mono (hb1.mono (Nat.le_refl _)) hb.out.size)⟩ | exact ⟨kc HC0.out ((Below.refl _ _).drew.trans (hb1.mono (Nat.le_refl _))), kc HC1.out ((Below.refl _ _).drew.trans (hb1.mono (Nat.le_refl _))), kc HD0.out ((Below.refl _ _).drew.trans (hb1.mono (Nat.le_refl _))), kc HD1.out ((Below.refl _ _).drew.trans (hb1.mono (Nat.le_refl _))), hb.out.trans (Below.mono ((Below.refl _ _).drew.trans (hb1.mono (Nat.le_refl _))) hb.out.size)⟩) ((go_at_call 170; refine (eqKeyK _ _ _ _ _ _ HE1.out (HNM.out.on (Below.refl _ _).drew) (HNM'.out.on (Below.refl _ _).drew) HL.out HL'.out).mono ?_; rintro e w1 ⟨rfl, hb1⟩))
          all_goals
            have HB2 := Lib.hid (hb.out.drew.trans (hb1.mono hb.out.size))
            clear hb1
            go_wp2_with fail
            go_ret
            exact ⟨ret_bool HA.out.symm, HB2.out⟩
      · obtain rfl : k = n := by omega
        have HD : Hid (q = true) := Lib.hid (by rw [← HQ.out]; exact decide_eq_true (agree_all (by rw [HNL.out, HNM9.out]) (by rw [HNL.out]; exact ha.out)))
        clear hlt
        go_wp2
        go_ret
        exact ⟨ret_bool HD.out.symm, hb.out⟩
  · have htest : (((n : Nat) : Int) != ((n2 : Nat) : Int)) = true := by
      rw [bne_iff_ne]; omega
    have hf : q = false := by rw [← hq]; exact decide_eq_false (fun e => he (by rw [← hnl, ← hnm, e]))
    rw [hf]
    exact (eqKeySK_len x y _ _ cx cy w htest).mono fun e w' ⟨h1, h2⟩ => ⟨h1, by subst h2; exact Below.refl _ _⟩
def inLKy (l : List Kyt) : Prop := l.length ≤ 9223372036854775807 ∧ ∀ x ∈ l, inKy x
theorem inLKy.ok {l : List Kyt} (h : inLKy l) : okLKy l := ⟨h.1, fun x hx => (h.2 x hx).ok⟩
def adLKy (l : List Kyt) : Nat := bulkK adKy l
theorem toLKyK (V : Value) (l : List Kyt) (w : World) (h : kLKy.At w V l) (hl : adLKy l ≤ 100000000) :
    Calls Tryz.prog 99 #[V] w fun e w' => ∃ U, e = .returned U ∧ kLKy.In w.heap.size w'.heap.size w' U l ∧ Below w.heap.size w w' :=
  toKeySK V l w h (Nat.le_trans (bulkK_len _ _) hl) (fun x hx => Nat.le_trans (bulkK_mem hx) hl)
/-! ### as a field of a struct (kstruct.py's LIST) -/
theorem szKeySF (V : Value) (l : List Kyt) (w : World) (left : Int) (h : kLKy.At w V l) (hp : okLKy l) (h0 : 0 ≤ left) (h1 : left ≤ 1048576) :
    Calls Tryz.prog 93 #[V, .int .i64 left] w fun e w' => e = .returned (.int .i64 (szW (bulkK wtKy l) left)) ∧ Below w.heap.size w w' := szKeySK V l w left h hp h0 h1
theorem toKeySF (V : Value) (l : List Kyt) (w : World) (h : kLKy.At w V l) (hl : bulkK adKy l ≤ 100000000) :
    Calls Tryz.prog 99 #[V] w fun e w' => ∃ U, e = .returned U ∧ kLKy.In w.heap.size w'.heap.size w' U l ∧ Below w.heap.size w w' := toLKyK V l w h hl
theorem eqKeySF (V U : Value) (l m : List Kyt) (w : World) (q : Bool) (hq : decide (l = m) = q) (h : kLKy.At w V l) (g : kLKy.At w U m) (hl : bulkK adKy l ≤ 100000000) (hm : bulkK adKy m ≤ 100000000) :
    Calls Tryz.prog 106 #[V, U] w fun e w' => e = .returned (.bool q) ∧ Below w.heap.size w w' :=
  eqKeySK V U l m w q hq h g (Nat.le_trans (bulkK_len _ _) hl) (Nat.le_trans (bulkK_len _ _) hm) (fun x hx => Nat.le_trans (bulkK_mem hx) hl) (fun x hx => Nat.le_trans (bulkK_mem hx) hm)
theorem opens_KeyS : OpensK Tryz.prog kLKy 63 inLKy := opens_slice Tryz.underlying63 (by kernel_rfl) (by decide) opens_Key
end Go.Proofs.YtcidfmmeonhkhaaGreatDoor.Row
/- Contracts of the helpers by which the laws measure, copy, compare, mark and look at patterns (a struct of one slice of strings). No conditions but that lengths fit. -/
namespace Go.Proofs.YtcidfmmeonhkhaaGreatDoor.Row
open Go.ChangeShapes Go.WideShapes Go.ChangeAt Go.RowKit Go.Instr
set_option linter.unusedVariables false
set_option maxRecDepth 100000

set_option maxHeartbeats 1000000 in
theorem szPattern (v : Value) (l : List ByteArray) (w : World) (left : Int) (h : Holds Value.string w v l) (hl : l.length ≤ 9223372036854775807) (hs : ∀ x ∈ l, x.size ≤ maxLen) (h0 : 0 ≤ left) (h1 : left ≤ 1048576) :
    Calls Tryz.prog 203 #[.agg #[v], .int .i64 left] w fun e w' => e = .returned (.int .i64 (szL l left)) ∧ Below w.heap.size w w' := by
  obtain ⟨x, cap, rfl, hcap, hh⟩ := h.shape
  have HH := Lib.hid hh; have HS := Lib.hid hs
  clear hh h hs
  go_enter Tryz.func203, Tryz.ntmps203
  go_wp2_with fail
  have HA := Lib.hid (HH.out.on ((Below.refl w.heap.size w).alloc (Nat.le_refl _) (.cells #[.slice x l.length cap] 194)))
  refine (szStringS _ l _ left HA.out hl HS.out h0 h1).mono ?_
  rintro e w' ⟨rfl, rfl⟩
  by_cases hb : (bulk l : Int) ≤ left
  · rw [szL_fit hb]
    have h2 : ¬ left - (bulk l : Int) < 0 := by omega
    go_wp2
    go_ret
    exact ⟨ret_int (szL_fit hb).symm, (Below.refl _ _).alloc (Nat.le_refl _) _⟩
  · have hz := szL_not (l := l) (left := left) (by omega)
    rw [hz]
    have HZ := Lib.hid hz; clear hz
    go_wp2
    go_ret
    exact ⟨ret_int HZ.out.symm, (Below.refl _ _).alloc (Nat.le_refl _) _⟩

set_option maxHeartbeats 1000000 in
theorem toPattern (v : Value) (l : List ByteArray) (w : World) (h : Holds Value.string w v l) (hl : l.length ≤ 100000000) :
    Calls Tryz.prog 204 #[.agg #[v]] w fun e w' => ∃ v', e = .returned (.agg #[v']) ∧ Own 9 Value.string w.heap.size w' v' l ∧ Below w.heap.size w w' := by
  obtain ⟨x, cap, rfl, hcap, hh⟩ := h.shape
  have HH := Lib.hid hh
  clear hh h
  go_enter Tryz.func204, Tryz.ntmps204
  go_wp2_with fail
  have HB := Lib.hid ((((Below.refl w.heap.size w).alloc (Nat.le_refl _) (.cells #[.slice x l.length cap] 194)).alloc (by simp) (.cells #[.slice none 0 0] 166)).alloc (by simp; omega) (.cells #[.slice none 0 0] 166))
  have HA := Lib.hid (HH.out.on HB.out)
  refine (toStringS _ l _ HA.out hl).mono ?_
  rintro e w1 ⟨v1, rfl, ho, hb⟩
  obtain ⟨x1, c1, rfl, hc1, ho1⟩ := ho.shape
  have HO := Lib.hid ho1
  have HB1 := Lib.hid hb
  clear ho ho1 hb
  have hk1 : w1.cell? ⟨w.heap.size + 1, 0, none⟩ = some (.slice none 0 0) := by rw [HB1.out.cell (by simp), World.cell?_alloc_past _ _ _ (by simp), World.cell?_alloc_at _ _ _ _ (by simp)]; rfl
  have hk2 : w1.cell? ⟨w.heap.size + 1 + 1, 0, none⟩ = some (.slice none 0 0) := by rw [HB1.out.cell (by simp), World.cell?_alloc_at _ _ _ _ (by simp)]; rfl
  have hf1 : w1.frozen? ⟨w.heap.size + 1, 0, none⟩ = false := by rw [HB1.out.frozen (by simp), World.frozen?_alloc_past _ _ _ (by simp), World.frozen?_alloc_at _ _ _ _ (by simp)]
  have hf2 : w1.frozen? ⟨w.heap.size + 1 + 1, 0, none⟩ = false := by rw [HB1.out.frozen (by simp), World.frozen?_alloc_at _ _ _ _ (by simp)]
  go_wp2
  have hk3 := Ret.set_same (v := .slice x1 l.length c1) (a := ⟨w.heap.size + 1, 0, none⟩) (w := w1.setCell ⟨w.heap.size + 1 + 1, 0, none⟩ (.slice x1 l.length c1)) (u := .slice none 0 0) (by rw [World.cell?_setCell_other _ _ _ _ (by simp)]; exact hk1)
  refine bodyPost_ret (Ret.results_c rfl _ _ (w.heap.size + 1) [.slice x1 l.length c1] rfl (by unfold Ret.AggOf; exact ⟨by kernel_rfl, by kernel_rfl⟩) (Ret.one hk3)) rfl ?_
  have hs := HB1.out.size
  simp at hs
  have hO2 := (HO.out.grown (Ret.grownBy_set w1 ⟨w.heap.size + 1 + 1, 0, none⟩ (.slice x1 l.length c1)) (nb HO.out (by simp))).grown (Ret.grownBy_set _ ⟨w.heap.size + 1, 0, none⟩ (.slice x1 l.length c1)) (nb HO.out (by simp))
  exact ⟨_, rfl, hO2.mono (by simp; omega), ((HB.out.trans (HB1.out.mono (by simp; omega))).setCell (by simp; omega) _).setCell (by simp) _⟩

set_option maxHeartbeats 1000000 in
theorem eqPattern (v u : Value) (l m : List ByteArray) (w : World) (h : Holds Value.string w v l) (g : Holds Value.string w u m) (hl : l.length ≤ 140737488351232) (hm : m.length ≤ 140737488351232) :
    Calls Tryz.prog 205 #[.agg #[v], .agg #[u]] w fun e w' => e = .returned (.bool (eqB l m)) ∧ Below w.heap.size w w' := by
  obtain ⟨x, cx, rfl, hcx, hh⟩ := h.shape
  obtain ⟨y, cy, rfl, hcy, hg⟩ := g.shape
  have HH := Lib.hid hh; have HG := Lib.hid hg
  clear hh h hg g
  go_enter Tryz.func205, Tryz.ntmps205
  go_wp2_with fail
  have HB := Lib.hid (((Below.refl w.heap.size w).alloc (Nat.le_refl _) (.cells #[.slice x l.length cx] 166)).alloc (Nat.le_trans (Nat.le_refl _) (by simp)) (.cells #[.slice y m.length cy] 166))
  have HA := Lib.hid (HH.out.on HB.out); have HC := Lib.hid (HG.out.on HB.out)
  refine (eqStringS _ _ l m _ HA.out HC.out hl hm).mono ?_
  rintro e w' ⟨rfl, hb⟩
  have HB2 := Lib.hid (HB.out.trans (hb.mono (by simp; omega))); clear hb
  by_cases he : l = m
  · have HE := Lib.hid (eqB_true he)
    rw [HE.out]
    clear he
    go_wp2
    go_ret
    exact ⟨ret_bool HE.out.symm, HB2.out⟩
  · have HE := Lib.hid (eqB_false he)
    rw [HE.out]
    clear he
    go_wp2
    go_ret
    exact ⟨ret_bool HE.out.symm, HB2.out⟩

end Go.Proofs.YtcidfmmeonhkhaaGreatDoor.Row
/- Patterns in the words of kinds (kN: a struct of one slice of texts): sz, to, eq, mark, held. No conditions but that lengths fit. -/
namespace Go.Proofs.YtcidfmmeonhkhaaGreatDoor.Row
open Go.ChangeShapes Go.WideShapes Go.ChangeAt Go.RowKit Go.Instr
set_option linter.unusedVariables false
set_option maxRecDepth 100000

theorem szPtK (V : Value) (l : List ByteArray) (w : World) (left : Int) (h : kN.At w V l) (hp : okN l) (h0 : 0 ≤ left) (h1 : left ≤ 1048576) :
    Calls Tryz.prog 203 #[V, .int .i64 left] w fun e w' => e = .returned (.int .i64 (szW (bulk l) left)) ∧ Below w.heap.size w w' := by
  obtain ⟨v, rfl, h9⟩ := kN_at h
  exact szPattern v l w left h9 hp.1 hp.2 h0 h1
theorem toPtK (V : Value) (l : List ByteArray) (w : World) (h : kN.At w V l) (hl : l.length ≤ 100000000) :
    Calls Tryz.prog 204 #[V] w fun e w' => ∃ U, e = .returned U ∧ kN.In w.heap.size w'.heap.size w' U l ∧ Below w.heap.size w w' := by
  obtain ⟨v, rfl, h9⟩ := kN_at h
  exact (toPattern v l w h9 hl).mono fun e w' ⟨v, a, b, c⟩ => ⟨_, a, kN_own b, c⟩
theorem eqPtK (V U : Value) (l m : List ByteArray) (w : World) (q : Bool) (hq : decide (l = m) = q) (h : kN.At w V l) (g : kN.At w U m) (hl : l.length ≤ 100000000) (hm : m.length ≤ 100000000) :
    Calls Tryz.prog 205 #[V, U] w fun e w' => e = .returned (.bool q) ∧ Below w.heap.size w w' := by
  obtain ⟨v, rfl, h9⟩ := kN_at h
  obtain ⟨u, rfl, g9⟩ := kN_at g
  subst hq
  exact eqPattern v u l m w h9 g9 (by omega) (by omega)
end Go.Proofs.YtcidfmmeonhkhaaGreatDoor.Row
/- Rules (two patterns) in the words of kinds: the kind; sz, to, eq, mark, held. No conditions but that lengths fit. -/
namespace Go.Proofs.YtcidfmmeonhkhaaGreatDoor.Row
open Go.ChangeShapes Go.WideShapes Go.ChangeAt Go.RowKit Go.Instr
set_option linter.unusedVariables false
set_option maxRecDepth 100000

abbrev Rlt := List ByteArray × List ByteArray
abbrev Rlm := Rw ByteArray × Rw ByteArray
def kRl : Kd Rlt Rlm := (kN.pair kN)
theorem aggRl : Ret.AggOf Tryz.prog 168 2 := ⟨by kernel_rfl, by kernel_rfl⟩
def wtRl (x : Rlt) : Nat := bulk x.1 + bulk x.2
def adRl (x : Rlt) : Nat := x.1.length + x.2.length
def okRl (x : Rlt) : Prop := okN x.1 ∧ okN x.2
def mkRl (k : Int) (x : Rlt) : Rlt := (marks markT (k) x.1.length, marks markT (k + (x.1.length : Nat)) x.2.length)
section
variable {w : World} {V : Value} {x : Rlt} {B E : Nat}
theorem kRl_at (h : kRl.At w V x) : ∃ (x0_0 : Option Addr) (n0_0 c0_0 : Nat) (x1_0 : Option Addr) (n1_0 c1_0 : Nat), V = .agg #[.slice x0_0 n0_0 c0_0, .slice x1_0 n1_0 c1_0] ∧ kN.At w (.agg #[.slice x0_0 n0_0 c0_0]) x.1 ∧ kN.At w (.agg #[.slice x1_0 n1_0 c1_0]) x.2 := by
  obtain ⟨⟨m0, m1⟩, rfl, rfl, g0, g1⟩ := h
  obtain ⟨x0_0, n0_0, c0_0, e0, a0⟩ := kN_shapeA (Kd.at_of (k := kN) g0)
  have d0 : kN.cells m0 = [.slice x0_0 n0_0 c0_0] := by injection e0 with e; exact congrArg Array.toList e
  obtain ⟨x1_0, n1_0, c1_0, e1, a1⟩ := kN_shapeA (Kd.at_of (k := kN) g1)
  have d1 : kN.cells m1 = [.slice x1_0 n1_0 c1_0] := by injection e1 with e; exact congrArg Array.toList e
  refine ⟨x0_0, n0_0, c0_0, x1_0, n1_0, c1_0, ?_, e0 ▸ Kd.at_of (k := kN) g0, e1 ▸ Kd.at_of (k := kN) g1⟩
  show Value.agg ((kN.cells m0 ++ (kN.cells m1))).toArray = _
  rw [d0, d1]
  rfl
theorem kRl_shapeA (h : kRl.At w V x) : ∃ (x0_0 : Option Addr) (n0_0 c0_0 : Nat) (x1_0 : Option Addr) (n1_0 c1_0 : Nat), V = .agg #[.slice x0_0 n0_0 c0_0, .slice x1_0 n1_0 c1_0] ∧ kRl.At w (.agg #[.slice x0_0 n0_0 c0_0, .slice x1_0 n1_0 c1_0]) x := by
  obtain ⟨x0_0, n0_0, c0_0, x1_0, n1_0, c1_0, rfl, -⟩ := kRl_at h
  exact ⟨x0_0, n0_0, c0_0, x1_0, n1_0, c1_0, rfl, h⟩
end
set_option maxHeartbeats 4000000 in
theorem szRuleK (V : Value) (x : Rlt) (w : World) (left : Int) (h : kRl.At w V x) (hp : okRl x) (h0 : 0 ≤ left) (hl : left ≤ 1048576) :
    Calls Tryz.prog 164 #[V, .int .i64 left] w fun e w' => e = .returned (.int .i64 (szW (wtRl x) left)) ∧ Below w.heap.size w w' := by
  obtain ⟨x0_0, n0_0, c0_0, x1_0, n1_0, c1_0, rfl, g0, g1⟩ := kRl_at h
  obtain ⟨l0, l1⟩ := x
  obtain ⟨p0, p1⟩ := hp
  have HB := Lib.hid ((Below.refl w.heap.size w).alloc (Nat.le_refl _) (.cells #[.slice x0_0 n0_0 c0_0, .slice x1_0 n1_0 c1_0] 196))
  have HX := Lib.hid (Ret.Blk.new w #[.slice x0_0 n0_0 c0_0, .slice x1_0 n1_0 c1_0] 196)
  have G0 := Lib.hid g0; have P0 := Lib.hid p0
  have G1 := Lib.hid g1; have P1 := Lib.hid p1
  dsimp only at G0 P0 G1 P1 ⊢
  clear g0 p0 g1 p1 h
  go_enter Tryz.func164, Tryz.ntmps164
  go_wp2_with fail
  refine (szPtK _ l0 _ (left) (G0.out.on HB.out) P0.out (by omega) (by omega)).mono ?_
  rintro e w1 ⟨rfl, hb⟩
  replace HX := Lib.hid (HX.out.on hb)
  replace HB := Lib.hid (HB.out.trans (hb.mono HB.out.size)); clear hb
  have q0 : w1.cell? ⟨w.heap.size, 0, none⟩ = some (.slice x0_0 n0_0 c0_0) := HX.out.cell 0
  have q1 : w1.cell? ⟨w.heap.size, 1, none⟩ = some (.slice x1_0 n1_0 c1_0) := HX.out.cell 1
  by_cases t0 : ((bulk l0) : Int) ≤ left
  · rw [szW_fit t0]
    have b0 : ¬ left - ((bulk l0) : Int) < 0 := by omega
    go_wp2_with fail
    clear q0 q1
    refine (szPtK _ l1 _ (left - ((bulk l0) : Int)) (G1.out.on HB.out) P1.out (by omega) (by omega)).mono ?_
    rintro e w2 ⟨rfl, hb⟩
    replace HX := Lib.hid (HX.out.on hb)
    replace HB := Lib.hid (HB.out.trans (hb.mono HB.out.size)); clear hb
    have q0 : w2.cell? ⟨w.heap.size, 0, none⟩ = some (.slice x0_0 n0_0 c0_0) := HX.out.cell 0
    have q1 : w2.cell? ⟨w.heap.size, 1, none⟩ = some (.slice x1_0 n1_0 c1_0) := HX.out.cell 1
    by_cases t1 : ((bulk l1) : Int) ≤ left - ((bulk l0) : Int)
    · rw [szW_fit t1]
      have b1 : ¬ left - ((bulk l0) : Int) - ((bulk l1) : Int) < 0 := by omega
      have HZ : Hid (szW (((bulk l0) + (bulk l1))) left = left - ((bulk l0) : Int) - ((bulk l1) : Int)) := Lib.hid (by rw [szW_fit (by omega)]; (try omega))
      go_wp2
      go_ret
      exact ⟨ret_int HZ.out.symm, HB.out⟩
    · rw [szW_not t1]
      have HZ : Hid (szW (((bulk l0) + (bulk l1))) left = -1) := Lib.hid (szW_not (by omega))
      go_wp2
      go_ret
      exact ⟨ret_int HZ.out.symm, HB.out⟩
  · rw [szW_not t0]
    have HZ : Hid (szW (((bulk l0) + (bulk l1))) left = -1) := Lib.hid (szW_not (by omega))
    go_wp2
    go_ret
    exact ⟨ret_int HZ.out.symm, HB.out⟩
set_option maxHeartbeats 4000000 in
theorem toRuleK (V : Value) (x : Rlt) (w : World) (h : kRl.At w V x) (hp : adRl x ≤ 100000000) :
    Calls Tryz.prog 167 #[V] w fun e w' => ∃ U, e = .returned U ∧ kRl.In w.heap.size w'.heap.size w' U x ∧ Below w.heap.size w w' := by
  obtain ⟨x0_0, n0_0, c0_0, x1_0, n1_0, c1_0, rfl, g0, g1⟩ := kRl_at h
  obtain ⟨l0, l1⟩ := x
  have hp9 : l0.length + l1.length ≤ 100000000 := hp
  have hb0 := (Below.refl w.heap.size w).alloc (Nat.le_refl _) (.cells #[.slice x0_0 n0_0 c0_0, .slice x1_0 n1_0 c1_0] 196)
  have hb1 := hb0.alloc (by simp) (.cells #[.slice none 0 0, .slice none 0 0] 168)
  have hb2 := hb1.alloc (by simp; omega) (.cells #[.slice none 0 0, .slice none 0 0] 168)
  have HB := Lib.hid hb2
  have HX := Lib.hid (((Ret.Blk.new w #[.slice x0_0 n0_0 c0_0, .slice x1_0 n1_0 c1_0] 196).on ((Below.refl _ _).alloc (Nat.le_refl _) (.cells #[.slice none 0 0, .slice none 0 0] 168))).on ((Below.refl _ _).alloc (Nat.le_refl _) (.cells #[.slice none 0 0, .slice none 0 0] 168)))
  have HR := Lib.hid ((Ret.Blk.new' (w := (w.alloc (.cells #[.slice x0_0 n0_0 c0_0, .slice x1_0 n1_0 c1_0] 196))) (n := w.heap.size + 1) #[.slice none 0 0, .slice none 0 0] 168 (by simp)).on ((Below.refl _ _).alloc (Nat.le_refl _) (.cells #[.slice none 0 0, .slice none 0 0] 168)))
  have HL := Lib.hid (Ret.Blk.new' (w := (w.alloc (.cells #[.slice x0_0 n0_0 c0_0, .slice x1_0 n1_0 c1_0] 196)).alloc (.cells #[.slice none 0 0, .slice none 0 0] 168)) (n := w.heap.size + 1 + 1) #[.slice none 0 0, .slice none 0 0] 168 (by simp))
  have hz0 : (((w.alloc (.cells #[.slice x0_0 n0_0 c0_0, .slice x1_0 n1_0 c1_0] 196)).alloc (.cells #[.slice none 0 0, .slice none 0 0] 168)).alloc (.cells #[.slice none 0 0, .slice none 0 0] 168)).heap.size = w.heap.size + 3 := by simp
  have G0 := Lib.hid g0
  have G1 := Lib.hid g1
  dsimp only at G0 G1 ⊢
  clear h hp hb0 hb1 hb2 g0 g1
  go_enter Tryz.func167, Tryz.ntmps167
  go_wp2_with fail
  refine (toPtK _ l0 _ (G0.out.on HB.out) (by omega)).mono ?_
  rintro e w1 ⟨U0, rfl, ho, hb⟩
  have hs0 := hb.size
  obtain ⟨m0, rfl, r0, ho⟩ := ho.split
  obtain ⟨xy0_0, ny0_0, cy0_0, e0, -⟩ := kN_shapeA (Kd.at_of (k := kN) ho.holds)
  have d0 : kN.cells m0 = [.slice xy0_0 ny0_0 cy0_0] := by injection e0 with e; exact congrArg Array.toList e
  rw [e0]
  rw [hz0] at ho hs0; clear hz0
  replace HX := Lib.hid (HX.out.on hb); replace HR := Lib.hid (HR.out.on hb); replace HL := Lib.hid (HL.out.on hb)
  replace HB := Lib.hid (HB.out.trans (hb.mono HB.out.size)); clear hb
  have O0 := Lib.hid ho; clear ho
  have E0 := Lib.hid e0; have D0 := Lib.hid d0; have R0 := Lib.hid r0; clear e0 d0 r0
  have q0 : w1.cell? ⟨w.heap.size, 0, none⟩ = some (.slice x0_0 n0_0 c0_0) := HX.out.cell 0
  have q1 : w1.cell? ⟨w.heap.size, 1, none⟩ = some (.slice x1_0 n1_0 c1_0) := HX.out.cell 1
  have p0 : w1.cell? ⟨w.heap.size + 1 + 1, 0, none⟩ = some (.slice none 0 0) := HL.out.cell 0
  have p1 : w1.cell? ⟨w.heap.size + 1 + 1, 1, none⟩ = some (.slice none 0 0) := HL.out.cell 1
  have t0 := HL.out.frozen 0; have t1 := HL.out.frozen 1
  go_wp2_with fail
  clear q0 q1 p0 p1 t0 t1
  replace HX := Lib.hid (HX.out.other (a := ⟨w.heap.size + 1 + 1, 0, none⟩) (by show w.heap.size + 1 + 1 ≠ w.heap.size; omega) (.slice xy0_0 ny0_0 cy0_0))
  replace HR := Lib.hid (HR.out.other (a := ⟨w.heap.size + 1 + 1, 0, none⟩) (by show w.heap.size + 1 + 1 ≠ w.heap.size + 1; omega) (.slice xy0_0 ny0_0 cy0_0))
  replace HL := Lib.hid (HL.out.set 0 (.slice xy0_0 ny0_0 cy0_0))
  replace HB := Lib.hid (HB.out.setCell (p := ⟨w.heap.size + 1 + 1, 0, none⟩) (by show w.heap.size ≤ w.heap.size + 1 + 1; omega) (.slice xy0_0 ny0_0 cy0_0))
  replace O0 := Lib.hid (Kd.Own.set (g := w.heap.size + 1 + 1) (i := 0) (u := .slice xy0_0 ny0_0 cy0_0) O0.out (by omega))
  refine (toPtK _ l1 _ (G1.out.on HB.out) (by omega)).mono ?_
  rintro e w2 ⟨U1, rfl, ho, hb⟩
  have hs1 := hb.size
  obtain ⟨m1, rfl, r1, ho⟩ := ho.split
  obtain ⟨xy1_0, ny1_0, cy1_0, e1, -⟩ := kN_shapeA (Kd.at_of (k := kN) ho.holds)
  have d1 : kN.cells m1 = [.slice xy1_0 ny1_0 cy1_0] := by injection e1 with e; exact congrArg Array.toList e
  rw [e1]
  simp only [World.size_setCell] at hs1 ho
  replace HX := Lib.hid (HX.out.on hb); replace HR := Lib.hid (HR.out.on hb); replace HL := Lib.hid (HL.out.on hb)
  replace O0 := Lib.hid (O0.out.on hb)
  replace HB := Lib.hid (HB.out.trans (hb.mono HB.out.size)); clear hb
  have O1 := Lib.hid ho; clear ho
  have E1 := Lib.hid e1; have D1 := Lib.hid d1; have R1 := Lib.hid r1; clear e1 d1 r1
  have q0 : w2.cell? ⟨w.heap.size, 0, none⟩ = some (.slice x0_0 n0_0 c0_0) := HX.out.cell 0
  have q1 : w2.cell? ⟨w.heap.size, 1, none⟩ = some (.slice x1_0 n1_0 c1_0) := HX.out.cell 1
  have p0 : w2.cell? ⟨w.heap.size + 1 + 1, 0, none⟩ = some (.slice xy0_0 ny0_0 cy0_0) := HL.out.cell 0
  have p1 : w2.cell? ⟨w.heap.size + 1 + 1, 1, none⟩ = some (.slice none 0 0) := HL.out.cell 1
  have t0 := HL.out.frozen 0; have t1 := HL.out.frozen 1
  have r0 : w2.cell? ⟨w.heap.size + 1, 0, none⟩ = some (.slice none 0 0) := HR.out.cell 0
  have r1 : w2.cell? ⟨w.heap.size + 1, 1, none⟩ = some (.slice none 0 0) := HR.out.cell 1
  have u0 := HR.out.frozen 0; have u1 := HR.out.frozen 1
  have Z := Lib.hid (((HR.out.other (a := ⟨w.heap.size + 1 + 1, 1, none⟩) (by show w.heap.size + 1 + 1 ≠ w.heap.size + 1; omega) (.slice xy1_0 ny1_0 cy1_0)).set 0 (.slice xy0_0 ny0_0 cy0_0)).set 1 (.slice xy1_0 ny1_0 cy1_0))
  have ZB := Lib.hid (((HB.out.setCell (p := ⟨w.heap.size + 1 + 1, 1, none⟩) (by show w.heap.size ≤ w.heap.size + 1 + 1; omega) (.slice xy1_0 ny1_0 cy1_0)).setCell (p := ⟨w.heap.size + 1, 0, none⟩) (by show w.heap.size ≤ w.heap.size + 1; omega) (.slice xy0_0 ny0_0 cy0_0)).setCell (p := ⟨w.heap.size + 1, 1, none⟩) (by show w.heap.size ≤ w.heap.size + 1; omega) (.slice xy1_0 ny1_0 cy1_0))
  have Z0 := Lib.hid (Kd.Own.set (g := w.heap.size + 1) (i := 1) (u := .slice xy1_0 ny1_0 cy1_0) (Kd.Own.set (g := w.heap.size + 1) (i := 0) (u := .slice xy0_0 ny0_0 cy0_0) (Kd.Own.set (g := w.heap.size + 1 + 1) (i := 1) (u := .slice xy1_0 ny1_0 cy1_0) O0.out (by omega)) (by omega)) (by omega))
  have Z1 := Lib.hid (Kd.Own.set (g := w.heap.size + 1) (i := 1) (u := .slice xy1_0 ny1_0 cy1_0) (Kd.Own.set (g := w.heap.size + 1) (i := 0) (u := .slice xy0_0 ny0_0 cy0_0) (Kd.Own.set (g := w.heap.size + 1 + 1) (i := 1) (u := .slice xy1_0 ny1_0 cy1_0) O1.out (by omega)) (by omega)) (by omega))
  go_wp2_with fail
  refine bodyPost_ret (Ret.results_c rfl _ _ (w.heap.size + 1) [.slice xy0_0 ny0_0 cy0_0, .slice xy1_0 ny1_0 cy1_0] rfl aggRl Z.out.cells) rfl ?_
  have hval : kRl.val (m0, m1) = .agg #[.slice xy0_0 ny0_0 cy0_0, .slice xy1_0 ny1_0 cy1_0] := by
    show Value.agg ((kN.cells m0 ++ (kN.cells m1))).toArray = _
    rw [D0.out, D1.out]
    rfl
  have hstr : kRl.strip (m0, m1) = (l0, l1) := Prod.ext R0.out (R1.out)
  refine ⟨_, rfl, ?_, ZB.out⟩
  rw [← hval, ← hstr]
  refine Kd.Own.in ?_
  exact (Kd.Own.pair (C := w1.heap.size) (Z0.out.mono (by omega) (by omega)) (Z1.out.mono (by omega) (by simp only [World.size_setCell]; omega)) (by omega) (by simp only [World.size_setCell]; omega))
set_option maxHeartbeats 4000000 in
theorem eqRuleK (V U : Value) (x y : Rlt) (w : World) (q : Bool) (hq : decide (x = y) = q) (h : kRl.At w V x) (g : kRl.At w U y) (hp : adRl x ≤ 100000000) (hy : adRl y ≤ 100000000) :
    Calls Tryz.prog 171 #[V, U] w fun e w' => e = .returned (.bool q) ∧ Below w.heap.size w w' := by
  obtain ⟨x0_0, n0_0, c0_0, x1_0, n1_0, c1_0, rfl, g0, g1⟩ := kRl_at h
  obtain ⟨l0, l1⟩ := x
  obtain ⟨xy0_0, ny0_0, cy0_0, xy1_0, ny1_0, cy1_0, rfl, gy0, gy1⟩ := kRl_at g
  obtain ⟨ly0, ly1⟩ := y
  have hp9 : l0.length + l1.length ≤ 100000000 := hp
  have hy9 : ly0.length + ly1.length ≤ 100000000 := hy
  have hb0 := (Below.refl w.heap.size w).alloc (Nat.le_refl _) (.cells #[.slice x0_0 n0_0 c0_0, .slice x1_0 n1_0 c1_0] 168)
  have HB := Lib.hid (hb0.alloc (by simp) (.cells #[.slice xy0_0 ny0_0 cy0_0, .slice xy1_0 ny1_0 cy1_0] 168))
  have HX := Lib.hid ((Ret.Blk.new w #[.slice x0_0 n0_0 c0_0, .slice x1_0 n1_0 c1_0] 168).on ((Below.refl _ _).alloc (Nat.le_refl _) (.cells #[.slice xy0_0 ny0_0 cy0_0, .slice xy1_0 ny1_0 cy1_0] 168)))
  have HY := Lib.hid (Ret.Blk.new' (w := w.alloc (.cells #[.slice x0_0 n0_0 c0_0, .slice x1_0 n1_0 c1_0] 168)) (n := w.heap.size + 1) #[.slice xy0_0 ny0_0 cy0_0, .slice xy1_0 ny1_0 cy1_0] 168 (by simp))
  have HQ := Lib.hid hq
  have G0 := Lib.hid g0; have Gy0 := Lib.hid gy0
  have G1 := Lib.hid g1; have Gy1 := Lib.hid gy1
  dsimp only at G0 Gy0 G1 Gy1 ⊢
  clear h g hq hp hy hb0 g0 gy0 g1 gy1
  go_enter Tryz.func171, Tryz.ntmps171
  go_wp2_with fail
  by_cases e0 : l0 = ly0
  · refine (eqPtK _ _ l0 ly0 _ true (decide_eq_true e0) (G0.out.on HB.out) (Gy0.out.on HB.out) (by omega) (by omega)).mono ?_
    rintro e w1 ⟨rfl, hb⟩
    replace HX := Lib.hid (HX.out.on hb); replace HY := Lib.hid (HY.out.on hb)
    replace HB := Lib.hid (HB.out.trans (hb.mono HB.out.size)); clear hb
    have q0 : w1.cell? ⟨w.heap.size, 0, none⟩ = some (.slice x0_0 n0_0 c0_0) := HX.out.cell 0
    have q1 : w1.cell? ⟨w.heap.size, 1, none⟩ = some (.slice x1_0 n1_0 c1_0) := HX.out.cell 1
    have p0 : w1.cell? ⟨w.heap.size + 1, 0, none⟩ = some (.slice xy0_0 ny0_0 cy0_0) := HY.out.cell 0
    have p1 : w1.cell? ⟨w.heap.size + 1, 1, none⟩ = some (.slice xy1_0 ny1_0 cy1_0) := HY.out.cell 1
    go_wp2_with fail
    clear q0 q1 p0 p1
    by_cases e1 : l1 = ly1
    · refine (eqPtK _ _ l1 ly1 _ true (decide_eq_true e1) (G1.out.on HB.out) (Gy1.out.on HB.out) (by omega) (by omega)).mono ?_
      rintro e w2 ⟨rfl, hb⟩
      replace HX := Lib.hid (HX.out.on hb); replace HY := Lib.hid (HY.out.on hb)
      replace HB := Lib.hid (HB.out.trans (hb.mono HB.out.size)); clear hb
      have q0 : w2.cell? ⟨w.heap.size, 0, none⟩ = some (.slice x0_0 n0_0 c0_0) := HX.out.cell 0
      have q1 : w2.cell? ⟨w.heap.size, 1, none⟩ = some (.slice x1_0 n1_0 c1_0) := HX.out.cell 1
      have p0 : w2.cell? ⟨w.heap.size + 1, 0, none⟩ = some (.slice xy0_0 ny0_0 cy0_0) := HY.out.cell 0
      have p1 : w2.cell? ⟨w.heap.size + 1, 1, none⟩ = some (.slice xy1_0 ny1_0 cy1_0) := HY.out.cell 1
      have HE : Hid (q = true) := Lib.hid (by rw [← HQ.out]; simp [e0, e1])
      clear e0 e1
      go_wp2
      go_ret
      exact ⟨ret_bool HE.out.symm, HB.out⟩
    · refine (eqPtK _ _ l1 ly1 _ false (decide_eq_false e1) (G1.out.on HB.out) (Gy1.out.on HB.out) (by omega) (by omega)).mono ?_
      rintro e w2 ⟨rfl, hb⟩
      replace HX := Lib.hid (HX.out.on hb); replace HY := Lib.hid (HY.out.on hb)
      replace HB := Lib.hid (HB.out.trans (hb.mono HB.out.size)); clear hb
      have q0 : w2.cell? ⟨w.heap.size, 0, none⟩ = some (.slice x0_0 n0_0 c0_0) := HX.out.cell 0
      have q1 : w2.cell? ⟨w.heap.size, 1, none⟩ = some (.slice x1_0 n1_0 c1_0) := HX.out.cell 1
      have p0 : w2.cell? ⟨w.heap.size + 1, 0, none⟩ = some (.slice xy0_0 ny0_0 cy0_0) := HY.out.cell 0
      have p1 : w2.cell? ⟨w.heap.size + 1, 1, none⟩ = some (.slice xy1_0 ny1_0 cy1_0) := HY.out.cell 1
      have HE : Hid (q = false) := Lib.hid (by rw [← HQ.out]; simp [e1])
      clear e1
      go_wp2
      go_ret
      exact ⟨ret_bool HE.out.symm, HB.out⟩
  · refine (eqPtK _ _ l0 ly0 _ false (decide_eq_false e0) (G0.out.on HB.out) (Gy0.out.on HB.out) (by omega) (by omega)).mono ?_
    rintro e w1 ⟨rfl, hb⟩
    replace HX := Lib.hid (HX.out.on hb); replace HY := Lib.hid (HY.out.on hb)
    replace HB := Lib.hid (HB.out.trans (hb.mono HB.out.size)); clear hb
    have q0 : w1.cell? ⟨w.heap.size, 0, none⟩ = some (.slice x0_0 n0_0 c0_0) := HX.out.cell 0
    have q1 : w1.cell? ⟨w.heap.size, 1, none⟩ = some (.slice x1_0 n1_0 c1_0) := HX.out.cell 1
    have p0 : w1.cell? ⟨w.heap.size + 1, 0, none⟩ = some (.slice xy0_0 ny0_0 cy0_0) := HY.out.cell 0
    have p1 : w1.cell? ⟨w.heap.size + 1, 1, none⟩ = some (.slice xy1_0 ny1_0 cy1_0) := HY.out.cell 1
    have HE : Hid (q = false) := Lib.hid (by rw [← HQ.out]; simp [e0])
    clear e0
    go_wp2
    go_ret
    exact ⟨ret_bool HE.out.symm, HB.out⟩
/-- It fits, and its numbers are numbers. -/
def inRl (x : Rlt) : Prop := okN x.1 ∧ okN x.2
theorem inRl.ok {x : Rlt} (h : inRl x) : okRl x := ⟨h.1, h.2⟩
theorem opens_Rule : OpensK Tryz.prog kRl 196 inRl := opens_struct Tryz.underlying196 (by kernel_rfl) (opensF_cons (ok := fun (z : List ByteArray) => okN z) (ok' := fun (z : List ByteArray) => okN z) (opens_wrap Tryz.underlying194 rfl (by kernel_rfl) (opens_strs Tryz.underlying30 Tryz.underlying9 (by kernel_rfl))) rfl (by kernel_rfl) (opensF_last (ok := fun (z : List ByteArray) => okN z) (opens_wrap Tryz.underlying194 rfl (by kernel_rfl) (opens_strs Tryz.underlying30 Tryz.underlying9 (by kernel_rfl))) rfl (by kernel_rfl)))

/-! ### in the laws' words -/
theorem adRl_le (x : Rlt) : adRl x ≤ wtRl x := by
  obtain ⟨l0, l1⟩ := x
  have e0 := show l0.length ≤ bulk l0 from bulk_len l0
  have e1 := show l1.length ≤ bulk l1 from bulk_len l1
  unfold adRl wtRl
  dsimp only
  omega
end Go.Proofs.YtcidfmmeonhkhaaGreatDoor.Row
