/- Contracts and mathematics, joined: NameSK, ByK, DataK, DataSK. No conditions but those that each states. -/
import Derived.Test.YtcidfmmeonhkhaaB3
/- Lists of names in the words of kinds: sz, to, eq. No conditions but that lengths fit. -/
namespace Go.Proofs.Ytcidfmmeonhkhaa.Row
open Go.ChangeShapes Go.WideShapes Go.ChangeAt Go.RowKit Go.Instr
set_option linter.unusedVariables false
set_option maxRecDepth 100000

def kLNn : Kd (List Nnt) (Rw Nnm) := kNn.slice 47
theorem szNn_cells : Sz kNn.cells 1 := fun m => kNn.len m
theorem kindNn : Kind Try.prog 47 kNn.cells (.agg #[.slice none 0 0]) 1 24 where
  elem := by unfold ElemK; kernel_rfl
  zs := rfl
  pos := by decide
  size := szNn_cells
  one := fun m u hu => kNn.one m u hu
def okLNn (l : List Nnt) : Prop := l.length ≤ 9223372036854775807 ∧ ∀ x ∈ l, okNn x
section
variable {w : World} {V : Value} {l : List Nnt} {B E : Nat}
theorem kLNn_at (h : kLNn.At w V l) : ∃ ad n cap L, V = .slice ad n cap ∧ n = L.length ∧ L.map kNn.strip = l ∧ HoldsK kNn.cells 1 w (.slice ad n cap) L ∧ ∀ x ∈ L, kNn.holds w x := by
  obtain ⟨⟨ad, n, cap, L⟩, hV, hl, hh, hel⟩ := h
  exact ⟨ad, n, cap, L, hV, HoldsK.lenEq (show HoldsK kNn.cells 1 w (.slice ad n cap) L from hh), hl, hh, hel⟩
theorem kLNn_len {ad : Option Addr} {n cap : Nat} (h : kLNn.At w (.slice ad n cap) l) : n = l.length := by
  obtain ⟨ad', n', cap', L, hV, hn, rfl, -, -⟩ := kLNn_at h
  cases hV
  simp [hn]
theorem kLNn_shapeA (h : kLNn.At w V l) : ∃ x n c, V = .slice x n c ∧ kLNn.At w (.slice x n c) l := by
  obtain ⟨ad, n, cap, L, rfl, -⟩ := kLNn_at h
  exact ⟨ad, n, cap, rfl, h⟩
/-- The element at place j: its cells, what it reads as. -/
theorem kLNn_elem {x : Option Addr} {n cap : Nat} {L : List Nnm} (h : HoldsK kNn.cells 1 w (.slice x n cap) L) (hel : ∀ y ∈ L, kNn.holds w y) {j : Nat} (hj : j < L.length) :
    ∃ (b off : Nat) (x0 : Option Addr) (n0 c0 : Nat), x = some ⟨b, off, none⟩ ∧ kNn.cells (nth L j) = [.slice x0 n0 c0] ∧ w.cell? ⟨b, off + j, none⟩ = some (.slice x0 n0 c0) ∧ kNn.At w (.agg #[.slice x0 n0 c0]) (kNn.strip (nth L j)) := by
  obtain ⟨b, off, hx, hc⟩ := h.at szNn_cells hj
  obtain ⟨x0, n0, c0, e, ha⟩ := kNn_shapeA (Kd.at_of (k := kNn) (hel _ (nth_mem hj)))
  have d : kNn.cells (nth L j) = [.slice x0 n0 c0] := by injection e with e; exact congrArg Array.toList e
  rw [d] at hc
  exact ⟨b, off, x0, n0, c0, hx, d, by have := hc 0 (by decide); simpa [Nat.add_assoc] using this, ha⟩
end

set_option maxHeartbeats 4000000 in
theorem szNameSK (V : Value) (l : List Nnt) (w : World) (left : Int) (h : kLNn.At w V l) (hp : okLNn l) (h0 : 0 ≤ left) (h1 : left ≤ 1048576) :
    Calls Try.prog 36 #[V, .int .i64 left] w fun e w' => e = .returned (.int .i64 (szW (bulkK wtNn l) left)) ∧ Below w.heap.size w w' := by
  obtain ⟨ad, n, cap, L, rfl, hn, hl, hh, hel⟩ := kLNn_at h
  have hle := bulkKTo_le wtNn l
  have hb0 := bulkKTo_zero wtNn l
  have hlen : l.length = n := by rw [← hl, List.length_map]; exact hn.symm
  obtain ⟨p0, hs⟩ := hp
  rw [hlen] at p0 hb0
  by_cases hbig : left < (n : Int)
  · have hS : szW (bulkK wtNn l) left = -1 := szW_not (by have := bulkK_len wtNn l; omega)
    rw [hS]
    clear hh h hs hle hn hb0 hS hl hlen hel
    go_enter Try.func36, Try.ntmps36
    go_wp2
    go_ret
    exact ⟨rfl, Below.refl _ _⟩
  have HN := Lib.hid hn; have HT := Lib.hid hl; have HH := Lib.hid hh; have HEL := Lib.hid hel; have HS := Lib.hid hs; have HLE := Lib.hid hle; have HB0 := Lib.hid hb0; have HLEN := Lib.hid hlen
  clear hn h hh hs hle hb0 hl hlen hel
  go_enter Try.func36, Try.ntmps36
  go_wp2
  go_loopw [1, 5] (fun lv i wr => ∃ k : Nat, k ≤ n ∧ i = .int .i64 k ∧ ∃ u : Int, lv = .int .i64 u ∧ u = left - bulkKTo wtNn l k ∧ 0 ≤ u ∧ Hid (Below w.heap.size w wr)) (fun _ i _ => n - (intOf i).toNat)
  case atStart => exact ⟨0, Nat.zero_le _, rfl, _, rfl, by rw [HB0.out], by omega, Lib.hid (Below.refl _ _)⟩
  case round =>
    obtain ⟨k, hk, rfl, u, rfl, hu, h0u, hb⟩ := hrel
    have hub : u ≤ left := by omega
    have HU := Lib.hid hu
    clear hu
    by_cases hlt : k < n
    · have hlen := HN.out
      obtain ⟨b, off, x0, n0, c0, rfl, -, hc0, ha⟩ := kLNn_elem (HH.out.on hb.out) (fun y hy => kNn.holds_on (HEL.out y hy) hb.out) (j := k) (by omega)
      have hpt : nth l k = kNn.strip (nth L k) := by rw [← HT.out, nth_map _ (by omega)]
      have hsz := HS.out (nth l k) (nth_mem (by have := HLEN.out; omega))
      rw [hpt] at hsz
      have HA := Lib.hid ha
      have HSZ := Lib.hid hsz
      have hstep := Lib.hid (bulkKTo_succ wtNn l (j := k) (by have := HLEN.out; omega))
      rw [hpt] at hstep
      have HALL := Lib.hid (HLE.out (k + 1))
      clear hlen hsz hpt ha
      go_wp2_with fail
      refine (szNameK _ _ wr u HA.out HSZ.out h0u (by omega)).mono ?_
      rintro e w1 ⟨rfl, hb1⟩
      have HB1 := Lib.hid (hb.out.trans (hb1.mono hb.out.size))
      clear hb1 hc0
      by_cases c1 : (wtNn (kNn.strip (nth L k)) : Int) ≤ u
      · rw [szW_fit c1]
        have h2 : ¬ u - (wtNn (kNn.strip (nth L k)) : Int) < 0 := by omega
        go_wp2
        go_roundw
        case rel => exact ⟨k + 1, by omega, by go_num, _, rfl, by rw [hstep.out, HU.out]; omega, by omega, HB1⟩
        case measure => simp [intOf]; omega
      · rw [szW_not c1]
        have HZ : Hid (szW (bulkK wtNn l) left = -1) := by
          have e1 := HALL.out; have e2 := HU.out; have e3 := hstep.out
          exact Lib.hid (szW_not (by omega))
        clear c1
        go_wp2
        go_ret
        exact ⟨ret_int HZ.out.symm, HB1.out⟩
    · obtain rfl : k = n := by omega
      clear hlt
      go_wp2
      go_ret
      refine ⟨ret_int ?_, hb.out⟩
      have := HU.out
      rw [← HLEN.out] at this
      rw [szW_fit (by unfold bulkK; omega)]
      exact this

set_option maxHeartbeats 4000000 in
theorem toNameSK (V : Value) (l : List Nnt) (w : World) (h : kLNn.At w V l) (hl : l.length ≤ 100000000) (hs : ∀ x ∈ l, adNn x ≤ 100000000) :
    Calls Try.prog 43 #[V] w fun e w' => ∃ U, e = .returned U ∧ kLNn.In w.heap.size w'.heap.size w' U l ∧ Below w.heap.size w w' := by
  obtain ⟨ad, n, cap, L, rfl, hn, ht, hh, hel⟩ := kLNn_at h
  obtain ⟨i0, hi, hz0, hz1, hz2⟩ := info_parts kindNn.elem
  have hlen : l.length = n := by rw [← ht, List.length_map]; exact hn.symm
  rw [hlen] at hl
  have HN := Lib.hid hn; have HT := Lib.hid ht; have HH := Lib.hid hh; have HEL := Lib.hid hel; have HS := Lib.hid hs; have HLEN := Lib.hid hlen
  have HI := Lib.hid hi; have HZ0 := Lib.hid hz0; have HZ1 := Lib.hid hz1; have HZ2 := Lib.hid hz2
  clear hn h hh hi hz0 hz1 hz2 hs ht hel hlen
  go_enter Try.func43, Try.ntmps43
  go_wp2_with (at_make; refine wpList_make_full _ rfl _ _ 32 rfl w.heap.size 47 i0 (.agg #[.slice none 0 0]) 1 Try.underlying32 HI.out HZ0.out HZ1.out _ _ _ _ n rfl rfl rfl rfl (by rw [HZ2.out]; omega) (by unfold maxLen; omega) (Nat.le_refl _) ?_)
  intro w1 hown hgrow
  have ho : OwnK 47 kNn.cells 1 w.heap.size w1 (.slice (some ⟨w.heap.size, 0, none⟩) n n) (madeK' [] n) := by
    have e1 : madeK' ([] : List Nnm) n = List.replicate n default := by simp [madeK']
    rw [e1]
    unfold OwnK
    rw [List.length_replicate, ← madeK szNn_cells (by decide) (z := .agg #[.slice none 0 0]) rfl n]
    first | exact hown | (simp only [Nat.mul_one]; exact hown)
  have HO := Lib.hid ho
  have HB := Lib.hid ((Below.refl w.heap.size w).grown hgrow (Nat.le_refl _) (fun g hg => by cases hg))
  have HG := Lib.hid (show w.heap.size < w1.heap.size from (OwnK.lt ho _ rfl).2)
  clear ho hown hgrow
  go_wp2
  go_loopw [4] (fun i wr => ∃ j : Nat, j ≤ n ∧ i = .int .i64 j ∧ ∃ M : List Nnm, Hid (M.length = j) ∧ Hid (M.map kNn.strip = l.take j) ∧ Hid (OwnK 47 kNn.cells 1 w.heap.size wr (.slice (some ⟨w.heap.size, 0, none⟩) n n) (madeK' M n)) ∧ Hid (kNn.EOwn (w.heap.size + 1) wr.heap.size wr M) ∧ Hid (Below w.heap.size w wr)) (fun i _ => n - (intOf i).toNat)
  case atStart => exact ⟨0, Nat.zero_le _, rfl, [], Lib.hid rfl, Lib.hid (by simp), HO, Lib.hid (Kd.EOwn.nil _ _ _ _), HB⟩
  case round =>
    obtain ⟨j, hj, rfl, M, hM, hst, ho, he, hb⟩ := hrel
    by_cases hlt : j < n
    · have hlen := HN.out
      obtain ⟨b, off, x0, n0, c0, rfl, -, hc0, ha⟩ := kLNn_elem (HH.out.on hb.out) (fun y hy => kNn.holds_on (HEL.out y hy) hb.out) (j := j) (by omega)
      have HA := Lib.hid ha
      have hpt : nth l j = kNn.strip (nth L j) := by rw [← HT.out, nth_map _ (by omega)]
      have hps := HS.out (nth l j) (nth_mem (by have := HLEN.out; omega))
      rw [hpt] at hps
      have HPS := Lib.hid hps
      have HST := Lib.hid (show l.take (j + 1) = l.take j ++ [kNn.strip (nth L j)] by rw [← HT.out]; exact take_map_succ _ (by omega))
      clear hlen ha hpt hps
      go_wp2_with fail
      refine (toNameK _ _ wr HA.out HPS.out).mono ?_
      rintro e w1 ⟨U, rfl, hi1, hb1⟩
      obtain ⟨m1, rfl, hm1, hi1⟩ := hi1.split
      obtain ⟨xy0, ny0, cy0, ey, -⟩ := kNn_shapeA (Kd.at_of (k := kNn) hi1.holds)
      have dy : kNn.cells m1 = [.slice xy0 ny0 cy0] := by injection ey with e; exact congrArg Array.toList e
      rw [ey]
      have HO1 := Lib.hid (ho.out.on hb1)
      have HE1 := Lib.hid (he.out.on hb1 (Nat.le_refl _))
      have HX := Lib.hid hi1
      have HB1 := Lib.hid (hb.out.trans (hb1.mono hb.out.size))
      have HSZ := Lib.hid hb1.size
      have HDY := Lib.hid dy
      have HM1 := Lib.hid hm1
      have hml : n = (madeK' M n).length := (madeK'_length (by have := hM.out; omega)).symm
      have hmj : j < (madeK' M n).length := by omega
      have hgl := (OwnK.lt HO1.out _ rfl).2
      have hgr := (OwnK.lt ho.out _ rfl).2
      obtain ⟨k0, f0⟩ := ownK_cell szNn_cells HO1.out hml hmj (i := 0) (by decide)
      obtain ⟨z0, hz0⟩ : ∃ z, w1.cell? ⟨w.heap.size, j, none⟩ = some z := ⟨_, by simpa [Nat.add_zero] using (k0.trans (List.getElem?_eq_getElem (by rw [kNn.len]; decide)))⟩
      have g0 : w1.frozen? ⟨w.heap.size, j, none⟩ = false := by simpa using f0
      clear k0 f0
      have p1 := ownK_put szNn_cells HO1.out hml hmj m1
      have p2 := setCells_grown w.heap.size (kNn.cells m1) (j) w1
      simp only [Nat.mul_one] at p1 p2
      rw [dy] at p1 p2
      have HP1 := Lib.hid (show OwnK 47 kNn.cells 1 w.heap.size (w1.setCell ⟨w.heap.size, j, none⟩ (.slice xy0 ny0 cy0)) _ _ from p1)
      have HP2 := Lib.hid (show w1.grownBy (w1.setCell ⟨w.heap.size, j, none⟩ (.slice xy0 ny0 cy0)) (some w.heap.size) from p2)
      have HGL := Lib.hid hgl; have HGR := Lib.hid hgr
      clear hc0 hi1 hb1 hml hmj p1 p2 dy ey hm1 hgl hgr
      go_wp2
      go_roundw
      case rel =>
        refine ⟨j + 1, by omega, by go_num, M ++ [m1], Lib.hid (by simp [hM.out]), Lib.hid ?_, Lib.hid ?_, Lib.hid ?_, Lib.hid (HB1.out.grown HP2.out HB1.out.size (fun g hg => by cases hg; exact Nat.le_refl _))⟩
        · rw [List.map_append, hst.out, HST.out, List.map_cons, List.map_nil, HM1.out]
        · rw [← madeK'_step (by have := hM.out; omega), hM.out]; exact HP1.out
        · have h7 := HP2.out.size
          have h8 := HGR.out
          have h9 := HSZ.out
          exact ((HE1.out.snoc HX.out (by omega) (by omega)).grown HP2.out (by omega) (Nat.le_refl _)).keep (fun _ _ _ => rfl) |> fun h => ⟨h.1, h.2.1, fun g hg => ⟨(h.2.2 g hg).1, Nat.lt_of_lt_of_le (h.2.2 g hg).2 h7⟩⟩
      case measure => simp [intOf]; omega
    · obtain rfl : j = n := by omega
      clear hlt
      go_wp2
      go_ret
      refine ⟨_, rfl, ?_, hb.out⟩
      have h1 := ho.out
      rw [madeK'_all hM.out] at h1
      have h2 : M.map kNn.strip = l := by rw [hst.out, List.take_of_length_le (by rw [HLEN.out]; omega)]
      have h3 := (he.out.slice h1 (OwnK.lt h1 _ rfl).2).in
      rw [← h2]
      exact h3

theorem eqNameSK_len (x y : Option Addr) (n m cx cy : Nat) (w : World) (h : (((n : Nat) : Int) != ((m : Nat) : Int)) = true) :
    Calls Try.prog 50 #[.slice x n cx, .slice y m cy] w fun e w' => e = .returned (.bool false) ∧ w = w' := by
  go_enter Try.func50, Try.ntmps50
  go_wp2
  go_ret
  exact ⟨rfl, rfl⟩
set_option maxHeartbeats 4000000 in
theorem eqNameSK (V U : Value) (l m : List Nnt) (w : World) (q : Bool) (hq : decide (l = m) = q) (h : kLNn.At w V l) (g : kLNn.At w U m) (hl : l.length ≤ 100000000) (hm : m.length ≤ 100000000) (hsl : ∀ x ∈ l, adNn x ≤ 100000000) (hsm : ∀ x ∈ m, adNn x ≤ 100000000) :
    Calls Try.prog 50 #[V, U] w fun e w' => e = .returned (.bool q) ∧ Below w.heap.size w w' := by
  obtain ⟨x, n, cx, L, rfl, hn, hL, hh, hel⟩ := kLNn_at h
  obtain ⟨y, n2, cy, M, rfl, hn2, hM, hg, hem⟩ := kLNn_at g
  have hnl : l.length = n := by rw [← hL, List.length_map]; exact hn.symm
  have hnm : m.length = n2 := by rw [← hM, List.length_map]; exact hn2.symm
  by_cases he : n = n2
  · subst he
    rw [hnl] at hl
    have HN := Lib.hid hn; have HM := Lib.hid hn2; have HNL := Lib.hid hnl; have HNM9 := Lib.hid hnm
    have HH := Lib.hid hh; have HG := Lib.hid hg; have HEL := Lib.hid hel; have HEM := Lib.hid hem
    have HTL := Lib.hid hL; have HTM := Lib.hid hM; have HQ := Lib.hid hq; have HSL := Lib.hid hsl; have HSM := Lib.hid hsm
    have htest : (((n : Nat) : Int) != ((n : Nat) : Int)) = false := by simp
    clear hn h hh g hg hn2 hL hM hq hsl hsm hel hem hnl hnm hm
    go_enter Try.func50, Try.ntmps50
    go_wp2
    go_loopw [5] (fun i wr => ∃ k : Nat, k ≤ n ∧ i = .int .i64 k ∧ Hid (agree l m k) ∧ Hid (Below w.heap.size w wr)) (fun i _ => n - (intOf i).toNat)
    case atStart => exact ⟨0, Nat.zero_le _, rfl, Lib.hid (agree_zero _ _), Lib.hid (Below.refl _ _)⟩
    case round =>
      obtain ⟨k, hk, rfl, ha, hb⟩ := hrel
      by_cases hlt : k < n
      · have hlen := HN.out
        have hlen2 := HM.out
        obtain ⟨b, off, x0, n0, c0, rfl, -, hc0, hnm⟩ := kLNn_elem (HH.out.on hb.out) (fun y hy => kNn.holds_on (HEL.out y hy) hb.out) (j := k) (by omega)
        obtain ⟨b', off', xy0, ny0, cy0, rfl, -, hd0, hnm'⟩ := kLNn_elem (HG.out.on hb.out) (fun y hy => kNn.holds_on (HEM.out y hy) hb.out) (j := k) (by omega)
        have e1 : nth l k = kNn.strip (nth L k) := by rw [← HTL.out, nth_map _ (by omega)]
        have e2 : nth m k = kNn.strip (nth M k) := by rw [← HTM.out, nth_map _ (by omega)]
        have hl1 := HSL.out (nth l k) (nth_mem (by have := HNL.out; omega)); rw [e1] at hl1
        have hl2 := HSM.out (nth m k) (nth_mem (by have := HNM9.out; omega)); rw [e2] at hl2
        have HL := Lib.hid hl1; have HL' := Lib.hid hl2
        have HC0 := Lib.hid hc0; have HD0 := Lib.hid hd0
        have HNM := Lib.hid hnm; have HNM' := Lib.hid hnm'
        by_cases hq : kNn.strip (nth L k) = kNn.strip (nth M k)
        · have HE1 : Hid (decide (kNn.strip (nth L k) = kNn.strip (nth M k)) = true) := Lib.hid (decide_eq_true hq)
          have HA := Lib.hid (agree_succ ha.out (by rw [e1, e2, hq]))
          clear hq hlen hlen2 e1 e2 hc0 hd0 hnm hnm' hl1 hl2
          go_wp2_with fail
          go_region_held3 (fun w' => w'.cell? ⟨b, off + k, none⟩ = some (.slice x0 n0 c0) ∧ w'.cell? ⟨b', off' + k, none⟩ = some (.slice xy0 ny0 cy0) ∧ Below w.heap.size w w') (first | exact ⟨kc HC0.out ((Below.refl _ _).drew), kc HD0.out ((Below.refl _ _).drew), hb.out.trans (Below.mono ((Below.refl _ _).drew) hb.out.size)⟩ | exact ⟨kc HC0.out (hb1.mono (Nat.le_refl _)), kc HD0.out (hb1.mono (Nat.le_refl _)), hb.out.trans (Below.mono (hb1.mono (Nat.le_refl _)) hb.out.size)⟩ | exact ⟨kc HC0.out ((Below.refl _ _).drew.trans (hb1.mono (Nat.le_refl _))), kc HD0.out ((Below.refl _ _).drew.trans (hb1.mono (Nat.le_refl _))), hb.out.trans (Below.mono ((Below.refl _ _).drew.trans (hb1.mono (Nat.le_refl _))) hb.out.size)⟩) ((go_at_call 21; refine (eqNameK _ _ _ _ _ _ HE1.out (HNM.out.on (Below.refl _ _).drew) (HNM'.out.on (Below.refl _ _).drew) HL.out HL'.out).mono ?_; rintro e w1 ⟨rfl, hb1⟩))
          all_goals
            have HB2 := Lib.hid (hb.out.drew.trans (hb1.mono hb.out.size))
            clear hb1
            go_wp2_with fail
            go_roundw
            case rel => exact ⟨k + 1, by omega, by go_num, HA, HB2⟩
            case measure => simp [intOf]; omega
        · have HE1 : Hid (decide (kNn.strip (nth L k) = kNn.strip (nth M k)) = false) := Lib.hid (decide_eq_false hq)
          have HA : Hid (q = false) := Lib.hid (by rw [← HQ.out]; exact decide_eq_false (differ_K (k := k) (by rw [e1, e2]; exact hq)))
          clear hq hlen hlen2 e1 e2 hc0 hd0 hnm hnm' hl1 hl2
          go_wp2_with fail
          go_region_held3 (fun w' => w'.cell? ⟨b, off + k, none⟩ = some (.slice x0 n0 c0) ∧ w'.cell? ⟨b', off' + k, none⟩ = some (.slice xy0 ny0 cy0) ∧ Below w.heap.size w w') (first | exact ⟨kc HC0.out ((Below.refl _ _).drew), kc HD0.out ((Below.refl _ _).drew), hb.out.trans (Below.mono ((Below.refl _ _).drew) hb.out.size)⟩ | exact ⟨kc HC0.out (hb1.mono (Nat.le_refl _)), kc HD0.out (hb1.mono (Nat.le_refl _)), hb.out.trans (Below.mono (hb1.mono (Nat.le_refl _)) hb.out.size)⟩ | exact ⟨kc HC0.out ((Below.refl _ _).drew.trans (hb1.mono (Nat.le_refl _))), kc HD0.out ((Below.refl _ _).drew.trans (hb1.mono (Nat.le_refl _))), hb.out.trans (Below.mono ((Below.refl _ _).drew.trans (hb1.mono (Nat.le_refl _))) hb.out.size)⟩) ((go_at_call 21; refine (eqNameK _ _ _ _ _ _ HE1.out (HNM.out.on (Below.refl _ _).drew) (HNM'.out.on (Below.refl _ _).drew) HL.out HL'.out).mono ?_; rintro e w1 ⟨rfl, hb1⟩))
          all_goals
            have HB2 := Lib.hid (hb.out.drew.trans (hb1.mono hb.out.size))
            clear hb1
            go_wp2_with fail
            go_ret
            exact ⟨ret_bool HA.out.symm, HB2.out⟩
      · obtain rfl : k = n := by omega
        have HD : Hid (q = true) := Lib.hid (by rw [← HQ.out]; exact decide_eq_true (agree_all (by rw [HNL.out, HNM9.out]) (by rw [HNL.out]; exact ha.out)))
        clear hlt
        go_wp2
        go_ret
        exact ⟨ret_bool HD.out.symm, hb.out⟩
  · have htest : (((n : Nat) : Int) != ((n2 : Nat) : Int)) = true := by
      rw [bne_iff_ne]; omega
    have hf : q = false := by rw [← hq]; exact decide_eq_false (fun e => he (by rw [← hnl, ← hnm, e]))
    rw [hf]
    exact (eqNameSK_len x y _ _ cx cy w htest).mono fun e w' ⟨h1, h2⟩ => ⟨h1, by subst h2; exact Below.refl _ _⟩
def inLNn (l : List Nnt) : Prop := l.length ≤ 9223372036854775807 ∧ ∀ x ∈ l, inNn x
theorem inLNn.ok {l : List Nnt} (h : inLNn l) : okLNn l := ⟨h.1, fun x hx => (h.2 x hx).ok⟩
def adLNn (l : List Nnt) : Nat := bulkK adNn l
theorem toLNnK (V : Value) (l : List Nnt) (w : World) (h : kLNn.At w V l) (hl : adLNn l ≤ 100000000) :
    Calls Try.prog 43 #[V] w fun e w' => ∃ U, e = .returned U ∧ kLNn.In w.heap.size w'.heap.size w' U l ∧ Below w.heap.size w w' :=
  toNameSK V l w h (Nat.le_trans (bulkK_len _ _) hl) (fun x hx => Nat.le_trans (bulkK_mem hx) hl)
/-! ### as a field of a struct (kstruct.py's LIST) -/
theorem szNameSF (V : Value) (l : List Nnt) (w : World) (left : Int) (h : kLNn.At w V l) (hp : okLNn l) (h0 : 0 ≤ left) (h1 : left ≤ 1048576) :
    Calls Try.prog 36 #[V, .int .i64 left] w fun e w' => e = .returned (.int .i64 (szW (bulkK wtNn l) left)) ∧ Below w.heap.size w w' := szNameSK V l w left h hp h0 h1
theorem toNameSF (V : Value) (l : List Nnt) (w : World) (h : kLNn.At w V l) (hl : bulkK adNn l ≤ 100000000) :
    Calls Try.prog 43 #[V] w fun e w' => ∃ U, e = .returned U ∧ kLNn.In w.heap.size w'.heap.size w' U l ∧ Below w.heap.size w w' := toLNnK V l w h hl
theorem eqNameSF (V U : Value) (l m : List Nnt) (w : World) (q : Bool) (hq : decide (l = m) = q) (h : kLNn.At w V l) (g : kLNn.At w U m) (hl : bulkK adNn l ≤ 100000000) (hm : bulkK adNn m ≤ 100000000) :
    Calls Try.prog 50 #[V, U] w fun e w' => e = .returned (.bool q) ∧ Below w.heap.size w w' :=
  eqNameSK V U l m w q hq h g (Nat.le_trans (bulkK_len _ _) hl) (Nat.le_trans (bulkK_len _ _) hm) (fun x hx => Nat.le_trans (bulkK_mem hx) hl) (fun x hx => Nat.le_trans (bulkK_mem hx) hm)
theorem opens_NameS : OpensK Try.prog kLNn 24 inLNn := opens_slice Try.underlying24 (by kernel_rfl) (by decide) opens_Name
end Go.Proofs.Ytcidfmmeonhkhaa.Row
/- Slices of bytes in the words of kinds: sz, to, eq, mark, held. No conditions but that lengths fit. -/
namespace Go.Proofs.Ytcidfmmeonhkhaa.Row
open Go.ChangeShapes Go.WideShapes Go.ChangeAt Go.RowKit Go.Instr
set_option linter.unusedVariables false
set_option maxRecDepth 100000

def okB (l : List Int) : Prop := l.length ≤ 9223372036854775807
theorem szByK (V : Value) (l : List Int) (w : World) (left : Int) (h : kB.At w V l) (hp : okB l) (h0 : 0 ≤ left) (h1 : left ≤ 1048576) :
    Calls Try.prog 112 #[V, .int .i64 left] w fun e w' => e = .returned (.int .i64 (szW l.length left)) ∧ Below w.heap.size w w' := by
  obtain ⟨x, n, cap, rfl, h⟩ := kB_shapeA h
  obtain rfl : n = l.length := (kS_at h).lenEq
  have hn : l.length ≤ 9223372036854775807 := hp
  clear h hp
  by_cases h : (l.length : Int) ≤ left
  · rw [szW_fit h]
    have h2 : ¬ left - (l.length : Int) < 0 := by omega
    go_enter Try.func112, Try.ntmps112
    go_wp2
    go_ret
    exact ⟨rfl, Below.refl _ _⟩
  · rw [szW_not h]
    have h2 : left - (l.length : Int) < 0 := by omega
    go_enter Try.func112, Try.ntmps112
    go_wp2
    go_ret
    exact ⟨rfl, Below.refl _ _⟩
theorem toByK (V : Value) (l : List Int) (w : World) (h : kB.At w V l) (hl : l.length ≤ 100000000) :
    Calls Try.prog 118 #[V] w fun e w' => ∃ U, e = .returned U ∧ kB.In w.heap.size w'.heap.size w' U l ∧ Below w.heap.size w w' := toB V l w h hl
theorem eqByK (V U : Value) (l m : List Int) (w : World) (q : Bool) (hq : decide (l = m) = q) (h : kB.At w V l) (g : kB.At w U m) (hl : l.length ≤ 100000000) (hm : m.length ≤ 100000000) :
    Calls Try.prog 19 #[V, U] w fun e w' => e = .returned (.bool q) ∧ Below w.heap.size w w' := by
  subst hq
  exact Sl.eqByteS V U l m w (kS_at h) (kS_at g) hl hm
theorem open_bytesK {H : Type} {enc : TypeId × Value → H} {P : Program} {w : World} {b2 n : Nat} {held : Bool} {e s : TypeId} {cs : List Value} {y0 : DataW H × List MemPlace} (he : P.underlying e = some (.slice s)) (hs : P.underlying s = some (.int .u8)) (hcs : P.cellsOf s = 1)
    (h0 : DataW.trod enc P w b2 (fun _ => true) held n e cs = some y0) : ∃ (ad : Option Addr) (k c : Nat) (l : List Int), cs = [.slice ad k c] ∧ Sl.Holds .u8 w (.slice ad k c) l ∧ (∀ x ∈ l, (Lit.int .u8 x).wf = true) ∧ l.length ≤ 9223372036854775807 := by
  have hmx : maxLen = 9223372036854775807 := rfl
  rcases open_ints he hs hcs h0 with ⟨hc, hx⟩ | ⟨a, len', cap', zs, hc, hb, hl, hm, hn, hx, hcell, hwz⟩
  · exact ⟨none, 0, 0, [], hc, Sl.Holds.nil _ _, by simp, by simp⟩
  · simp only [if_true] at hn
    have hlen : (zs.take len').length = len' := by rw [List.length_take]; omega
    refine ⟨some a, len', cap', zs.take len', hc, ⟨some a, cap', by rw [hlen], by rw [hlen]; exact hl, ?_⟩, fun n hnn => hwz n (List.mem_of_mem_take hnn), by rw [hlen, ← hmx]; exact Nat.le_trans hl hm⟩
    by_cases h0 : len' = 0
    · left; subst h0; simp
    · right
      obtain ⟨b, off, spot⟩ := a
      have h1 := hcell 0 (by omega)
      have hs : spot = none := by simpa [Addr.add] using World.cell?_spot h1
      subst hs
      refine ⟨b, off, rfl, fun i hi => ?_⟩
      rw [hlen] at hi
      have h2 := hcell i (by omega)
      rw [Go.WideShapes.add_plain] at h2
      rw [h2]
      simp only [Sl.nth, List.getD, List.getElem?_take, if_pos hi]
theorem opens_bytes {P : Program} {t s : TypeId} (ht : P.underlying t = some (.slice s)) (hs : P.underlying s = some (.int .u8)) (hc : P.cellsOf s = 1) : OpensK P kB t (fun l => okB l ∧ ∀ y ∈ l, (Lit.int .u8 y).wf = true) := by
  intro H enc w b2 held n cs y hy
  obtain ⟨ad, n, c, l, e1, hh, hz, hl⟩ := open_bytesK ht hs hc hy
  obtain ⟨m, hv, hst, hm⟩ := kB_of hh
  exact ⟨m, by rw [e1]; exact congrArg (fun z => [z]) hv.symm, hm, by rw [hst]; exact ⟨hl, hz⟩⟩
end Go.Proofs.Ytcidfmmeonhkhaa.Row
/- Data packets in the words of kinds: the kind; sz, to, eq, mark, held. No conditions but that lengths fit. -/
namespace Go.Proofs.Ytcidfmmeonhkhaa.Row
open Go.ChangeShapes Go.WideShapes Go.ChangeAt Go.RowKit Go.Instr
set_option linter.unusedVariables false
set_option maxRecDepth 100000

abbrev Dzt := List ByteArray × List Int × List ByteArray × Int × Int
abbrev Dzm := Rw ByteArray × Rw Int × Rw ByteArray × Int × Int
def kDz : Kd Dzt Dzm := (kN.pair (kB.pair (kN.pair (kInt.pair kInt))))
theorem aggDz : Ret.AggOf Try.prog 61 5 := ⟨by kernel_rfl, by kernel_rfl⟩
def wtDz (x : Dzt) : Nat := bulk x.1 + x.2.1.length + bulk x.2.2.1
def adDz (x : Dzt) : Nat := x.1.length + x.2.1.length + x.2.2.1.length
def okDz (x : Dzt) : Prop := okN x.1 ∧ okB x.2.1 ∧ okN x.2.2.1
def mkDz (k : Int) (x : Dzt) : Dzt := (marks markT (k) x.1.length, Sl.marks .u8 (k + (x.1.length : Nat)) x.2.1.length, marks markT (k + (x.1.length : Nat) + (x.2.1.length : Nat)) x.2.2.1.length, x.2.2.2.1, x.2.2.2.2)
section
variable {w : World} {V : Value} {x : Dzt} {B E : Nat}
theorem kDz_at (h : kDz.At w V x) : ∃ (x0_0 : Option Addr) (n0_0 c0_0 : Nat) (x1_0 : Option Addr) (n1_0 c1_0 : Nat) (x2_0 : Option Addr) (n2_0 c2_0 : Nat), V = .agg #[.slice x0_0 n0_0 c0_0, .slice x1_0 n1_0 c1_0, .slice x2_0 n2_0 c2_0, .int .i64 x.2.2.2.1, .int .i64 x.2.2.2.2] ∧ kN.At w (.agg #[.slice x0_0 n0_0 c0_0]) x.1 ∧ kB.At w (.slice x1_0 n1_0 c1_0) x.2.1 ∧ kN.At w (.agg #[.slice x2_0 n2_0 c2_0]) x.2.2.1 := by
  obtain ⟨⟨m0, m1, m2, m3, m4⟩, rfl, rfl, g0, g1, g2, g3, g4⟩ := h
  obtain ⟨x0_0, n0_0, c0_0, e0, a0⟩ := kN_shapeA (Kd.at_of (k := kN) g0)
  have d0 : kN.cells m0 = [.slice x0_0 n0_0 c0_0] := by injection e0 with e; exact congrArg Array.toList e
  obtain ⟨x1_0, n1_0, c1_0, e1, a1⟩ := kB_shapeA (Kd.at_of (k := kB) g1)
  have d1 : kB.cells m1 = [.slice x1_0 n1_0 c1_0] := by show [kB.val m1] = _; rw [e1]
  obtain ⟨x2_0, n2_0, c2_0, e2, a2⟩ := kN_shapeA (Kd.at_of (k := kN) g2)
  have d2 : kN.cells m2 = [.slice x2_0 n2_0 c2_0] := by injection e2 with e; exact congrArg Array.toList e
  refine ⟨x0_0, n0_0, c0_0, x1_0, n1_0, c1_0, x2_0, n2_0, c2_0, ?_, e0 ▸ Kd.at_of (k := kN) g0, e1 ▸ Kd.at_of (k := kB) g1, e2 ▸ Kd.at_of (k := kN) g2⟩
  show Value.agg ((kN.cells m0 ++ (kB.cells m1 ++ (kN.cells m2 ++ (kInt.cells m3 ++ (kInt.cells m4)))))).toArray = _
  rw [d0, d1, d2]
  rfl
theorem kDz_shapeA (h : kDz.At w V x) : ∃ (x0_0 : Option Addr) (n0_0 c0_0 : Nat) (x1_0 : Option Addr) (n1_0 c1_0 : Nat) (x2_0 : Option Addr) (n2_0 c2_0 : Nat), V = .agg #[.slice x0_0 n0_0 c0_0, .slice x1_0 n1_0 c1_0, .slice x2_0 n2_0 c2_0, .int .i64 x.2.2.2.1, .int .i64 x.2.2.2.2] ∧ kDz.At w (.agg #[.slice x0_0 n0_0 c0_0, .slice x1_0 n1_0 c1_0, .slice x2_0 n2_0 c2_0, .int .i64 x.2.2.2.1, .int .i64 x.2.2.2.2]) x := by
  obtain ⟨x0_0, n0_0, c0_0, x1_0, n1_0, c1_0, x2_0, n2_0, c2_0, rfl, -⟩ := kDz_at h
  exact ⟨x0_0, n0_0, c0_0, x1_0, n1_0, c1_0, x2_0, n2_0, c2_0, rfl, h⟩
end
set_option maxHeartbeats 4000000 in
theorem szDataK (V : Value) (x : Dzt) (w : World) (left : Int) (h : kDz.At w V x) (hp : okDz x) (h0 : 0 ≤ left) (hl : left ≤ 1048576) :
    Calls Try.prog 81 #[V, .int .i64 left] w fun e w' => e = .returned (.int .i64 (szW (wtDz x) left)) ∧ Below w.heap.size w w' := by
  obtain ⟨x0_0, n0_0, c0_0, x1_0, n1_0, c1_0, x2_0, n2_0, c2_0, rfl, g0, g1, g2⟩ := kDz_at h
  obtain ⟨l0, l1, l2, l3, l4⟩ := x
  obtain ⟨p0, p1, p2⟩ := hp
  have HB := Lib.hid ((Below.refl w.heap.size w).alloc (Nat.le_refl _) (.cells #[.slice x0_0 n0_0 c0_0, .slice x1_0 n1_0 c1_0, .slice x2_0 n2_0 c2_0, .int .i64 l3, .int .i64 l4] 106))
  have HX := Lib.hid (Ret.Blk.new w #[.slice x0_0 n0_0 c0_0, .slice x1_0 n1_0 c1_0, .slice x2_0 n2_0 c2_0, .int .i64 l3, .int .i64 l4] 106)
  have G0 := Lib.hid g0; have P0 := Lib.hid p0
  have G1 := Lib.hid g1; have P1 := Lib.hid p1
  have G2 := Lib.hid g2; have P2 := Lib.hid p2
  dsimp only at G0 P0 G1 P1 G2 P2 ⊢
  clear g0 p0 g1 p1 g2 p2 h
  go_enter Try.func81, Try.ntmps81
  go_wp2_with fail
  refine (szNmK _ l0 _ (left) (G0.out.on HB.out) P0.out (by omega) (by omega)).mono ?_
  rintro e w1 ⟨rfl, hb⟩
  replace HX := Lib.hid (HX.out.on hb)
  replace HB := Lib.hid (HB.out.trans (hb.mono HB.out.size)); clear hb
  have q0 : w1.cell? ⟨w.heap.size, 0, none⟩ = some (.slice x0_0 n0_0 c0_0) := HX.out.cell 0
  have q1 : w1.cell? ⟨w.heap.size, 1, none⟩ = some (.slice x1_0 n1_0 c1_0) := HX.out.cell 1
  have q2 : w1.cell? ⟨w.heap.size, 2, none⟩ = some (.slice x2_0 n2_0 c2_0) := HX.out.cell 2
  have q3 : w1.cell? ⟨w.heap.size, 3, none⟩ = some (.int .i64 l3) := HX.out.cell 3
  have q4 : w1.cell? ⟨w.heap.size, 4, none⟩ = some (.int .i64 l4) := HX.out.cell 4
  by_cases t0 : ((bulk l0) : Int) ≤ left
  · rw [szW_fit t0]
    have b0 : ¬ left - ((bulk l0) : Int) < 0 := by omega
    go_wp2_with fail
    clear q0 q1 q2 q3 q4
    refine (szByK _ l1 _ (left - ((bulk l0) : Int)) (G1.out.on HB.out) P1.out (by omega) (by omega)).mono ?_
    rintro e w2 ⟨rfl, hb⟩
    replace HX := Lib.hid (HX.out.on hb)
    replace HB := Lib.hid (HB.out.trans (hb.mono HB.out.size)); clear hb
    have q0 : w2.cell? ⟨w.heap.size, 0, none⟩ = some (.slice x0_0 n0_0 c0_0) := HX.out.cell 0
    have q1 : w2.cell? ⟨w.heap.size, 1, none⟩ = some (.slice x1_0 n1_0 c1_0) := HX.out.cell 1
    have q2 : w2.cell? ⟨w.heap.size, 2, none⟩ = some (.slice x2_0 n2_0 c2_0) := HX.out.cell 2
    have q3 : w2.cell? ⟨w.heap.size, 3, none⟩ = some (.int .i64 l3) := HX.out.cell 3
    have q4 : w2.cell? ⟨w.heap.size, 4, none⟩ = some (.int .i64 l4) := HX.out.cell 4
    by_cases t1 : ((l1.length) : Int) ≤ left - ((bulk l0) : Int)
    · rw [szW_fit t1]
      have b1 : ¬ left - ((bulk l0) : Int) - ((l1.length) : Int) < 0 := by omega
      go_wp2_with fail
      clear q0 q1 q2 q3 q4
      refine (szNmK _ l2 _ (left - ((bulk l0) : Int) - ((l1.length) : Int)) (G2.out.on HB.out) P2.out (by omega) (by omega)).mono ?_
      rintro e w3 ⟨rfl, hb⟩
      replace HX := Lib.hid (HX.out.on hb)
      replace HB := Lib.hid (HB.out.trans (hb.mono HB.out.size)); clear hb
      have q0 : w3.cell? ⟨w.heap.size, 0, none⟩ = some (.slice x0_0 n0_0 c0_0) := HX.out.cell 0
      have q1 : w3.cell? ⟨w.heap.size, 1, none⟩ = some (.slice x1_0 n1_0 c1_0) := HX.out.cell 1
      have q2 : w3.cell? ⟨w.heap.size, 2, none⟩ = some (.slice x2_0 n2_0 c2_0) := HX.out.cell 2
      have q3 : w3.cell? ⟨w.heap.size, 3, none⟩ = some (.int .i64 l3) := HX.out.cell 3
      have q4 : w3.cell? ⟨w.heap.size, 4, none⟩ = some (.int .i64 l4) := HX.out.cell 4
      by_cases t2 : ((bulk l2) : Int) ≤ left - ((bulk l0) : Int) - ((l1.length) : Int)
      · rw [szW_fit t2]
        have b2 : ¬ left - ((bulk l0) : Int) - ((l1.length) : Int) - ((bulk l2) : Int) < 0 := by omega
        have HZ : Hid (szW (((bulk l0) + (l1.length) + (bulk l2))) left = left - ((bulk l0) : Int) - ((l1.length) : Int) - ((bulk l2) : Int)) := Lib.hid (by rw [szW_fit (by omega)]; (try omega))
        go_wp2
        go_ret
        exact ⟨ret_int HZ.out.symm, HB.out⟩
      · rw [szW_not t2]
        have HZ : Hid (szW (((bulk l0) + (l1.length) + (bulk l2))) left = -1) := Lib.hid (szW_not (by omega))
        go_wp2
        go_ret
        exact ⟨ret_int HZ.out.symm, HB.out⟩
    · rw [szW_not t1]
      have HZ : Hid (szW (((bulk l0) + (l1.length) + (bulk l2))) left = -1) := Lib.hid (szW_not (by omega))
      go_wp2
      go_ret
      exact ⟨ret_int HZ.out.symm, HB.out⟩
  · rw [szW_not t0]
    have HZ : Hid (szW (((bulk l0) + (l1.length) + (bulk l2))) left = -1) := Lib.hid (szW_not (by omega))
    go_wp2
    go_ret
    exact ⟨ret_int HZ.out.symm, HB.out⟩
set_option maxHeartbeats 4000000 in
theorem toDataK (V : Value) (x : Dzt) (w : World) (h : kDz.At w V x) (hp : adDz x ≤ 100000000) :
    Calls Try.prog 87 #[V] w fun e w' => ∃ U, e = .returned U ∧ kDz.In w.heap.size w'.heap.size w' U x ∧ Below w.heap.size w w' := by
  obtain ⟨x0_0, n0_0, c0_0, x1_0, n1_0, c1_0, x2_0, n2_0, c2_0, rfl, g0, g1, g2⟩ := kDz_at h
  obtain ⟨l0, l1, l2, l3, l4⟩ := x
  have hp9 : l0.length + l1.length + l2.length ≤ 100000000 := hp
  have hb0 := (Below.refl w.heap.size w).alloc (Nat.le_refl _) (.cells #[.slice x0_0 n0_0 c0_0, .slice x1_0 n1_0 c1_0, .slice x2_0 n2_0 c2_0, .int .i64 l3, .int .i64 l4] 106)
  have hb1 := hb0.alloc (by simp) (.cells #[.slice none 0 0, .slice none 0 0, .slice none 0 0, .int .i64 0, .int .i64 0] 61)
  have hb2 := hb1.alloc (by simp; omega) (.cells #[.slice none 0 0, .slice none 0 0, .slice none 0 0, .int .i64 0, .int .i64 0] 61)
  have HB := Lib.hid hb2
  have HX := Lib.hid (((Ret.Blk.new w #[.slice x0_0 n0_0 c0_0, .slice x1_0 n1_0 c1_0, .slice x2_0 n2_0 c2_0, .int .i64 l3, .int .i64 l4] 106).on ((Below.refl _ _).alloc (Nat.le_refl _) (.cells #[.slice none 0 0, .slice none 0 0, .slice none 0 0, .int .i64 0, .int .i64 0] 61))).on ((Below.refl _ _).alloc (Nat.le_refl _) (.cells #[.slice none 0 0, .slice none 0 0, .slice none 0 0, .int .i64 0, .int .i64 0] 61)))
  have HR := Lib.hid ((Ret.Blk.new' (w := (w.alloc (.cells #[.slice x0_0 n0_0 c0_0, .slice x1_0 n1_0 c1_0, .slice x2_0 n2_0 c2_0, .int .i64 l3, .int .i64 l4] 106))) (n := w.heap.size + 1) #[.slice none 0 0, .slice none 0 0, .slice none 0 0, .int .i64 0, .int .i64 0] 61 (by simp)).on ((Below.refl _ _).alloc (Nat.le_refl _) (.cells #[.slice none 0 0, .slice none 0 0, .slice none 0 0, .int .i64 0, .int .i64 0] 61)))
  have HL := Lib.hid (Ret.Blk.new' (w := (w.alloc (.cells #[.slice x0_0 n0_0 c0_0, .slice x1_0 n1_0 c1_0, .slice x2_0 n2_0 c2_0, .int .i64 l3, .int .i64 l4] 106)).alloc (.cells #[.slice none 0 0, .slice none 0 0, .slice none 0 0, .int .i64 0, .int .i64 0] 61)) (n := w.heap.size + 1 + 1) #[.slice none 0 0, .slice none 0 0, .slice none 0 0, .int .i64 0, .int .i64 0] 61 (by simp))
  have hz0 : (((w.alloc (.cells #[.slice x0_0 n0_0 c0_0, .slice x1_0 n1_0 c1_0, .slice x2_0 n2_0 c2_0, .int .i64 l3, .int .i64 l4] 106)).alloc (.cells #[.slice none 0 0, .slice none 0 0, .slice none 0 0, .int .i64 0, .int .i64 0] 61)).alloc (.cells #[.slice none 0 0, .slice none 0 0, .slice none 0 0, .int .i64 0, .int .i64 0] 61)).heap.size = w.heap.size + 3 := by simp
  have G0 := Lib.hid g0
  have G1 := Lib.hid g1
  have G2 := Lib.hid g2
  dsimp only at G0 G1 G2 ⊢
  clear h hp hb0 hb1 hb2 g0 g1 g2
  go_enter Try.func87, Try.ntmps87
  go_wp2_with fail
  refine (toNmK _ l0 _ (G0.out.on HB.out) (by omega)).mono ?_
  rintro e w1 ⟨U0, rfl, ho, hb⟩
  have hs0 := hb.size
  obtain ⟨m0, rfl, r0, ho⟩ := ho.split
  obtain ⟨xy0_0, ny0_0, cy0_0, e0, -⟩ := kN_shapeA (Kd.at_of (k := kN) ho.holds)
  have d0 : kN.cells m0 = [.slice xy0_0 ny0_0 cy0_0] := by injection e0 with e; exact congrArg Array.toList e
  rw [e0]
  rw [hz0] at ho hs0; clear hz0
  replace HX := Lib.hid (HX.out.on hb); replace HR := Lib.hid (HR.out.on hb); replace HL := Lib.hid (HL.out.on hb)
  replace HB := Lib.hid (HB.out.trans (hb.mono HB.out.size)); clear hb
  have O0 := Lib.hid ho; clear ho
  have E0 := Lib.hid e0; have D0 := Lib.hid d0; have R0 := Lib.hid r0; clear e0 d0 r0
  have q0 : w1.cell? ⟨w.heap.size, 0, none⟩ = some (.slice x0_0 n0_0 c0_0) := HX.out.cell 0
  have q1 : w1.cell? ⟨w.heap.size, 1, none⟩ = some (.slice x1_0 n1_0 c1_0) := HX.out.cell 1
  have q2 : w1.cell? ⟨w.heap.size, 2, none⟩ = some (.slice x2_0 n2_0 c2_0) := HX.out.cell 2
  have q3 : w1.cell? ⟨w.heap.size, 3, none⟩ = some (.int .i64 l3) := HX.out.cell 3
  have q4 : w1.cell? ⟨w.heap.size, 4, none⟩ = some (.int .i64 l4) := HX.out.cell 4
  have p0 : w1.cell? ⟨w.heap.size + 1 + 1, 0, none⟩ = some (.slice none 0 0) := HL.out.cell 0
  have p1 : w1.cell? ⟨w.heap.size + 1 + 1, 1, none⟩ = some (.slice none 0 0) := HL.out.cell 1
  have p2 : w1.cell? ⟨w.heap.size + 1 + 1, 2, none⟩ = some (.slice none 0 0) := HL.out.cell 2
  have p3 : w1.cell? ⟨w.heap.size + 1 + 1, 3, none⟩ = some (.int .i64 0) := HL.out.cell 3
  have p4 : w1.cell? ⟨w.heap.size + 1 + 1, 4, none⟩ = some (.int .i64 0) := HL.out.cell 4
  have t0 := HL.out.frozen 0; have t1 := HL.out.frozen 1; have t2 := HL.out.frozen 2; have t3 := HL.out.frozen 3; have t4 := HL.out.frozen 4
  go_wp2_with fail
  clear q0 q1 q2 q3 q4 p0 p1 p2 p3 p4 t0 t1 t2 t3 t4
  replace HX := Lib.hid (HX.out.other (a := ⟨w.heap.size + 1 + 1, 0, none⟩) (by show w.heap.size + 1 + 1 ≠ w.heap.size; omega) (.slice xy0_0 ny0_0 cy0_0))
  replace HR := Lib.hid (HR.out.other (a := ⟨w.heap.size + 1 + 1, 0, none⟩) (by show w.heap.size + 1 + 1 ≠ w.heap.size + 1; omega) (.slice xy0_0 ny0_0 cy0_0))
  replace HL := Lib.hid (HL.out.set 0 (.slice xy0_0 ny0_0 cy0_0))
  replace HB := Lib.hid (HB.out.setCell (p := ⟨w.heap.size + 1 + 1, 0, none⟩) (by show w.heap.size ≤ w.heap.size + 1 + 1; omega) (.slice xy0_0 ny0_0 cy0_0))
  replace O0 := Lib.hid (Kd.Own.set (g := w.heap.size + 1 + 1) (i := 0) (u := .slice xy0_0 ny0_0 cy0_0) O0.out (by omega))
  refine (toByK _ l1 _ (G1.out.on HB.out) (by omega)).mono ?_
  rintro e w2 ⟨U1, rfl, ho, hb⟩
  have hs1 := hb.size
  obtain ⟨m1, rfl, r1, ho⟩ := ho.split
  obtain ⟨xy1_0, ny1_0, cy1_0, e1, -⟩ := kB_shapeA (Kd.at_of (k := kB) ho.holds)
  have d1 : kB.cells m1 = [.slice xy1_0 ny1_0 cy1_0] := by show [kB.val m1] = _; rw [e1]
  rw [e1]
  simp only [World.size_setCell] at hs1 ho
  replace HX := Lib.hid (HX.out.on hb); replace HR := Lib.hid (HR.out.on hb); replace HL := Lib.hid (HL.out.on hb)
  replace O0 := Lib.hid (O0.out.on hb)
  replace HB := Lib.hid (HB.out.trans (hb.mono HB.out.size)); clear hb
  have O1 := Lib.hid ho; clear ho
  have E1 := Lib.hid e1; have D1 := Lib.hid d1; have R1 := Lib.hid r1; clear e1 d1 r1
  have q0 : w2.cell? ⟨w.heap.size, 0, none⟩ = some (.slice x0_0 n0_0 c0_0) := HX.out.cell 0
  have q1 : w2.cell? ⟨w.heap.size, 1, none⟩ = some (.slice x1_0 n1_0 c1_0) := HX.out.cell 1
  have q2 : w2.cell? ⟨w.heap.size, 2, none⟩ = some (.slice x2_0 n2_0 c2_0) := HX.out.cell 2
  have q3 : w2.cell? ⟨w.heap.size, 3, none⟩ = some (.int .i64 l3) := HX.out.cell 3
  have q4 : w2.cell? ⟨w.heap.size, 4, none⟩ = some (.int .i64 l4) := HX.out.cell 4
  have p0 : w2.cell? ⟨w.heap.size + 1 + 1, 0, none⟩ = some (.slice xy0_0 ny0_0 cy0_0) := HL.out.cell 0
  have p1 : w2.cell? ⟨w.heap.size + 1 + 1, 1, none⟩ = some (.slice none 0 0) := HL.out.cell 1
  have p2 : w2.cell? ⟨w.heap.size + 1 + 1, 2, none⟩ = some (.slice none 0 0) := HL.out.cell 2
  have p3 : w2.cell? ⟨w.heap.size + 1 + 1, 3, none⟩ = some (.int .i64 0) := HL.out.cell 3
  have p4 : w2.cell? ⟨w.heap.size + 1 + 1, 4, none⟩ = some (.int .i64 0) := HL.out.cell 4
  have t0 := HL.out.frozen 0; have t1 := HL.out.frozen 1; have t2 := HL.out.frozen 2; have t3 := HL.out.frozen 3; have t4 := HL.out.frozen 4
  go_wp2_with fail
  clear q0 q1 q2 q3 q4 p0 p1 p2 p3 p4 t0 t1 t2 t3 t4
  replace HX := Lib.hid (HX.out.other (a := ⟨w.heap.size + 1 + 1, 1, none⟩) (by show w.heap.size + 1 + 1 ≠ w.heap.size; omega) (.slice xy1_0 ny1_0 cy1_0))
  replace HR := Lib.hid (HR.out.other (a := ⟨w.heap.size + 1 + 1, 1, none⟩) (by show w.heap.size + 1 + 1 ≠ w.heap.size + 1; omega) (.slice xy1_0 ny1_0 cy1_0))
  replace HL := Lib.hid (HL.out.set 1 (.slice xy1_0 ny1_0 cy1_0))
  replace HB := Lib.hid (HB.out.setCell (p := ⟨w.heap.size + 1 + 1, 1, none⟩) (by show w.heap.size ≤ w.heap.size + 1 + 1; omega) (.slice xy1_0 ny1_0 cy1_0))
  replace O0 := Lib.hid (Kd.Own.set (g := w.heap.size + 1 + 1) (i := 1) (u := .slice xy1_0 ny1_0 cy1_0) O0.out (by omega))
  replace O1 := Lib.hid (Kd.Own.set (g := w.heap.size + 1 + 1) (i := 1) (u := .slice xy1_0 ny1_0 cy1_0) O1.out (by omega))
  refine (toNmK _ l2 _ (G2.out.on HB.out) (by omega)).mono ?_
  rintro e w3 ⟨U2, rfl, ho, hb⟩
  have hs2 := hb.size
  obtain ⟨m2, rfl, r2, ho⟩ := ho.split
  obtain ⟨xy2_0, ny2_0, cy2_0, e2, -⟩ := kN_shapeA (Kd.at_of (k := kN) ho.holds)
  have d2 : kN.cells m2 = [.slice xy2_0 ny2_0 cy2_0] := by injection e2 with e; exact congrArg Array.toList e
  rw [e2]
  simp only [World.size_setCell] at hs2 ho
  replace HX := Lib.hid (HX.out.on hb); replace HR := Lib.hid (HR.out.on hb); replace HL := Lib.hid (HL.out.on hb)
  replace O0 := Lib.hid (O0.out.on hb)
  replace O1 := Lib.hid (O1.out.on hb)
  replace HB := Lib.hid (HB.out.trans (hb.mono HB.out.size)); clear hb
  have O2 := Lib.hid ho; clear ho
  have E2 := Lib.hid e2; have D2 := Lib.hid d2; have R2 := Lib.hid r2; clear e2 d2 r2
  have q0 : w3.cell? ⟨w.heap.size, 0, none⟩ = some (.slice x0_0 n0_0 c0_0) := HX.out.cell 0
  have q1 : w3.cell? ⟨w.heap.size, 1, none⟩ = some (.slice x1_0 n1_0 c1_0) := HX.out.cell 1
  have q2 : w3.cell? ⟨w.heap.size, 2, none⟩ = some (.slice x2_0 n2_0 c2_0) := HX.out.cell 2
  have q3 : w3.cell? ⟨w.heap.size, 3, none⟩ = some (.int .i64 l3) := HX.out.cell 3
  have q4 : w3.cell? ⟨w.heap.size, 4, none⟩ = some (.int .i64 l4) := HX.out.cell 4
  have p0 : w3.cell? ⟨w.heap.size + 1 + 1, 0, none⟩ = some (.slice xy0_0 ny0_0 cy0_0) := HL.out.cell 0
  have p1 : w3.cell? ⟨w.heap.size + 1 + 1, 1, none⟩ = some (.slice xy1_0 ny1_0 cy1_0) := HL.out.cell 1
  have p2 : w3.cell? ⟨w.heap.size + 1 + 1, 2, none⟩ = some (.slice none 0 0) := HL.out.cell 2
  have p3 : w3.cell? ⟨w.heap.size + 1 + 1, 3, none⟩ = some (.int .i64 0) := HL.out.cell 3
  have p4 : w3.cell? ⟨w.heap.size + 1 + 1, 4, none⟩ = some (.int .i64 0) := HL.out.cell 4
  have t0 := HL.out.frozen 0; have t1 := HL.out.frozen 1; have t2 := HL.out.frozen 2; have t3 := HL.out.frozen 3; have t4 := HL.out.frozen 4
  have r0 : w3.cell? ⟨w.heap.size + 1, 0, none⟩ = some (.slice none 0 0) := HR.out.cell 0
  have r1 : w3.cell? ⟨w.heap.size + 1, 1, none⟩ = some (.slice none 0 0) := HR.out.cell 1
  have r2 : w3.cell? ⟨w.heap.size + 1, 2, none⟩ = some (.slice none 0 0) := HR.out.cell 2
  have r3 : w3.cell? ⟨w.heap.size + 1, 3, none⟩ = some (.int .i64 0) := HR.out.cell 3
  have r4 : w3.cell? ⟨w.heap.size + 1, 4, none⟩ = some (.int .i64 0) := HR.out.cell 4
  have u0 := HR.out.frozen 0; have u1 := HR.out.frozen 1; have u2 := HR.out.frozen 2; have u3 := HR.out.frozen 3; have u4 := HR.out.frozen 4
  have Z := Lib.hid ((((((((HR.out.other (a := ⟨w.heap.size + 1 + 1, 2, none⟩) (by show w.heap.size + 1 + 1 ≠ w.heap.size + 1; omega) (.slice xy2_0 ny2_0 cy2_0)).other (a := ⟨w.heap.size + 1 + 1, 3, none⟩) (by show w.heap.size + 1 + 1 ≠ w.heap.size + 1; omega) (.int .i64 l3)).other (a := ⟨w.heap.size + 1 + 1, 4, none⟩) (by show w.heap.size + 1 + 1 ≠ w.heap.size + 1; omega) (.int .i64 l4)).set 0 (.slice xy0_0 ny0_0 cy0_0)).set 1 (.slice xy1_0 ny1_0 cy1_0)).set 2 (.slice xy2_0 ny2_0 cy2_0)).set 3 (.int .i64 l3)).set 4 (.int .i64 l4))
  have ZB := Lib.hid ((((((((HB.out.setCell (p := ⟨w.heap.size + 1 + 1, 2, none⟩) (by show w.heap.size ≤ w.heap.size + 1 + 1; omega) (.slice xy2_0 ny2_0 cy2_0)).setCell (p := ⟨w.heap.size + 1 + 1, 3, none⟩) (by show w.heap.size ≤ w.heap.size + 1 + 1; omega) (.int .i64 l3)).setCell (p := ⟨w.heap.size + 1 + 1, 4, none⟩) (by show w.heap.size ≤ w.heap.size + 1 + 1; omega) (.int .i64 l4)).setCell (p := ⟨w.heap.size + 1, 0, none⟩) (by show w.heap.size ≤ w.heap.size + 1; omega) (.slice xy0_0 ny0_0 cy0_0)).setCell (p := ⟨w.heap.size + 1, 1, none⟩) (by show w.heap.size ≤ w.heap.size + 1; omega) (.slice xy1_0 ny1_0 cy1_0)).setCell (p := ⟨w.heap.size + 1, 2, none⟩) (by show w.heap.size ≤ w.heap.size + 1; omega) (.slice xy2_0 ny2_0 cy2_0)).setCell (p := ⟨w.heap.size + 1, 3, none⟩) (by show w.heap.size ≤ w.heap.size + 1; omega) (.int .i64 l3)).setCell (p := ⟨w.heap.size + 1, 4, none⟩) (by show w.heap.size ≤ w.heap.size + 1; omega) (.int .i64 l4))
  have Z0 := Lib.hid (Kd.Own.set (g := w.heap.size + 1) (i := 4) (u := .int .i64 l4) (Kd.Own.set (g := w.heap.size + 1) (i := 3) (u := .int .i64 l3) (Kd.Own.set (g := w.heap.size + 1) (i := 2) (u := .slice xy2_0 ny2_0 cy2_0) (Kd.Own.set (g := w.heap.size + 1) (i := 1) (u := .slice xy1_0 ny1_0 cy1_0) (Kd.Own.set (g := w.heap.size + 1) (i := 0) (u := .slice xy0_0 ny0_0 cy0_0) (Kd.Own.set (g := w.heap.size + 1 + 1) (i := 4) (u := .int .i64 l4) (Kd.Own.set (g := w.heap.size + 1 + 1) (i := 3) (u := .int .i64 l3) (Kd.Own.set (g := w.heap.size + 1 + 1) (i := 2) (u := .slice xy2_0 ny2_0 cy2_0) O0.out (by omega)) (by omega)) (by omega)) (by omega)) (by omega)) (by omega)) (by omega)) (by omega))
  have Z1 := Lib.hid (Kd.Own.set (g := w.heap.size + 1) (i := 4) (u := .int .i64 l4) (Kd.Own.set (g := w.heap.size + 1) (i := 3) (u := .int .i64 l3) (Kd.Own.set (g := w.heap.size + 1) (i := 2) (u := .slice xy2_0 ny2_0 cy2_0) (Kd.Own.set (g := w.heap.size + 1) (i := 1) (u := .slice xy1_0 ny1_0 cy1_0) (Kd.Own.set (g := w.heap.size + 1) (i := 0) (u := .slice xy0_0 ny0_0 cy0_0) (Kd.Own.set (g := w.heap.size + 1 + 1) (i := 4) (u := .int .i64 l4) (Kd.Own.set (g := w.heap.size + 1 + 1) (i := 3) (u := .int .i64 l3) (Kd.Own.set (g := w.heap.size + 1 + 1) (i := 2) (u := .slice xy2_0 ny2_0 cy2_0) O1.out (by omega)) (by omega)) (by omega)) (by omega)) (by omega)) (by omega)) (by omega)) (by omega))
  have Z2 := Lib.hid (Kd.Own.set (g := w.heap.size + 1) (i := 4) (u := .int .i64 l4) (Kd.Own.set (g := w.heap.size + 1) (i := 3) (u := .int .i64 l3) (Kd.Own.set (g := w.heap.size + 1) (i := 2) (u := .slice xy2_0 ny2_0 cy2_0) (Kd.Own.set (g := w.heap.size + 1) (i := 1) (u := .slice xy1_0 ny1_0 cy1_0) (Kd.Own.set (g := w.heap.size + 1) (i := 0) (u := .slice xy0_0 ny0_0 cy0_0) (Kd.Own.set (g := w.heap.size + 1 + 1) (i := 4) (u := .int .i64 l4) (Kd.Own.set (g := w.heap.size + 1 + 1) (i := 3) (u := .int .i64 l3) (Kd.Own.set (g := w.heap.size + 1 + 1) (i := 2) (u := .slice xy2_0 ny2_0 cy2_0) O2.out (by omega)) (by omega)) (by omega)) (by omega)) (by omega)) (by omega)) (by omega)) (by omega))
  go_wp2_with fail
  refine bodyPost_ret (Ret.results_c rfl _ _ (w.heap.size + 1) [.slice xy0_0 ny0_0 cy0_0, .slice xy1_0 ny1_0 cy1_0, .slice xy2_0 ny2_0 cy2_0, .int .i64 l3, .int .i64 l4] rfl aggDz Z.out.cells) rfl ?_
  have hval : kDz.val (m0, m1, m2, l3, l4) = .agg #[.slice xy0_0 ny0_0 cy0_0, .slice xy1_0 ny1_0 cy1_0, .slice xy2_0 ny2_0 cy2_0, .int .i64 l3, .int .i64 l4] := by
    show Value.agg ((kN.cells m0 ++ (kB.cells m1 ++ (kN.cells m2 ++ (kInt.cells l3 ++ (kInt.cells l4)))))).toArray = _
    rw [D0.out, D1.out, D2.out]
    rfl
  have hstr : kDz.strip (m0, m1, m2, l3, l4) = (l0, l1, l2, l3, l4) := Prod.ext R0.out (Prod.ext R1.out (Prod.ext R2.out (Prod.ext rfl (rfl))))
  refine ⟨_, rfl, ?_, ZB.out⟩
  rw [← hval, ← hstr]
  refine Kd.Own.in ?_
  exact (Kd.Own.pair (C := w1.heap.size) (Z0.out.mono (by omega) (by omega)) (Kd.Own.pair (C := w2.heap.size) (Z1.out.mono (by omega) (by omega)) (Kd.Own.pair (C := w3.heap.size) (Z2.out.mono (by omega) (by omega)) (Kd.Own.pair (C := w3.heap.size) (Kd.own_scalar _ _ _ _) (Kd.own_scalar _ _ _ _) (by omega) (by simp only [World.size_setCell]; omega)) (by omega) (by simp only [World.size_setCell]; omega)) (by omega) (by simp only [World.size_setCell]; omega)) (by omega) (by simp only [World.size_setCell]; omega))
set_option maxHeartbeats 4000000 in
theorem eqDataK (V U : Value) (x y : Dzt) (w : World) (q : Bool) (hq : decide (x = y) = q) (h : kDz.At w V x) (g : kDz.At w U y) (hp : adDz x ≤ 100000000) (hy : adDz y ≤ 100000000) :
    Calls Try.prog 32 #[V, U] w fun e w' => e = .returned (.bool q) ∧ Below w.heap.size w w' := by
  obtain ⟨x0_0, n0_0, c0_0, x1_0, n1_0, c1_0, x2_0, n2_0, c2_0, rfl, g0, g1, g2⟩ := kDz_at h
  obtain ⟨l0, l1, l2, l3, l4⟩ := x
  obtain ⟨xy0_0, ny0_0, cy0_0, xy1_0, ny1_0, cy1_0, xy2_0, ny2_0, cy2_0, rfl, gy0, gy1, gy2⟩ := kDz_at g
  obtain ⟨ly0, ly1, ly2, ly3, ly4⟩ := y
  have hp9 : l0.length + l1.length + l2.length ≤ 100000000 := hp
  have hy9 : ly0.length + ly1.length + ly2.length ≤ 100000000 := hy
  have hb0 := (Below.refl w.heap.size w).alloc (Nat.le_refl _) (.cells #[.slice x0_0 n0_0 c0_0, .slice x1_0 n1_0 c1_0, .slice x2_0 n2_0 c2_0, .int .i64 l3, .int .i64 l4] 61)
  have HB := Lib.hid (hb0.alloc (by simp) (.cells #[.slice xy0_0 ny0_0 cy0_0, .slice xy1_0 ny1_0 cy1_0, .slice xy2_0 ny2_0 cy2_0, .int .i64 ly3, .int .i64 ly4] 61))
  have HX := Lib.hid ((Ret.Blk.new w #[.slice x0_0 n0_0 c0_0, .slice x1_0 n1_0 c1_0, .slice x2_0 n2_0 c2_0, .int .i64 l3, .int .i64 l4] 61).on ((Below.refl _ _).alloc (Nat.le_refl _) (.cells #[.slice xy0_0 ny0_0 cy0_0, .slice xy1_0 ny1_0 cy1_0, .slice xy2_0 ny2_0 cy2_0, .int .i64 ly3, .int .i64 ly4] 61)))
  have HY := Lib.hid (Ret.Blk.new' (w := w.alloc (.cells #[.slice x0_0 n0_0 c0_0, .slice x1_0 n1_0 c1_0, .slice x2_0 n2_0 c2_0, .int .i64 l3, .int .i64 l4] 61)) (n := w.heap.size + 1) #[.slice xy0_0 ny0_0 cy0_0, .slice xy1_0 ny1_0 cy1_0, .slice xy2_0 ny2_0 cy2_0, .int .i64 ly3, .int .i64 ly4] 61 (by simp))
  have HQ := Lib.hid hq
  have G0 := Lib.hid g0; have Gy0 := Lib.hid gy0
  have G1 := Lib.hid g1; have Gy1 := Lib.hid gy1
  have G2 := Lib.hid g2; have Gy2 := Lib.hid gy2
  dsimp only at G0 Gy0 G1 Gy1 G2 Gy2 ⊢
  clear h g hq hp hy hb0 g0 gy0 g1 gy1 g2 gy2
  go_enter Try.func32, Try.ntmps32
  go_wp2_with fail
  by_cases e0 : l0 = ly0
  · refine (eqNmK _ _ l0 ly0 _ true (decide_eq_true e0) (G0.out.on HB.out) (Gy0.out.on HB.out) (by omega) (by omega)).mono ?_
    rintro e w1 ⟨rfl, hb⟩
    replace HX := Lib.hid (HX.out.on hb); replace HY := Lib.hid (HY.out.on hb)
    replace HB := Lib.hid (HB.out.trans (hb.mono HB.out.size)); clear hb
    have q0 : w1.cell? ⟨w.heap.size, 0, none⟩ = some (.slice x0_0 n0_0 c0_0) := HX.out.cell 0
    have q1 : w1.cell? ⟨w.heap.size, 1, none⟩ = some (.slice x1_0 n1_0 c1_0) := HX.out.cell 1
    have q2 : w1.cell? ⟨w.heap.size, 2, none⟩ = some (.slice x2_0 n2_0 c2_0) := HX.out.cell 2
    have q3 : w1.cell? ⟨w.heap.size, 3, none⟩ = some (.int .i64 l3) := HX.out.cell 3
    have q4 : w1.cell? ⟨w.heap.size, 4, none⟩ = some (.int .i64 l4) := HX.out.cell 4
    have p0 : w1.cell? ⟨w.heap.size + 1, 0, none⟩ = some (.slice xy0_0 ny0_0 cy0_0) := HY.out.cell 0
    have p1 : w1.cell? ⟨w.heap.size + 1, 1, none⟩ = some (.slice xy1_0 ny1_0 cy1_0) := HY.out.cell 1
    have p2 : w1.cell? ⟨w.heap.size + 1, 2, none⟩ = some (.slice xy2_0 ny2_0 cy2_0) := HY.out.cell 2
    have p3 : w1.cell? ⟨w.heap.size + 1, 3, none⟩ = some (.int .i64 ly3) := HY.out.cell 3
    have p4 : w1.cell? ⟨w.heap.size + 1, 4, none⟩ = some (.int .i64 ly4) := HY.out.cell 4
    go_wp2_with fail
    clear q0 q1 q2 q3 q4 p0 p1 p2 p3 p4
    by_cases e1 : l1 = ly1
    · refine (eqByK _ _ l1 ly1 _ true (decide_eq_true e1) (G1.out.on HB.out) (Gy1.out.on HB.out) (by omega) (by omega)).mono ?_
      rintro e w2 ⟨rfl, hb⟩
      replace HX := Lib.hid (HX.out.on hb); replace HY := Lib.hid (HY.out.on hb)
      replace HB := Lib.hid (HB.out.trans (hb.mono HB.out.size)); clear hb
      have q0 : w2.cell? ⟨w.heap.size, 0, none⟩ = some (.slice x0_0 n0_0 c0_0) := HX.out.cell 0
      have q1 : w2.cell? ⟨w.heap.size, 1, none⟩ = some (.slice x1_0 n1_0 c1_0) := HX.out.cell 1
      have q2 : w2.cell? ⟨w.heap.size, 2, none⟩ = some (.slice x2_0 n2_0 c2_0) := HX.out.cell 2
      have q3 : w2.cell? ⟨w.heap.size, 3, none⟩ = some (.int .i64 l3) := HX.out.cell 3
      have q4 : w2.cell? ⟨w.heap.size, 4, none⟩ = some (.int .i64 l4) := HX.out.cell 4
      have p0 : w2.cell? ⟨w.heap.size + 1, 0, none⟩ = some (.slice xy0_0 ny0_0 cy0_0) := HY.out.cell 0
      have p1 : w2.cell? ⟨w.heap.size + 1, 1, none⟩ = some (.slice xy1_0 ny1_0 cy1_0) := HY.out.cell 1
      have p2 : w2.cell? ⟨w.heap.size + 1, 2, none⟩ = some (.slice xy2_0 ny2_0 cy2_0) := HY.out.cell 2
      have p3 : w2.cell? ⟨w.heap.size + 1, 3, none⟩ = some (.int .i64 ly3) := HY.out.cell 3
      have p4 : w2.cell? ⟨w.heap.size + 1, 4, none⟩ = some (.int .i64 ly4) := HY.out.cell 4
      go_wp2_with fail
      clear q0 q1 q2 q3 q4 p0 p1 p2 p3 p4
      by_cases e2 : l2 = ly2
      · refine (eqNmK _ _ l2 ly2 _ true (decide_eq_true e2) (G2.out.on HB.out) (Gy2.out.on HB.out) (by omega) (by omega)).mono ?_
        rintro e w3 ⟨rfl, hb⟩
        replace HX := Lib.hid (HX.out.on hb); replace HY := Lib.hid (HY.out.on hb)
        replace HB := Lib.hid (HB.out.trans (hb.mono HB.out.size)); clear hb
        have q0 : w3.cell? ⟨w.heap.size, 0, none⟩ = some (.slice x0_0 n0_0 c0_0) := HX.out.cell 0
        have q1 : w3.cell? ⟨w.heap.size, 1, none⟩ = some (.slice x1_0 n1_0 c1_0) := HX.out.cell 1
        have q2 : w3.cell? ⟨w.heap.size, 2, none⟩ = some (.slice x2_0 n2_0 c2_0) := HX.out.cell 2
        have q3 : w3.cell? ⟨w.heap.size, 3, none⟩ = some (.int .i64 l3) := HX.out.cell 3
        have q4 : w3.cell? ⟨w.heap.size, 4, none⟩ = some (.int .i64 l4) := HX.out.cell 4
        have p0 : w3.cell? ⟨w.heap.size + 1, 0, none⟩ = some (.slice xy0_0 ny0_0 cy0_0) := HY.out.cell 0
        have p1 : w3.cell? ⟨w.heap.size + 1, 1, none⟩ = some (.slice xy1_0 ny1_0 cy1_0) := HY.out.cell 1
        have p2 : w3.cell? ⟨w.heap.size + 1, 2, none⟩ = some (.slice xy2_0 ny2_0 cy2_0) := HY.out.cell 2
        have p3 : w3.cell? ⟨w.heap.size + 1, 3, none⟩ = some (.int .i64 ly3) := HY.out.cell 3
        have p4 : w3.cell? ⟨w.heap.size + 1, 4, none⟩ = some (.int .i64 ly4) := HY.out.cell 4
        by_cases e3 : l3 = ly3
        · have t3 : (l3 != ly3) = false := by simp [e3]
          by_cases e4 : l4 = ly4
          · have t4 : (l4 != ly4) = false := by simp [e4]
            have HE : Hid (q = true) := Lib.hid (by rw [← HQ.out]; simp [e0, e1, e2, e3, e4])
            clear e0 e1 e2 e3 e4
            go_wp2
            go_ret
            exact ⟨ret_bool HE.out.symm, HB.out⟩
          · have t4 : (l4 != ly4) = true := by simpa using e4
            have HE : Hid (q = false) := Lib.hid (by rw [← HQ.out]; simp [e4])
            clear e4
            go_wp2
            go_ret
            exact ⟨ret_bool HE.out.symm, HB.out⟩
        · have t3 : (l3 != ly3) = true := by simpa using e3
          have HE : Hid (q = false) := Lib.hid (by rw [← HQ.out]; simp [e3])
          clear e3
          go_wp2
          go_ret
          exact ⟨ret_bool HE.out.symm, HB.out⟩
      · refine (eqNmK _ _ l2 ly2 _ false (decide_eq_false e2) (G2.out.on HB.out) (Gy2.out.on HB.out) (by omega) (by omega)).mono ?_
        rintro e w3 ⟨rfl, hb⟩
        replace HX := Lib.hid (HX.out.on hb); replace HY := Lib.hid (HY.out.on hb)
        replace HB := Lib.hid (HB.out.trans (hb.mono HB.out.size)); clear hb
        have q0 : w3.cell? ⟨w.heap.size, 0, none⟩ = some (.slice x0_0 n0_0 c0_0) := HX.out.cell 0
        have q1 : w3.cell? ⟨w.heap.size, 1, none⟩ = some (.slice x1_0 n1_0 c1_0) := HX.out.cell 1
        have q2 : w3.cell? ⟨w.heap.size, 2, none⟩ = some (.slice x2_0 n2_0 c2_0) := HX.out.cell 2
        have q3 : w3.cell? ⟨w.heap.size, 3, none⟩ = some (.int .i64 l3) := HX.out.cell 3
        have q4 : w3.cell? ⟨w.heap.size, 4, none⟩ = some (.int .i64 l4) := HX.out.cell 4
        have p0 : w3.cell? ⟨w.heap.size + 1, 0, none⟩ = some (.slice xy0_0 ny0_0 cy0_0) := HY.out.cell 0
        have p1 : w3.cell? ⟨w.heap.size + 1, 1, none⟩ = some (.slice xy1_0 ny1_0 cy1_0) := HY.out.cell 1
        have p2 : w3.cell? ⟨w.heap.size + 1, 2, none⟩ = some (.slice xy2_0 ny2_0 cy2_0) := HY.out.cell 2
        have p3 : w3.cell? ⟨w.heap.size + 1, 3, none⟩ = some (.int .i64 ly3) := HY.out.cell 3
        have p4 : w3.cell? ⟨w.heap.size + 1, 4, none⟩ = some (.int .i64 ly4) := HY.out.cell 4
        have HE : Hid (q = false) := Lib.hid (by rw [← HQ.out]; simp [e2])
        clear e2
        go_wp2
        go_ret
        exact ⟨ret_bool HE.out.symm, HB.out⟩
    · refine (eqByK _ _ l1 ly1 _ false (decide_eq_false e1) (G1.out.on HB.out) (Gy1.out.on HB.out) (by omega) (by omega)).mono ?_
      rintro e w2 ⟨rfl, hb⟩
      replace HX := Lib.hid (HX.out.on hb); replace HY := Lib.hid (HY.out.on hb)
      replace HB := Lib.hid (HB.out.trans (hb.mono HB.out.size)); clear hb
      have q0 : w2.cell? ⟨w.heap.size, 0, none⟩ = some (.slice x0_0 n0_0 c0_0) := HX.out.cell 0
      have q1 : w2.cell? ⟨w.heap.size, 1, none⟩ = some (.slice x1_0 n1_0 c1_0) := HX.out.cell 1
      have q2 : w2.cell? ⟨w.heap.size, 2, none⟩ = some (.slice x2_0 n2_0 c2_0) := HX.out.cell 2
      have q3 : w2.cell? ⟨w.heap.size, 3, none⟩ = some (.int .i64 l3) := HX.out.cell 3
      have q4 : w2.cell? ⟨w.heap.size, 4, none⟩ = some (.int .i64 l4) := HX.out.cell 4
      have p0 : w2.cell? ⟨w.heap.size + 1, 0, none⟩ = some (.slice xy0_0 ny0_0 cy0_0) := HY.out.cell 0
      have p1 : w2.cell? ⟨w.heap.size + 1, 1, none⟩ = some (.slice xy1_0 ny1_0 cy1_0) := HY.out.cell 1
      have p2 : w2.cell? ⟨w.heap.size + 1, 2, none⟩ = some (.slice xy2_0 ny2_0 cy2_0) := HY.out.cell 2
      have p3 : w2.cell? ⟨w.heap.size + 1, 3, none⟩ = some (.int .i64 ly3) := HY.out.cell 3
      have p4 : w2.cell? ⟨w.heap.size + 1, 4, none⟩ = some (.int .i64 ly4) := HY.out.cell 4
      have HE : Hid (q = false) := Lib.hid (by rw [← HQ.out]; simp [e1])
      clear e1
      go_wp2
      go_ret
      exact ⟨ret_bool HE.out.symm, HB.out⟩
  · refine (eqNmK _ _ l0 ly0 _ false (decide_eq_false e0) (G0.out.on HB.out) (Gy0.out.on HB.out) (by omega) (by omega)).mono ?_
    rintro e w1 ⟨rfl, hb⟩
    replace HX := Lib.hid (HX.out.on hb); replace HY := Lib.hid (HY.out.on hb)
    replace HB := Lib.hid (HB.out.trans (hb.mono HB.out.size)); clear hb
    have q0 : w1.cell? ⟨w.heap.size, 0, none⟩ = some (.slice x0_0 n0_0 c0_0) := HX.out.cell 0
    have q1 : w1.cell? ⟨w.heap.size, 1, none⟩ = some (.slice x1_0 n1_0 c1_0) := HX.out.cell 1
    have q2 : w1.cell? ⟨w.heap.size, 2, none⟩ = some (.slice x2_0 n2_0 c2_0) := HX.out.cell 2
    have q3 : w1.cell? ⟨w.heap.size, 3, none⟩ = some (.int .i64 l3) := HX.out.cell 3
    have q4 : w1.cell? ⟨w.heap.size, 4, none⟩ = some (.int .i64 l4) := HX.out.cell 4
    have p0 : w1.cell? ⟨w.heap.size + 1, 0, none⟩ = some (.slice xy0_0 ny0_0 cy0_0) := HY.out.cell 0
    have p1 : w1.cell? ⟨w.heap.size + 1, 1, none⟩ = some (.slice xy1_0 ny1_0 cy1_0) := HY.out.cell 1
    have p2 : w1.cell? ⟨w.heap.size + 1, 2, none⟩ = some (.slice xy2_0 ny2_0 cy2_0) := HY.out.cell 2
    have p3 : w1.cell? ⟨w.heap.size + 1, 3, none⟩ = some (.int .i64 ly3) := HY.out.cell 3
    have p4 : w1.cell? ⟨w.heap.size + 1, 4, none⟩ = some (.int .i64 ly4) := HY.out.cell 4
    have HE : Hid (q = false) := Lib.hid (by rw [← HQ.out]; simp [e0])
    clear e0
    go_wp2
    go_ret
    exact ⟨ret_bool HE.out.symm, HB.out⟩
/-- It fits, and its numbers are numbers. -/
def inDz (x : Dzt) : Prop := okN x.1 ∧ (okB x.2.1 ∧ ∀ y ∈ x.2.1, (Lit.int .u8 y).wf = true) ∧ okN x.2.2.1 ∧ (Lit.int .i64 x.2.2.2.1).wf = true ∧ (Lit.int .i64 x.2.2.2.2).wf = true
theorem inDz.ok {x : Dzt} (h : inDz x) : okDz x := ⟨h.1, h.2.1.1, h.2.2.1⟩
theorem opens_Data : OpensK Try.prog kDz 106 inDz := opens_struct Try.underlying106 (by kernel_rfl) (opensF_cons (ok := fun (z : List ByteArray) => okN z) (ok' := fun (z : List Int × List ByteArray × Int × Int) => (okB z.1 ∧ ∀ y ∈ z.1, (Lit.int .u8 y).wf = true) ∧ okN z.2.1 ∧ (Lit.int .i64 z.2.2.1).wf = true ∧ (Lit.int .i64 z.2.2.2).wf = true) (opens_wrap Try.underlying41 rfl (by kernel_rfl) (opens_strs Try.underlying39 Try.underlying9 (by kernel_rfl))) rfl (by kernel_rfl) (opensF_cons (ok := fun (z : List Int) => (okB z ∧ ∀ y ∈ z, (Lit.int .u8 y).wf = true)) (ok' := fun (z : List ByteArray × Int × Int) => okN z.1 ∧ (Lit.int .i64 z.2.1).wf = true ∧ (Lit.int .i64 z.2.2).wf = true) (opens_bytes Try.underlying44 Try.underlying5 (by kernel_rfl)) rfl (by kernel_rfl) (opensF_cons (ok := fun (z : List ByteArray) => okN z) (ok' := fun (z : Int × Int) => (Lit.int .i64 z.1).wf = true ∧ (Lit.int .i64 z.2).wf = true) (opens_wrap Try.underlying41 rfl (by kernel_rfl) (opens_strs Try.underlying39 Try.underlying9 (by kernel_rfl))) rfl (by kernel_rfl) (opensF_cons (ok := fun (z : Int) => (Lit.int .i64 z).wf = true) (ok' := fun (z : Int) => (Lit.int .i64 z).wf = true) (opens_int Try.underlying3) rfl (by kernel_rfl) (opensF_last (ok := fun (z : Int) => (Lit.int .i64 z).wf = true) (opens_int Try.underlying3) rfl (by kernel_rfl))))))

/-! ### in the laws' words -/
theorem adDz_le (x : Dzt) : adDz x ≤ wtDz x := by
  obtain ⟨l0, l1, l2, l3, l4⟩ := x
  have e0 := show l0.length ≤ bulk l0 from bulk_len l0
  have e1 := show l1.length ≤ l1.length from Nat.le_refl _
  have e2 := show l2.length ≤ bulk l2 from bulk_len l2
  unfold adDz wtDz
  dsimp only
  omega
end Go.Proofs.Ytcidfmmeonhkhaa.Row
/- Lists of data packets in the words of kinds: sz, to, eq. No conditions but that lengths fit. -/
namespace Go.Proofs.Ytcidfmmeonhkhaa.Row
open Go.ChangeShapes Go.WideShapes Go.ChangeAt Go.RowKit Go.Instr
set_option linter.unusedVariables false
set_option maxRecDepth 100000

def kLDz : Kd (List Dzt) (Rw Dzm) := kDz.slice 61
theorem szDz_cells : Sz kDz.cells 5 := fun m => kDz.len m
theorem kindDz : Kind Try.prog 61 kDz.cells (.agg #[.slice none 0 0, .slice none 0 0, .slice none 0 0, .int .i64 0, .int .i64 0]) 5 88 where
  elem := by unfold ElemK; kernel_rfl
  zs := rfl
  pos := by decide
  size := szDz_cells
  one := fun m u hu => kDz.one m u hu
def okLDz (l : List Dzt) : Prop := l.length ≤ 9223372036854775807 ∧ ∀ x ∈ l, okDz x
section
variable {w : World} {V : Value} {l : List Dzt} {B E : Nat}
theorem kLDz_at (h : kLDz.At w V l) : ∃ ad n cap L, V = .slice ad n cap ∧ n = L.length ∧ L.map kDz.strip = l ∧ HoldsK kDz.cells 5 w (.slice ad n cap) L ∧ ∀ x ∈ L, kDz.holds w x := by
  obtain ⟨⟨ad, n, cap, L⟩, hV, hl, hh, hel⟩ := h
  exact ⟨ad, n, cap, L, hV, HoldsK.lenEq (show HoldsK kDz.cells 5 w (.slice ad n cap) L from hh), hl, hh, hel⟩
theorem kLDz_len {ad : Option Addr} {n cap : Nat} (h : kLDz.At w (.slice ad n cap) l) : n = l.length := by
  obtain ⟨ad', n', cap', L, hV, hn, rfl, -, -⟩ := kLDz_at h
  cases hV
  simp [hn]
theorem kLDz_shapeA (h : kLDz.At w V l) : ∃ x n c, V = .slice x n c ∧ kLDz.At w (.slice x n c) l := by
  obtain ⟨ad, n, cap, L, rfl, -⟩ := kLDz_at h
  exact ⟨ad, n, cap, rfl, h⟩
/-- The element at place j: its cells, what it reads as. -/
theorem kLDz_elem {x : Option Addr} {n cap : Nat} {L : List Dzm} (h : HoldsK kDz.cells 5 w (.slice x n cap) L) (hel : ∀ y ∈ L, kDz.holds w y) {j : Nat} (hj : j < L.length) :
    ∃ (b off : Nat) (x0 : Option Addr) (n0 c0 : Nat) (x1 : Option Addr) (n1 c1 : Nat) (x2 : Option Addr) (n2 c2 : Nat), x = some ⟨b, off, none⟩ ∧ kDz.cells (nth L j) = [.slice x0 n0 c0, .slice x1 n1 c1, .slice x2 n2 c2, .int .i64 (kDz.strip (nth L j)).2.2.2.1, .int .i64 (kDz.strip (nth L j)).2.2.2.2] ∧ w.cell? ⟨b, off + j * 5, none⟩ = some (.slice x0 n0 c0) ∧ w.cell? ⟨b, off + j * 5 + 1, none⟩ = some (.slice x1 n1 c1) ∧ w.cell? ⟨b, off + j * 5 + 2, none⟩ = some (.slice x2 n2 c2) ∧ w.cell? ⟨b, off + j * 5 + 3, none⟩ = some (.int .i64 (kDz.strip (nth L j)).2.2.2.1) ∧ w.cell? ⟨b, off + j * 5 + 4, none⟩ = some (.int .i64 (kDz.strip (nth L j)).2.2.2.2) ∧ kDz.At w (.agg #[.slice x0 n0 c0, .slice x1 n1 c1, .slice x2 n2 c2, .int .i64 (kDz.strip (nth L j)).2.2.2.1, .int .i64 (kDz.strip (nth L j)).2.2.2.2]) (kDz.strip (nth L j)) := by
  obtain ⟨b, off, hx, hc⟩ := h.at szDz_cells hj
  obtain ⟨x0, n0, c0, x1, n1, c1, x2, n2, c2, e, ha⟩ := kDz_shapeA (Kd.at_of (k := kDz) (hel _ (nth_mem hj)))
  have d : kDz.cells (nth L j) = [.slice x0 n0 c0, .slice x1 n1 c1, .slice x2 n2 c2, .int .i64 (kDz.strip (nth L j)).2.2.2.1, .int .i64 (kDz.strip (nth L j)).2.2.2.2] := by injection e with e; exact congrArg Array.toList e
  rw [d] at hc
  exact ⟨b, off, x0, n0, c0, x1, n1, c1, x2, n2, c2, hx, d, by have := hc 0 (by decide); simpa [Nat.add_assoc] using this, by have := hc 1 (by decide); simpa [Nat.add_assoc] using this, by have := hc 2 (by decide); simpa [Nat.add_assoc] using this, by have := hc 3 (by decide); simpa [Nat.add_assoc] using this, by have := hc 4 (by decide); simpa [Nat.add_assoc] using this, ha⟩
end

set_option maxHeartbeats 4000000 in
theorem szDataSK (V : Value) (l : List Dzt) (w : World) (left : Int) (h : kLDz.At w V l) (hp : okLDz l) (h0 : 0 ≤ left) (h1 : left ≤ 1048576) :
    Calls Try.prog 37 #[V, .int .i64 left] w fun e w' => e = .returned (.int .i64 (szW (bulkK wtDz l) left)) ∧ Below w.heap.size w w' := by
  obtain ⟨ad, n, cap, L, rfl, hn, hl, hh, hel⟩ := kLDz_at h
  have hle := bulkKTo_le wtDz l
  have hb0 := bulkKTo_zero wtDz l
  have hlen : l.length = n := by rw [← hl, List.length_map]; exact hn.symm
  obtain ⟨p0, hs⟩ := hp
  rw [hlen] at p0 hb0
  by_cases hbig : left < (n : Int)
  · have hS : szW (bulkK wtDz l) left = -1 := szW_not (by have := bulkK_len wtDz l; omega)
    rw [hS]
    clear hh h hs hle hn hb0 hS hl hlen hel
    go_enter Try.func37, Try.ntmps37
    go_wp2
    go_ret
    exact ⟨rfl, Below.refl _ _⟩
  have HN := Lib.hid hn; have HT := Lib.hid hl; have HH := Lib.hid hh; have HEL := Lib.hid hel; have HS := Lib.hid hs; have HLE := Lib.hid hle; have HB0 := Lib.hid hb0; have HLEN := Lib.hid hlen
  clear hn h hh hs hle hb0 hl hlen hel
  go_enter Try.func37, Try.ntmps37
  go_wp2
  go_loopw [1, 5] (fun lv i wr => ∃ k : Nat, k ≤ n ∧ i = .int .i64 k ∧ ∃ u : Int, lv = .int .i64 u ∧ u = left - bulkKTo wtDz l k ∧ 0 ≤ u ∧ Hid (Below w.heap.size w wr)) (fun _ i _ => n - (intOf i).toNat)
  case atStart => exact ⟨0, Nat.zero_le _, rfl, _, rfl, by rw [HB0.out], by omega, Lib.hid (Below.refl _ _)⟩
  case round =>
    obtain ⟨k, hk, rfl, u, rfl, hu, h0u, hb⟩ := hrel
    have hub : u ≤ left := by omega
    have HU := Lib.hid hu
    clear hu
    by_cases hlt : k < n
    · have hlen := HN.out
      obtain ⟨b, off, x0, n0, c0, x1, n1, c1, x2, n2, c2, rfl, -, hc0, hc1, hc2, hc3, hc4, ha⟩ := kLDz_elem (HH.out.on hb.out) (fun y hy => kDz.holds_on (HEL.out y hy) hb.out) (j := k) (by omega)
      have hpt : nth l k = kDz.strip (nth L k) := by rw [← HT.out, nth_map _ (by omega)]
      have hsz := HS.out (nth l k) (nth_mem (by have := HLEN.out; omega))
      rw [hpt] at hsz
      have HA := Lib.hid ha
      have HSZ := Lib.hid hsz
      have hstep := Lib.hid (bulkKTo_succ wtDz l (j := k) (by have := HLEN.out; omega))
      rw [hpt] at hstep
      have HALL := Lib.hid (HLE.out (k + 1))
      clear hlen hsz hpt ha
      go_wp2_with fail
      refine (szDataK _ _ wr u HA.out HSZ.out h0u (by omega)).mono ?_
      rintro e w1 ⟨rfl, hb1⟩
      have HB1 := Lib.hid (hb.out.trans (hb1.mono hb.out.size))
      clear hb1 hc0 hc1 hc2 hc3 hc4
      by_cases c1 : (wtDz (kDz.strip (nth L k)) : Int) ≤ u
      · rw [szW_fit c1]
        have h2 : ¬ u - (wtDz (kDz.strip (nth L k)) : Int) < 0 := by omega
        go_wp2
        go_roundw
        case rel => exact ⟨k + 1, by omega, by go_num, _, rfl, by rw [hstep.out, HU.out]; omega, by omega, HB1⟩
        case measure => simp [intOf]; omega
      · rw [szW_not c1]
        have HZ : Hid (szW (bulkK wtDz l) left = -1) := by
          have e1 := HALL.out; have e2 := HU.out; have e3 := hstep.out
          exact Lib.hid (szW_not (by omega))
        clear c1
        go_wp2
        go_ret
        exact ⟨ret_int HZ.out.symm, HB1.out⟩
    · obtain rfl : k = n := by omega
      clear hlt
      go_wp2
      go_ret
      refine ⟨ret_int ?_, hb.out⟩
      have := HU.out
      rw [← HLEN.out] at this
      rw [szW_fit (by unfold bulkK; omega)]
      exact this

set_option maxHeartbeats 4000000 in
theorem toDataSK (V : Value) (l : List Dzt) (w : World) (h : kLDz.At w V l) (hl : l.length ≤ 100000000) (hs : ∀ x ∈ l, adDz x ≤ 100000000) :
    Calls Try.prog 44 #[V] w fun e w' => ∃ U, e = .returned U ∧ kLDz.In w.heap.size w'.heap.size w' U l ∧ Below w.heap.size w w' := by
  obtain ⟨ad, n, cap, L, rfl, hn, ht, hh, hel⟩ := kLDz_at h
  obtain ⟨i0, hi, hz0, hz1, hz2⟩ := info_parts kindDz.elem
  have hlen : l.length = n := by rw [← ht, List.length_map]; exact hn.symm
  rw [hlen] at hl
  have HN := Lib.hid hn; have HT := Lib.hid ht; have HH := Lib.hid hh; have HEL := Lib.hid hel; have HS := Lib.hid hs; have HLEN := Lib.hid hlen
  have HI := Lib.hid hi; have HZ0 := Lib.hid hz0; have HZ1 := Lib.hid hz1; have HZ2 := Lib.hid hz2
  clear hn h hh hi hz0 hz1 hz2 hs ht hel hlen
  go_enter Try.func44, Try.ntmps44
  go_wp2_with (at_make; refine wpList_make_full _ rfl _ _ 33 rfl w.heap.size 61 i0 (.agg #[.slice none 0 0, .slice none 0 0, .slice none 0 0, .int .i64 0, .int .i64 0]) 5 Try.underlying33 HI.out HZ0.out HZ1.out _ _ _ _ n rfl rfl rfl rfl (by rw [HZ2.out]; omega) (by unfold maxLen; omega) (Nat.le_refl _) ?_)
  intro w1 hown hgrow
  have ho : OwnK 61 kDz.cells 5 w.heap.size w1 (.slice (some ⟨w.heap.size, 0, none⟩) n n) (madeK' [] n) := by
    have e1 : madeK' ([] : List Dzm) n = List.replicate n default := by simp [madeK']
    rw [e1]
    unfold OwnK
    rw [List.length_replicate, ← madeK szDz_cells (by decide) (z := .agg #[.slice none 0 0, .slice none 0 0, .slice none 0 0, .int .i64 0, .int .i64 0]) rfl n]
    exact hown
  have HO := Lib.hid ho
  have HB := Lib.hid ((Below.refl w.heap.size w).grown hgrow (Nat.le_refl _) (fun g hg => by cases hg))
  have HG := Lib.hid (show w.heap.size < w1.heap.size from (OwnK.lt ho _ rfl).2)
  clear ho hown hgrow
  go_wp2
  go_loopw [4] (fun i wr => ∃ j : Nat, j ≤ n ∧ i = .int .i64 j ∧ ∃ M : List Dzm, Hid (M.length = j) ∧ Hid (M.map kDz.strip = l.take j) ∧ Hid (OwnK 61 kDz.cells 5 w.heap.size wr (.slice (some ⟨w.heap.size, 0, none⟩) n n) (madeK' M n)) ∧ Hid (kDz.EOwn (w.heap.size + 1) wr.heap.size wr M) ∧ Hid (Below w.heap.size w wr)) (fun i _ => n - (intOf i).toNat)
  case atStart => exact ⟨0, Nat.zero_le _, rfl, [], Lib.hid rfl, Lib.hid (by simp), HO, Lib.hid (Kd.EOwn.nil _ _ _ _), HB⟩
  case round =>
    obtain ⟨j, hj, rfl, M, hM, hst, ho, he, hb⟩ := hrel
    by_cases hlt : j < n
    · have hlen := HN.out
      obtain ⟨b, off, x0, n0, c0, x1, n1, c1, x2, n2, c2, rfl, -, hc0, hc1, hc2, hc3, hc4, ha⟩ := kLDz_elem (HH.out.on hb.out) (fun y hy => kDz.holds_on (HEL.out y hy) hb.out) (j := j) (by omega)
      have HA := Lib.hid ha
      have hpt : nth l j = kDz.strip (nth L j) := by rw [← HT.out, nth_map _ (by omega)]
      have hps := HS.out (nth l j) (nth_mem (by have := HLEN.out; omega))
      rw [hpt] at hps
      have HPS := Lib.hid hps
      have HST := Lib.hid (show l.take (j + 1) = l.take j ++ [kDz.strip (nth L j)] by rw [← HT.out]; exact take_map_succ _ (by omega))
      clear hlen ha hpt hps
      go_wp2_with fail
      refine (toDataK _ _ wr HA.out HPS.out).mono ?_
      rintro e w1 ⟨U, rfl, hi1, hb1⟩
      obtain ⟨m1, rfl, hm1, hi1⟩ := hi1.split
      obtain ⟨xy0, ny0, cy0, xy1, ny1, cy1, xy2, ny2, cy2, ey, -⟩ := kDz_shapeA (Kd.at_of (k := kDz) hi1.holds)
      have dy : kDz.cells m1 = [.slice xy0 ny0 cy0, .slice xy1 ny1 cy1, .slice xy2 ny2 cy2, .int .i64 (kDz.strip m1).2.2.2.1, .int .i64 (kDz.strip m1).2.2.2.2] := by injection ey with e; exact congrArg Array.toList e
      rw [ey]
      have HO1 := Lib.hid (ho.out.on hb1)
      have HE1 := Lib.hid (he.out.on hb1 (Nat.le_refl _))
      have HX := Lib.hid hi1
      have HB1 := Lib.hid (hb.out.trans (hb1.mono hb.out.size))
      have HSZ := Lib.hid hb1.size
      have HDY := Lib.hid dy
      have HM1 := Lib.hid hm1
      have hml : n = (madeK' M n).length := (madeK'_length (by have := hM.out; omega)).symm
      have hmj : j < (madeK' M n).length := by omega
      have hgl := (OwnK.lt HO1.out _ rfl).2
      have hgr := (OwnK.lt ho.out _ rfl).2
      obtain ⟨k0, f0⟩ := ownK_cell szDz_cells HO1.out hml hmj (i := 0) (by decide)
      obtain ⟨z0, hz0⟩ : ∃ z, w1.cell? ⟨w.heap.size, j * 5, none⟩ = some z := ⟨_, by simpa [Nat.add_zero] using (k0.trans (List.getElem?_eq_getElem (by rw [kDz.len]; decide)))⟩
      have g0 : w1.frozen? ⟨w.heap.size, j * 5, none⟩ = false := by simpa using f0
      clear k0 f0
      obtain ⟨k1, f1⟩ := ownK_cell szDz_cells HO1.out hml hmj (i := 1) (by decide)
      obtain ⟨z1, hz1⟩ : ∃ z, w1.cell? ⟨w.heap.size, j * 5 + 1, none⟩ = some z := ⟨_, by simpa [] using (k1.trans (List.getElem?_eq_getElem (by rw [kDz.len]; decide)))⟩
      have g1 : w1.frozen? ⟨w.heap.size, j * 5 + 1, none⟩ = false := by simpa using f1
      clear k1 f1
      obtain ⟨k2, f2⟩ := ownK_cell szDz_cells HO1.out hml hmj (i := 2) (by decide)
      obtain ⟨z2, hz2⟩ : ∃ z, w1.cell? ⟨w.heap.size, j * 5 + 2, none⟩ = some z := ⟨_, by simpa [] using (k2.trans (List.getElem?_eq_getElem (by rw [kDz.len]; decide)))⟩
      have g2 : w1.frozen? ⟨w.heap.size, j * 5 + 2, none⟩ = false := by simpa using f2
      clear k2 f2
      obtain ⟨k3, f3⟩ := ownK_cell szDz_cells HO1.out hml hmj (i := 3) (by decide)
      obtain ⟨z3, hz3⟩ : ∃ z, w1.cell? ⟨w.heap.size, j * 5 + 3, none⟩ = some z := ⟨_, by simpa [] using (k3.trans (List.getElem?_eq_getElem (by rw [kDz.len]; decide)))⟩
      have g3 : w1.frozen? ⟨w.heap.size, j * 5 + 3, none⟩ = false := by simpa using f3
      clear k3 f3
      obtain ⟨k4, f4⟩ := ownK_cell szDz_cells HO1.out hml hmj (i := 4) (by decide)
      obtain ⟨z4, hz4⟩ : ∃ z, w1.cell? ⟨w.heap.size, j * 5 + 4, none⟩ = some z := ⟨_, by simpa [] using (k4.trans (List.getElem?_eq_getElem (by rw [kDz.len]; decide)))⟩
      have g4 : w1.frozen? ⟨w.heap.size, j * 5 + 4, none⟩ = false := by simpa using f4
      clear k4 f4
      have p1 := ownK_put szDz_cells HO1.out hml hmj m1
      have p2 := setCells_grown w.heap.size (kDz.cells m1) (j * 5) w1
      rw [dy] at p1 p2
      have HP1 := Lib.hid (show OwnK 61 kDz.cells 5 w.heap.size (((((w1.setCell ⟨w.heap.size, j * 5, none⟩ (.slice xy0 ny0 cy0)).setCell ⟨w.heap.size, j * 5 + 1, none⟩ (.slice xy1 ny1 cy1)).setCell ⟨w.heap.size, j * 5 + 2, none⟩ (.slice xy2 ny2 cy2)).setCell ⟨w.heap.size, j * 5 + 3, none⟩ (.int .i64 (kDz.strip m1).2.2.2.1)).setCell ⟨w.heap.size, j * 5 + 4, none⟩ (.int .i64 (kDz.strip m1).2.2.2.2)) _ _ from p1)
      have HP2 := Lib.hid (show w1.grownBy (((((w1.setCell ⟨w.heap.size, j * 5, none⟩ (.slice xy0 ny0 cy0)).setCell ⟨w.heap.size, j * 5 + 1, none⟩ (.slice xy1 ny1 cy1)).setCell ⟨w.heap.size, j * 5 + 2, none⟩ (.slice xy2 ny2 cy2)).setCell ⟨w.heap.size, j * 5 + 3, none⟩ (.int .i64 (kDz.strip m1).2.2.2.1)).setCell ⟨w.heap.size, j * 5 + 4, none⟩ (.int .i64 (kDz.strip m1).2.2.2.2)) (some w.heap.size) from p2)
      have HGL := Lib.hid hgl; have HGR := Lib.hid hgr
      clear hc0 hc1 hc2 hc3 hc4 hi1 hb1 hml hmj p1 p2 dy ey hm1 hgl hgr
      go_wp2
      go_roundw
      case rel =>
        refine ⟨j + 1, by omega, by go_num, M ++ [m1], Lib.hid (by simp [hM.out]), Lib.hid ?_, Lib.hid ?_, Lib.hid ?_, Lib.hid (HB1.out.grown HP2.out HB1.out.size (fun g hg => by cases hg; exact Nat.le_refl _))⟩
        · rw [List.map_append, hst.out, HST.out, List.map_cons, List.map_nil, HM1.out]
        · rw [← madeK'_step (by have := hM.out; omega), hM.out]; exact HP1.out
        · have h7 := HP2.out.size
          have h8 := HGR.out
          have h9 := HSZ.out
          exact ((HE1.out.snoc HX.out (by omega) (by omega)).grown HP2.out (by omega) (Nat.le_refl _)).keep (fun _ _ _ => rfl) |> fun h => ⟨h.1, h.2.1, fun g hg => ⟨(h.2.2 g hg).1, Nat.lt_of_lt_of_le (h.2.2 g hg).2 h7⟩⟩
      case measure => simp [intOf]; omega
    · obtain rfl : j = n := by omega
      clear hlt
      go_wp2
      go_ret
      refine ⟨_, rfl, ?_, hb.out⟩
      have h1 := ho.out
      rw [madeK'_all hM.out] at h1
      have h2 : M.map kDz.strip = l := by rw [hst.out, List.take_of_length_le (by rw [HLEN.out]; omega)]
      have h3 := (he.out.slice h1 (OwnK.lt h1 _ rfl).2).in
      rw [← h2]
      exact h3

theorem eqDataSK_len (x y : Option Addr) (n m cx cy : Nat) (w : World) (h : (((n : Nat) : Int) != ((m : Nat) : Int)) = true) :
    Calls Try.prog 51 #[.slice x n cx, .slice y m cy] w fun e w' => e = .returned (.bool false) ∧ w = w' := by
  go_enter Try.func51, Try.ntmps51
  go_wp2
  go_ret
  exact ⟨rfl, rfl⟩
set_option maxHeartbeats 4000000 in
theorem eqDataSK (V U : Value) (l m : List Dzt) (w : World) (q : Bool) (hq : decide (l = m) = q) (h : kLDz.At w V l) (g : kLDz.At w U m) (hl : l.length ≤ 100000000) (hm : m.length ≤ 100000000) (hsl : ∀ x ∈ l, adDz x ≤ 100000000) (hsm : ∀ x ∈ m, adDz x ≤ 100000000) :
    Calls Try.prog 51 #[V, U] w fun e w' => e = .returned (.bool q) ∧ Below w.heap.size w w' := by
  obtain ⟨x, n, cx, L, rfl, hn, hL, hh, hel⟩ := kLDz_at h
  obtain ⟨y, n2, cy, M, rfl, hn2, hM, hg, hem⟩ := kLDz_at g
  have hnl : l.length = n := by rw [← hL, List.length_map]; exact hn.symm
  have hnm : m.length = n2 := by rw [← hM, List.length_map]; exact hn2.symm
  by_cases he : n = n2
  · subst he
    rw [hnl] at hl
    have HN := Lib.hid hn; have HM := Lib.hid hn2; have HNL := Lib.hid hnl; have HNM9 := Lib.hid hnm
    have HH := Lib.hid hh; have HG := Lib.hid hg; have HEL := Lib.hid hel; have HEM := Lib.hid hem
    have HTL := Lib.hid hL; have HTM := Lib.hid hM; have HQ := Lib.hid hq; have HSL := Lib.hid hsl; have HSM := Lib.hid hsm
    have htest : (((n : Nat) : Int) != ((n : Nat) : Int)) = false := by simp
    clear hn h hh g hg hn2 hL hM hq hsl hsm hel hem hnl hnm hm
    go_enter Try.func51, Try.ntmps51
    go_wp2
    go_loopw [5] (fun i wr => ∃ k : Nat, k ≤ n ∧ i = .int .i64 k ∧ Hid (agree l m k) ∧ Hid (Below w.heap.size w wr)) (fun i _ => n - (intOf i).toNat)
    case atStart => exact ⟨0, Nat.zero_le _, rfl, Lib.hid (agree_zero _ _), Lib.hid (Below.refl _ _)⟩
    case round =>
      obtain ⟨k, hk, rfl, ha, hb⟩ := hrel
      by_cases hlt : k < n
      · have hlen := HN.out
        have hlen2 := HM.out
        obtain ⟨b, off, x0, n0, c0, x1, n1, c1, x2, n2, c2, rfl, -, hc0, hc1, hc2, hc3, hc4, hnm⟩ := kLDz_elem (HH.out.on hb.out) (fun y hy => kDz.holds_on (HEL.out y hy) hb.out) (j := k) (by omega)
        obtain ⟨b', off', xy0, ny0, cy0, xy1, ny1, cy1, xy2, ny2, cy2, rfl, -, hd0, hd1, hd2, hd3, hd4, hnm'⟩ := kLDz_elem (HG.out.on hb.out) (fun y hy => kDz.holds_on (HEM.out y hy) hb.out) (j := k) (by omega)
        have e1 : nth l k = kDz.strip (nth L k) := by rw [← HTL.out, nth_map _ (by omega)]
        have e2 : nth m k = kDz.strip (nth M k) := by rw [← HTM.out, nth_map _ (by omega)]
        have hl1 := HSL.out (nth l k) (nth_mem (by have := HNL.out; omega)); rw [e1] at hl1
        have hl2 := HSM.out (nth m k) (nth_mem (by have := HNM9.out; omega)); rw [e2] at hl2
        have HL := Lib.hid hl1; have HL' := Lib.hid hl2
        have HC0 := Lib.hid hc0; have HD0 := Lib.hid hd0; have HC1 := Lib.hid hc1; have HD1 := Lib.hid hd1; have HC2 := Lib.hid hc2; have HD2 := Lib.hid hd2; have HC3 := Lib.hid hc3; have HD3 := Lib.hid hd3; have HC4 := Lib.hid hc4; have HD4 := Lib.hid hd4
        have HNM := Lib.hid hnm; have HNM' := Lib.hid hnm'
        by_cases hq : kDz.strip (nth L k) = kDz.strip (nth M k)
        · have HE1 : Hid (decide (kDz.strip (nth L k) = kDz.strip (nth M k)) = true) := Lib.hid (decide_eq_true hq)
          have HA := Lib.hid (agree_succ ha.out (by rw [e1, e2, hq]))
          clear hq hlen hlen2 e1 e2 hc0 hc1 hc2 hc3 hc4 hd0 hd1 hd2 hd3 hd4 hnm hnm' hl1 hl2
          go_wp2_with fail
          go_region_held3 (fun w' => w'.cell? ⟨b, off + k * 5, none⟩ = some (.slice x0 n0 c0) ∧ w'.cell? ⟨b, off + k * 5 + 1, none⟩ = some (.slice x1 n1 c1) ∧ w'.cell? ⟨b, off + k * 5 + 2, none⟩ = some (.slice x2 n2 c2) ∧ w'.cell? ⟨b, off + k * 5 + 3, none⟩ = some (.int .i64 (kDz.strip (nth L k)).2.2.2.1) ∧ w'.cell? ⟨b, off + k * 5 + 4, none⟩ = some (.int .i64 (kDz.strip (nth L k)).2.2.2.2) ∧ w'.cell? ⟨b', off' + k * 5, none⟩ = some (.slice xy0 ny0 cy0) ∧ w'.cell? ⟨b', off' + k * 5 + 1, none⟩ = some (.slice xy1 ny1 cy1) ∧ w'.cell? ⟨b', off' + k * 5 + 2, none⟩ = some (.slice xy2 ny2 cy2) ∧ w'.cell? ⟨b', off' + k * 5 + 3, none⟩ = some (.int .i64 (kDz.strip (nth M k)).2.2.2.1) ∧ w'.cell? ⟨b', off' + k * 5 + 4, none⟩ = some (.int .i64 (kDz.strip (nth M k)).2.2.2.2) ∧ Below w.heap.size w w') (first | exact ⟨kc HC0.out ((Below.refl _ _).drew), kc HC1.out ((Below.refl _ _).drew), kc HC2.out ((Below.refl _ _).drew), kc HC3.out ((Below.refl _ _).drew), kc HC4.out ((Below.refl _ _).drew), kc HD0.out ((Below.refl _ _).drew), kc HD1.out ((Below.refl _ _).drew), kc HD2.out ((Below.refl _ _).drew), kc HD3.out ((Below.refl _ _).drew), kc HD4.out ((Below.refl _ _).drew), hb.out.trans (Below.mono ((Below.refl _ _).drew) hb.out.size)⟩ | exact ⟨kc HC0.out (hb1.mono (Nat.le_refl _)), kc HC1.out (hb1.mono (Nat.le_refl _)), kc HC2.out (hb1.mono (Nat.le_refl _)), kc HC3.out (hb1.mono (Nat.le_refl _)), kc HC4.out (hb1.mono (Nat.le_refl _)), kc HD0.out (hb1.mono (Nat.le_refl _)), kc HD1.out (hb1.mono (Nat.le_refl _)), kc HD2.out (hb1.mono (Nat.le_refl _)), kc HD3.out (hb1.mono (Nat.le_refl _)), kc HD4.out (hb1.mono (Nat.le_refl _)), hb.out.trans (Below.mono (hb1.mono (Nat.le_refl _)) hb.out.size)⟩ | exact ⟨kc HC0.out ((Below.refl _ _).drew.trans (hb1.mono (Nat.le_refl _))), kc HC1.out ((Below.refl _ _).drew.trans (hb1.mono (Nat.le_refl _))), kc HC2.out ((Below.refl _ _).drew.trans (hb1.mono (Nat.le_refl _))), kc HC3.out ((Below.refl _ _).drew.trans (hb1.mono (Nat.le_refl _))), kc HC4.out ((Below.refl _ _).drew.trans (hb1.mono (Nat.le_refl _))), kc HD0.out ((Below.refl _ _).drew.trans (hb1.mono (Nat.le_refl _))), kc HD1.out ((Below.refl _ _).drew.trans (hb1.mono (Nat.le_refl _))), kc HD2.out ((Below.refl _ _).drew.trans (hb1.mono (Nat.le_refl _))), kc HD3.out ((Below.refl _ _).drew.trans (hb1.mono (Nat.le_refl _))), kc HD4.out ((Below.refl _ _).drew.trans (hb1.mono (Nat.le_refl _))), hb.out.trans (Below.mono ((Below.refl _ _).drew.trans (hb1.mono (Nat.le_refl _))) hb.out.size)⟩) ((go_at_call 32; refine (eqDataK _ _ _ _ _ _ HE1.out (HNM.out.on (Below.refl _ _).drew) (HNM'.out.on (Below.refl _ _).drew) HL.out HL'.out).mono ?_; rintro e w1 ⟨rfl, hb1⟩))
          all_goals
            have HB2 := Lib.hid (hb.out.drew.trans (hb1.mono hb.out.size))
            clear hb1
            go_wp2_with fail
            go_roundw
            case rel => exact ⟨k + 1, by omega, by go_num, HA, HB2⟩
            case measure => simp [intOf]; omega
        · have HE1 : Hid (decide (kDz.strip (nth L k) = kDz.strip (nth M k)) = false) := Lib.hid (decide_eq_false hq)
          have HA : Hid (q = false) := Lib.hid (by rw [← HQ.out]; exact decide_eq_false (differ_K (k := k) (by rw [e1, e2]; exact hq)))
          clear hq hlen hlen2 e1 e2 hc0 hc1 hc2 hc3 hc4 hd0 hd1 hd2 hd3 hd4 hnm hnm' hl1 hl2
          go_wp2_with fail
          go_region_held3 (fun w' => w'.cell? ⟨b, off + k * 5, none⟩ = some (.slice x0 n0 c0) ∧ w'.cell? ⟨b, off + k * 5 + 1, none⟩ = some (.slice x1 n1 c1) ∧ w'.cell? ⟨b, off + k * 5 + 2, none⟩ = some (.slice x2 n2 c2) ∧ w'.cell? ⟨b, off + k * 5 + 3, none⟩ = some (.int .i64 (kDz.strip (nth L k)).2.2.2.1) ∧ w'.cell? ⟨b, off + k * 5 + 4, none⟩ = some (.int .i64 (kDz.strip (nth L k)).2.2.2.2) ∧ w'.cell? ⟨b', off' + k * 5, none⟩ = some (.slice xy0 ny0 cy0) ∧ w'.cell? ⟨b', off' + k * 5 + 1, none⟩ = some (.slice xy1 ny1 cy1) ∧ w'.cell? ⟨b', off' + k * 5 + 2, none⟩ = some (.slice xy2 ny2 cy2) ∧ w'.cell? ⟨b', off' + k * 5 + 3, none⟩ = some (.int .i64 (kDz.strip (nth M k)).2.2.2.1) ∧ w'.cell? ⟨b', off' + k * 5 + 4, none⟩ = some (.int .i64 (kDz.strip (nth M k)).2.2.2.2) ∧ Below w.heap.size w w') (first | exact ⟨kc HC0.out ((Below.refl _ _).drew), kc HC1.out ((Below.refl _ _).drew), kc HC2.out ((Below.refl _ _).drew), kc HC3.out ((Below.refl _ _).drew), kc HC4.out ((Below.refl _ _).drew), kc HD0.out ((Below.refl _ _).drew), kc HD1.out ((Below.refl _ _).drew), kc HD2.out ((Below.refl _ _).drew), kc HD3.out ((Below.refl _ _).drew), kc HD4.out ((Below.refl _ _).drew), hb.out.trans (Below.mono ((Below.refl _ _).drew) hb.out.size)⟩ | exact ⟨kc HC0.out (hb1.mono (Nat.le_refl _)), kc HC1.out (hb1.mono (Nat.le_refl _)), kc HC2.out (hb1.mono (Nat.le_refl _)), kc HC3.out (hb1.mono (Nat.le_refl _)), kc HC4.out (hb1.mono (Nat.le_refl _)), kc HD0.out (hb1.mono (Nat.le_refl _)), kc HD1.out (hb1.mono (Nat.le_refl _)), kc HD2.out (hb1.mono (Nat.le_refl _)), kc HD3.out (hb1.mono (Nat.le_refl _)), kc HD4.out (hb1.mono (Nat.le_refl _)), hb.out.trans (Below.mono (hb1.mono (Nat.le_refl _)) hb.out.size)⟩ | exact ⟨kc HC0.out ((Below.refl _ _).drew.trans (hb1.mono (Nat.le_refl _))), kc HC1.out ((Below.refl _ _).drew.trans (hb1.mono (Nat.le_refl _))), kc HC2.out ((Below.refl _ _).drew.trans (hb1.mono (Nat.le_refl _))), kc HC3.out ((Below.refl _ _).drew.trans (hb1.mono (Nat.le_refl _))), kc HC4.out ((Below.refl _ _).drew.trans (hb1.mono (Nat.le_refl _))), kc HD0.out ((Below.refl _ _).drew.trans (hb1.mono (Nat.le_refl _))), kc HD1.out ((Below.refl _ _).drew.trans (hb1.mono (Nat.le_refl _))), kc HD2.out ((Below.refl _ _).drew.trans (hb1.mono (Nat.le_refl _))), kc HD3.out ((Below.refl _ _).drew.trans (hb1.mono (Nat.le_refl _))), kc HD4.out ((Below.refl _ _).drew.trans (hb1.mono (Nat.le_refl _))), hb.out.trans (Below.mono ((Below.refl _ _).drew.trans (hb1.mono (Nat.le_refl _))) hb.out.size)⟩) ((go_at_call 32; refine (eqDataK _ _ _ _ _ _ HE1.out (HNM.out.on (Below.refl _ _).drew) (HNM'.out.on (Below.refl _ _).drew) HL.out HL'.out).mono ?_; rintro e w1 ⟨rfl, hb1⟩))
          all_goals
            have HB2 := Lib.hid (hb.out.drew.trans (hb1.mono hb.out.size))
            clear hb1
            go_wp2_with fail
            go_ret
            exact ⟨ret_bool HA.out.symm, HB2.out⟩
      · obtain rfl : k = n := by omega
        have HD : Hid (q = true) := Lib.hid (by rw [← HQ.out]; exact decide_eq_true (agree_all (by rw [HNL.out, HNM9.out]) (by rw [HNL.out]; exact ha.out)))
        clear hlt
        go_wp2
        go_ret
        exact ⟨ret_bool HD.out.symm, hb.out⟩
  · have htest : (((n : Nat) : Int) != ((n2 : Nat) : Int)) = true := by
      rw [bne_iff_ne]; omega
    have hf : q = false := by rw [← hq]; exact decide_eq_false (fun e => he (by rw [← hnl, ← hnm, e]))
    rw [hf]
    exact (eqDataSK_len x y _ _ cx cy w htest).mono fun e w' ⟨h1, h2⟩ => ⟨h1, by subst h2; exact Below.refl _ _⟩
def inLDz (l : List Dzt) : Prop := l.length ≤ 9223372036854775807 ∧ ∀ x ∈ l, inDz x
theorem inLDz.ok {l : List Dzt} (h : inLDz l) : okLDz l := ⟨h.1, fun x hx => (h.2 x hx).ok⟩
def adLDz (l : List Dzt) : Nat := bulkK adDz l
theorem toLDzK (V : Value) (l : List Dzt) (w : World) (h : kLDz.At w V l) (hl : adLDz l ≤ 100000000) :
    Calls Try.prog 44 #[V] w fun e w' => ∃ U, e = .returned U ∧ kLDz.In w.heap.size w'.heap.size w' U l ∧ Below w.heap.size w w' :=
  toDataSK V l w h (Nat.le_trans (bulkK_len _ _) hl) (fun x hx => Nat.le_trans (bulkK_mem hx) hl)
/-! ### as a field of a struct (kstruct.py's LIST) -/
theorem szDataSF (V : Value) (l : List Dzt) (w : World) (left : Int) (h : kLDz.At w V l) (hp : okLDz l) (h0 : 0 ≤ left) (h1 : left ≤ 1048576) :
    Calls Try.prog 37 #[V, .int .i64 left] w fun e w' => e = .returned (.int .i64 (szW (bulkK wtDz l) left)) ∧ Below w.heap.size w w' := szDataSK V l w left h hp h0 h1
theorem toDataSF (V : Value) (l : List Dzt) (w : World) (h : kLDz.At w V l) (hl : bulkK adDz l ≤ 100000000) :
    Calls Try.prog 44 #[V] w fun e w' => ∃ U, e = .returned U ∧ kLDz.In w.heap.size w'.heap.size w' U l ∧ Below w.heap.size w w' := toLDzK V l w h hl
theorem eqDataSF (V U : Value) (l m : List Dzt) (w : World) (q : Bool) (hq : decide (l = m) = q) (h : kLDz.At w V l) (g : kLDz.At w U m) (hl : bulkK adDz l ≤ 100000000) (hm : bulkK adDz m ≤ 100000000) :
    Calls Try.prog 51 #[V, U] w fun e w' => e = .returned (.bool q) ∧ Below w.heap.size w w' :=
  eqDataSK V U l m w q hq h g (Nat.le_trans (bulkK_len _ _) hl) (Nat.le_trans (bulkK_len _ _) hm) (fun x hx => Nat.le_trans (bulkK_mem hx) hl) (fun x hx => Nat.le_trans (bulkK_mem hx) hm)
theorem opens_DataS : OpensK Try.prog kLDz 25 inLDz := opens_slice Try.underlying25 (by kernel_rfl) (by decide) opens_Data
end Go.Proofs.Ytcidfmmeonhkhaa.Row
