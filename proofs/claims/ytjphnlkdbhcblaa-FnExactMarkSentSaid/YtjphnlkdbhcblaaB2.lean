/- Contracts and mathematics, joined: SeenNonceSK, FindK, PushK, LibS, Cmp, Num, Trunc, Pref, Part, Valid, AppP, Want, Gives, Conv, VarMath, Var, ReadV, ReadVI, Bytes, Ints, WantS, WantV, Clone, EqN, KWant, ReadB, WantE, WantP, PendMath, PendK, PendA. No conditions but those that each states. -/
import Derived.Test.YtjphnlkdbhcblaaB1
import Derived.Lib.AppendZerosOnto
import Derived.Lib.SliceRun
import Derived.Deep.RegionHeld3
import Derived.Test.YtjphnlkdbhcblaaRows
import Derived.WalkKit
import Derived.ProofKit
import Derived.WalkLawsBesides
import Derived.Lib.Hide
import Derived.LoopTactic
import Derived.Lib.SmallJoins
import Derived.Laws.RangeAny
import Derived.Lib.ConvBytes
import Derived.Laws.BitsLemmas
import Derived.Laws.Bits128
import Derived.Laws.ShiftsVarLaws
import Derived.Laws.BytesArg
import Derived.Deep.Cut
import Derived.SizedLaws
import Derived.ChangeSlices
import Derived.ChangeSame
import Derived.ChangeArms
import Derived.Deep.Strs
import Derived.Deep.RegionLaw
/- Lists of seen nonces in the words of kinds: sz, to, eq. No conditions but that lengths fit. -/
namespace Go.Proofs.Ytjphnlkdbhcblaa.Row
open Go.ChangeShapes Go.WideShapes Go.ChangeAt Go.RowKit Go.Instr
set_option linter.unusedVariables false
set_option maxRecDepth 100000
def kLSn : Kd (List Snt) (Rw Snm) := kSn.slice 38
theorem szSn_cells : Sz kSn.cells 2 := fun m => kSn.len m
theorem kindSn : Kind Try.prog 38 kSn.cells (.agg #[.slice none 0 0, .int .i64 0]) 2 32 where
  elem := by unfold ElemK; kernel_rfl
  zs := rfl
  pos := by decide
  size := szSn_cells
  one := fun m u hu => kSn.one m u hu
def okLSn (l : List Snt) : Prop := l.length ≤ 9223372036854775807 ∧ ∀ x ∈ l, okSn x
section
variable {w : World} {V : Value} {l : List Snt} {B E : Nat}
theorem kLSn_at (h : kLSn.At w V l) : ∃ ad n cap L, V = .slice ad n cap ∧ n = L.length ∧ L.map kSn.strip = l ∧ HoldsK kSn.cells 2 w (.slice ad n cap) L ∧ ∀ x ∈ L, kSn.holds w x := by
  obtain ⟨⟨ad, n, cap, L⟩, hV, hl, hh, hel⟩ := h
  exact ⟨ad, n, cap, L, hV, HoldsK.lenEq (show HoldsK kSn.cells 2 w (.slice ad n cap) L from hh), hl, hh, hel⟩
theorem kLSn_shapeA (h : kLSn.At w V l) : ∃ x n c, V = .slice x n c ∧ kLSn.At w (.slice x n c) l := by
  obtain ⟨ad, n, cap, L, rfl, -⟩ := kLSn_at h
  exact ⟨ad, n, cap, rfl, h⟩
theorem kLSn_shape (h : kLSn.In B E w V l) : ∃ x n c, V = .slice x n c ∧ kLSn.In B E w (.slice x n c) l := by
  obtain ⟨ad, n, cap, L, rfl, -⟩ := kLSn_at h.at
  exact ⟨ad, n, cap, rfl, h⟩
theorem kLSn_elem {x : Option Addr} {n cap : Nat} {L : List Snm} (h : HoldsK kSn.cells 2 w (.slice x n cap) L) (hel : ∀ y ∈ L, kSn.holds w y) {j : Nat} (hj : j < L.length) :
    ∃ (b off : Nat) (x0 : Option Addr) (n0 c0 : Nat), x = some ⟨b, off, none⟩ ∧ kSn.cells (nth L j) = [.slice x0 n0 c0, .int .i64 (kSn.strip (nth L j)).2] ∧ w.cell? ⟨b, off + j * 2, none⟩ = some (.slice x0 n0 c0) ∧ w.cell? ⟨b, off + j * 2 + 1, none⟩ = some (.int .i64 (kSn.strip (nth L j)).2) ∧ kSn.At w (.agg #[.slice x0 n0 c0, .int .i64 (kSn.strip (nth L j)).2]) (kSn.strip (nth L j)) := by
  obtain ⟨b, off, hx, hc⟩ := h.at szSn_cells hj
  obtain ⟨x0, n0, c0, e, ha⟩ := kSn_shapeA (Kd.at_of (k := kSn) (hel _ (nth_mem hj)))
  have d : kSn.cells (nth L j) = [.slice x0 n0 c0, .int .i64 (kSn.strip (nth L j)).2] := by injection e with e; exact congrArg Array.toList e
  rw [d] at hc
  exact ⟨b, off, x0, n0, c0, hx, d, by have := hc 0 (by decide); simpa [Nat.add_assoc] using this, by have := hc 1 (by decide); simpa [Nat.add_assoc] using this, ha⟩
end
set_option maxHeartbeats 4000000 in
theorem szSeenNonceSK (V : Value) (l : List Snt) (w : World) (left : Int) (h : kLSn.At w V l) (hp : okLSn l) (h0 : 0 ≤ left) (h1 : left ≤ 1048576) :
    Calls Try.prog 26 #[V, .int .i64 left] w fun e w' => e = .returned (.int .i64 (szW (bulkK wtSn l) left)) ∧ Below w.heap.size w w' := by
  obtain ⟨ad, n, cap, L, rfl, hn, hl, hh, hel⟩ := kLSn_at h
  have hle := bulkKTo_le wtSn l
  have hb0 := bulkKTo_zero wtSn l
  have hlen : l.length = n := by rw [← hl, List.length_map]; exact hn.symm
  obtain ⟨p0, hs⟩ := hp
  rw [hlen] at p0 hb0
  by_cases hbig : left < (n : Int)
  · have hS : szW (bulkK wtSn l) left = -1 := szW_not (by have := bulkK_len wtSn l; omega)
    rw [hS]
    clear hh h hs hle hn hb0 hS hl hlen hel
    go_enter Try.func26, Try.ntmps26
    go_wp2
    go_ret
    exact ⟨rfl, Below.refl _ _⟩
  have HN := Lib.hid hn; have HT := Lib.hid hl; have HH := Lib.hid hh; have HEL := Lib.hid hel; have HS := Lib.hid hs; have HLE := Lib.hid hle; have HB0 := Lib.hid hb0; have HLEN := Lib.hid hlen
  clear hn h hh hs hle hb0 hl hlen hel
  go_enter Try.func26, Try.ntmps26
  go_wp2
  go_loopw [1, 5] (fun lv i wr => ∃ k : Nat, k ≤ n ∧ i = .int .i64 k ∧ ∃ u : Int, lv = .int .i64 u ∧ u = left - bulkKTo wtSn l k ∧ 0 ≤ u ∧ Hid (Below w.heap.size w wr)) (fun _ i _ => n - (intOf i).toNat)
  case atStart => exact ⟨0, Nat.zero_le _, rfl, _, rfl, by rw [HB0.out], by omega, Lib.hid (Below.refl _ _)⟩
  case round =>
    obtain ⟨k, hk, rfl, u, rfl, hu, h0u, hb⟩ := hrel
    have hub : u ≤ left := by omega
    have HU := Lib.hid hu
    clear hu
    by_cases hlt : k < n
    · have hlen := HN.out
      obtain ⟨b, off, x0, n0, c0, rfl, -, hc0, hc1, ha⟩ := kLSn_elem (HH.out.on hb.out) (fun y hy => kSn.holds_on (HEL.out y hy) hb.out) (j := k) (by omega)
      have hpt : nth l k = kSn.strip (nth L k) := by rw [← HT.out, nth_map _ (by omega)]
      have hsz := HS.out (nth l k) (nth_mem (by have := HLEN.out; omega))
      rw [hpt] at hsz
      have HA := Lib.hid ha
      have HSZ := Lib.hid hsz
      have hstep := Lib.hid (bulkKTo_succ wtSn l (j := k) (by have := HLEN.out; omega))
      rw [hpt] at hstep
      have HALL := Lib.hid (HLE.out (k + 1))
      clear hlen hsz hpt ha
      go_wp2_with fail
      refine (szSeenNonceK _ _ wr u HA.out HSZ.out h0u (by omega)).mono ?_
      rintro e w1 ⟨rfl, hb1⟩
      have HB1 := Lib.hid (hb.out.trans (hb1.mono hb.out.size))
      clear hb1 hc0 hc1
      by_cases c1 : (wtSn (kSn.strip (nth L k)) : Int) ≤ u
      · rw [szW_fit c1]
        have h2 : ¬ u - (wtSn (kSn.strip (nth L k)) : Int) < 0 := by omega
        go_wp2
        go_roundw
        case rel => exact ⟨k + 1, by omega, by go_num, _, rfl, by rw [hstep.out, HU.out]; omega, by omega, HB1⟩
        case measure => simp [intOf]; omega
      · rw [szW_not c1]
        have HZ : Hid (szW (bulkK wtSn l) left = -1) := by
          have e1 := HALL.out; have e2 := HU.out; have e3 := hstep.out
          exact Lib.hid (szW_not (by omega))
        clear c1
        go_wp2
        go_ret
        exact ⟨ret_int HZ.out.symm, HB1.out⟩
    · obtain rfl : k = n := by omega
      clear hlt
      go_wp2
      go_ret
      refine ⟨ret_int ?_, hb.out⟩
      have := HU.out
      rw [← HLEN.out] at this
      rw [szW_fit (by unfold bulkK; omega)]
      exact this
set_option maxHeartbeats 4000000 in
theorem toSeenNonceSK (V : Value) (l : List Snt) (w : World) (h : kLSn.At w V l) (hl : l.length ≤ 100000000) (hs : ∀ x ∈ l, adSn x ≤ 100000000) :
    Calls Try.prog 29 #[V] w fun e w' => ∃ U, e = .returned U ∧ kLSn.In w.heap.size w'.heap.size w' U l ∧ Below w.heap.size w w' := by
  obtain ⟨ad, n, cap, L, rfl, hn, ht, hh, hel⟩ := kLSn_at h
  obtain ⟨i0, hi, hz0, hz1, hz2⟩ := info_parts kindSn.elem
  have hlen : l.length = n := by rw [← ht, List.length_map]; exact hn.symm
  rw [hlen] at hl
  have HN := Lib.hid hn; have HT := Lib.hid ht; have HH := Lib.hid hh; have HEL := Lib.hid hel; have HS := Lib.hid hs; have HLEN := Lib.hid hlen
  have HI := Lib.hid hi; have HZ0 := Lib.hid hz0; have HZ1 := Lib.hid hz1; have HZ2 := Lib.hid hz2
  clear hn h hh hi hz0 hz1 hz2 hs ht hel hlen
  go_enter Try.func29, Try.ntmps29
  go_wp2_with (at_make; refine wpList_make_full _ rfl _ _ 24 rfl w.heap.size 38 i0 (.agg #[.slice none 0 0, .int .i64 0]) 2 Try.underlying24 HI.out HZ0.out HZ1.out _ _ _ _ n rfl rfl rfl rfl (by rw [HZ2.out]; omega) (by unfold maxLen; omega) (Nat.le_refl _) ?_)
  intro w1 hown hgrow
  have ho : OwnK 38 kSn.cells 2 w.heap.size w1 (.slice (some ⟨w.heap.size, 0, none⟩) n n) (madeK' [] n) := by
    have e1 : madeK' ([] : List Snm) n = List.replicate n default := by simp [madeK']
    rw [e1]
    unfold OwnK
    rw [List.length_replicate, ← madeK szSn_cells (by decide) (z := .agg #[.slice none 0 0, .int .i64 0]) rfl n]
    exact hown
  have HO := Lib.hid ho
  have HB := Lib.hid ((Below.refl w.heap.size w).grown hgrow (Nat.le_refl _) (fun g hg => by cases hg))
  have HG := Lib.hid (show w.heap.size < w1.heap.size from (OwnK.lt ho _ rfl).2)
  clear ho hown hgrow
  go_wp2
  go_loopw [4] (fun i wr => ∃ j : Nat, j ≤ n ∧ i = .int .i64 j ∧ ∃ M : List Snm, Hid (M.length = j) ∧ Hid (M.map kSn.strip = l.take j) ∧ Hid (OwnK 38 kSn.cells 2 w.heap.size wr (.slice (some ⟨w.heap.size, 0, none⟩) n n) (madeK' M n)) ∧ Hid (kSn.EOwn (w.heap.size + 1) wr.heap.size wr M) ∧ Hid (Below w.heap.size w wr)) (fun i _ => n - (intOf i).toNat)
  case atStart => exact ⟨0, Nat.zero_le _, rfl, [], Lib.hid rfl, Lib.hid (by simp), HO, Lib.hid (Kd.EOwn.nil _ _ _ _), HB⟩
  case round =>
    obtain ⟨j, hj, rfl, M, hM, hst, ho, he, hb⟩ := hrel
    by_cases hlt : j < n
    · have hlen := HN.out
      obtain ⟨b, off, x0, n0, c0, rfl, -, hc0, hc1, ha⟩ := kLSn_elem (HH.out.on hb.out) (fun y hy => kSn.holds_on (HEL.out y hy) hb.out) (j := j) (by omega)
      have HA := Lib.hid ha
      have hpt : nth l j = kSn.strip (nth L j) := by rw [← HT.out, nth_map _ (by omega)]
      have hps := HS.out (nth l j) (nth_mem (by have := HLEN.out; omega))
      rw [hpt] at hps
      have HPS := Lib.hid hps
      have HST := Lib.hid (show l.take (j + 1) = l.take j ++ [kSn.strip (nth L j)] by rw [← HT.out]; exact take_map_succ _ (by omega))
      clear hlen ha hpt hps
      go_wp2_with fail
      refine (toSeenNonceK _ _ wr HA.out HPS.out).mono ?_
      rintro e w1 ⟨U, rfl, hi1, hb1⟩
      obtain ⟨m1, rfl, hm1, hi1⟩ := hi1.split
      obtain ⟨xy0, ny0, cy0, ey, -⟩ := kSn_shapeA (Kd.at_of (k := kSn) hi1.holds)
      have dy : kSn.cells m1 = [.slice xy0 ny0 cy0, .int .i64 (kSn.strip m1).2] := by injection ey with e; exact congrArg Array.toList e
      rw [ey]
      have HO1 := Lib.hid (ho.out.on hb1)
      have HE1 := Lib.hid (he.out.on hb1 (Nat.le_refl _))
      have HX := Lib.hid hi1
      have HB1 := Lib.hid (hb.out.trans (hb1.mono hb.out.size))
      have HSZ := Lib.hid hb1.size
      have HDY := Lib.hid dy
      have HM1 := Lib.hid hm1
      have hml : n = (madeK' M n).length := (madeK'_length (by have := hM.out; omega)).symm
      have hmj : j < (madeK' M n).length := by omega
      have hgl := (OwnK.lt HO1.out _ rfl).2
      have hgr := (OwnK.lt ho.out _ rfl).2
      obtain ⟨k0, f0⟩ := ownK_cell szSn_cells HO1.out hml hmj (i := 0) (by decide)
      obtain ⟨z0, hz0⟩ : ∃ z, w1.cell? ⟨w.heap.size, j * 2, none⟩ = some z := ⟨_, by simpa [Nat.add_zero] using (k0.trans (List.getElem?_eq_getElem (by rw [kSn.len]; decide)))⟩
      have g0 : w1.frozen? ⟨w.heap.size, j * 2, none⟩ = false := by simpa using f0
      clear k0 f0
      obtain ⟨k1, f1⟩ := ownK_cell szSn_cells HO1.out hml hmj (i := 1) (by decide)
      obtain ⟨z1, hz1⟩ : ∃ z, w1.cell? ⟨w.heap.size, j * 2 + 1, none⟩ = some z := ⟨_, by simpa [] using (k1.trans (List.getElem?_eq_getElem (by rw [kSn.len]; decide)))⟩
      have g1 : w1.frozen? ⟨w.heap.size, j * 2 + 1, none⟩ = false := by simpa using f1
      clear k1 f1
      have p1 := ownK_put szSn_cells HO1.out hml hmj m1
      have p2 := setCells_grown w.heap.size (kSn.cells m1) (j * 2) w1
      rw [dy] at p1 p2
      have HP1 := Lib.hid (show OwnK 38 kSn.cells 2 w.heap.size ((w1.setCell ⟨w.heap.size, j * 2, none⟩ (.slice xy0 ny0 cy0)).setCell ⟨w.heap.size, j * 2 + 1, none⟩ (.int .i64 (kSn.strip m1).2)) _ _ from p1)
      have HP2 := Lib.hid (show w1.grownBy ((w1.setCell ⟨w.heap.size, j * 2, none⟩ (.slice xy0 ny0 cy0)).setCell ⟨w.heap.size, j * 2 + 1, none⟩ (.int .i64 (kSn.strip m1).2)) (some w.heap.size) from p2)
      have HGL := Lib.hid hgl; have HGR := Lib.hid hgr
      clear hc0 hc1 hi1 hb1 hml hmj p1 p2 dy ey hm1 hgl hgr
      go_wp2
      go_roundw
      case rel =>
        refine ⟨j + 1, by omega, by go_num, M ++ [m1], Lib.hid (by simp [hM.out]), Lib.hid ?_, Lib.hid ?_, Lib.hid ?_, Lib.hid (HB1.out.grown HP2.out HB1.out.size (fun g hg => by cases hg; exact Nat.le_refl _))⟩
        · rw [List.map_append, hst.out, HST.out, List.map_cons, List.map_nil, HM1.out]
        · rw [← madeK'_step (by have := hM.out; omega), hM.out]; exact HP1.out
        · have h7 := HP2.out.size
          have h8 := HGR.out
          have h9 := HSZ.out
          exact ((HE1.out.snoc HX.out (by omega) (by omega)).grown HP2.out (by omega) (Nat.le_refl _)).keep (fun _ _ _ => rfl) |> fun h => ⟨h.1, h.2.1, fun g hg => ⟨(h.2.2 g hg).1, Nat.lt_of_lt_of_le (h.2.2 g hg).2 h7⟩⟩
      case measure => simp [intOf]; omega
    · obtain rfl : j = n := by omega
      clear hlt
      go_wp2
      go_ret
      refine ⟨_, rfl, ?_, hb.out⟩
      have h1 := ho.out
      rw [madeK'_all hM.out] at h1
      have h2 : M.map kSn.strip = l := by rw [hst.out, List.take_of_length_le (by rw [HLEN.out]; omega)]
      have h3 := (he.out.slice h1 (OwnK.lt h1 _ rfl).2).in
      rw [← h2]
      exact h3
theorem eqSeenNonceSK_len (x y : Option Addr) (n m cx cy : Nat) (w : World) (h : (((n : Nat) : Int) != ((m : Nat) : Int)) = true) :
    Calls Try.prog 31 #[.slice x n cx, .slice y m cy] w fun e w' => e = .returned (.bool false) ∧ w = w' := by
  go_enter Try.func31, Try.ntmps31
  go_wp2
  go_ret
  exact ⟨rfl, rfl⟩
theorem differ_Sn {α : Type} [Inhabited α] {a b : List α} {k : Nat} (h : nth a k ≠ nth b k) : a ≠ b := fun e => h (by rw [e])
set_option maxHeartbeats 4000000 in
theorem eqSeenNonceSK (V U : Value) (l m : List Snt) (w : World) (q : Bool) (hq : decide (l = m) = q) (h : kLSn.At w V l) (g : kLSn.At w U m) (hl : l.length ≤ 100000000) (hm : m.length ≤ 100000000) (hsl : ∀ x ∈ l, adSn x ≤ 100000000) (hsm : ∀ x ∈ m, adSn x ≤ 100000000) :
    Calls Try.prog 31 #[V, U] w fun e w' => e = .returned (.bool q) ∧ Below w.heap.size w w' := by
  obtain ⟨x, n, cx, L, rfl, hn, hL, hh, hel⟩ := kLSn_at h
  obtain ⟨y, n2, cy, M, rfl, hn2, hM, hg, hem⟩ := kLSn_at g
  have hnl : l.length = n := by rw [← hL, List.length_map]; exact hn.symm
  have hnm : m.length = n2 := by rw [← hM, List.length_map]; exact hn2.symm
  by_cases he : n = n2
  · subst he
    rw [hnl] at hl
    have HN := Lib.hid hn; have HM := Lib.hid hn2; have HNL := Lib.hid hnl; have HNM9 := Lib.hid hnm
    have HH := Lib.hid hh; have HG := Lib.hid hg; have HEL := Lib.hid hel; have HEM := Lib.hid hem
    have HTL := Lib.hid hL; have HTM := Lib.hid hM; have HQ := Lib.hid hq; have HSL := Lib.hid hsl; have HSM := Lib.hid hsm
    have htest : (((n : Nat) : Int) != ((n : Nat) : Int)) = false := by simp
    clear hn h hh g hg hn2 hL hM hq hsl hsm hel hem hnl hnm hm
    go_enter Try.func31, Try.ntmps31
    go_wp2
    go_loopw [5] (fun i wr => ∃ k : Nat, k ≤ n ∧ i = .int .i64 k ∧ Hid (agree l m k) ∧ Hid (Below w.heap.size w wr)) (fun i _ => n - (intOf i).toNat)
    case atStart => exact ⟨0, Nat.zero_le _, rfl, Lib.hid (agree_zero _ _), Lib.hid (Below.refl _ _)⟩
    case round =>
      obtain ⟨k, hk, rfl, ha, hb⟩ := hrel
      by_cases hlt : k < n
      · have hlen := HN.out
        have hlen2 := HM.out
        obtain ⟨b, off, x0, n0, c0, rfl, -, hc0, hc1, hnm⟩ := kLSn_elem (HH.out.on hb.out) (fun y hy => kSn.holds_on (HEL.out y hy) hb.out) (j := k) (by omega)
        obtain ⟨b', off', xy0, ny0, cy0, rfl, -, hd0, hd1, hnm'⟩ := kLSn_elem (HG.out.on hb.out) (fun y hy => kSn.holds_on (HEM.out y hy) hb.out) (j := k) (by omega)
        have e1 : nth l k = kSn.strip (nth L k) := by rw [← HTL.out, nth_map _ (by omega)]
        have e2 : nth m k = kSn.strip (nth M k) := by rw [← HTM.out, nth_map _ (by omega)]
        have hl1 := HSL.out (nth l k) (nth_mem (by have := HNL.out; omega)); rw [e1] at hl1
        have hl2 := HSM.out (nth m k) (nth_mem (by have := HNM9.out; omega)); rw [e2] at hl2
        have HL := Lib.hid hl1; have HL' := Lib.hid hl2
        have HC0 := Lib.hid hc0; have HD0 := Lib.hid hd0; have HC1 := Lib.hid hc1; have HD1 := Lib.hid hd1
        have HNM := Lib.hid hnm; have HNM' := Lib.hid hnm'
        by_cases hq : kSn.strip (nth L k) = kSn.strip (nth M k)
        · have HE1 : Hid (decide (kSn.strip (nth L k) = kSn.strip (nth M k)) = true) := Lib.hid (decide_eq_true hq)
          have HA := Lib.hid (agree_succ ha.out (by rw [e1, e2, hq]))
          clear hq hlen hlen2 e1 e2 hc0 hc1 hd0 hd1 hnm hnm' hl1 hl2
          go_wp2_with fail
          go_region_held3 (fun w' => w'.cell? ⟨b, off + k * 2, none⟩ = some (.slice x0 n0 c0) ∧ w'.cell? ⟨b, off + k * 2 + 1, none⟩ = some (.int .i64 (kSn.strip (nth L k)).2) ∧ w'.cell? ⟨b', off' + k * 2, none⟩ = some (.slice xy0 ny0 cy0) ∧ w'.cell? ⟨b', off' + k * 2 + 1, none⟩ = some (.int .i64 (kSn.strip (nth M k)).2) ∧ Below w.heap.size w w') (first | exact ⟨kc HC0.out ((Below.refl _ _).drew), kc HC1.out ((Below.refl _ _).drew), kc HD0.out ((Below.refl _ _).drew), kc HD1.out ((Below.refl _ _).drew), hb.out.trans (Below.mono ((Below.refl _ _).drew) hb.out.size)⟩ | exact ⟨kc HC0.out (hb1.mono (Nat.le_refl _)), kc HC1.out (hb1.mono (Nat.le_refl _)), kc HD0.out (hb1.mono (Nat.le_refl _)), kc HD1.out (hb1.mono (Nat.le_refl _)), hb.out.trans (Below.mono (hb1.mono (Nat.le_refl _)) hb.out.size)⟩ | exact ⟨kc HC0.out ((Below.refl _ _).drew.trans (hb1.mono (Nat.le_refl _))), kc HC1.out ((Below.refl _ _).drew.trans (hb1.mono (Nat.le_refl _))), kc HD0.out ((Below.refl _ _).drew.trans (hb1.mono (Nat.le_refl _))), kc HD1.out ((Below.refl _ _).drew.trans (hb1.mono (Nat.le_refl _))), hb.out.trans (Below.mono ((Below.refl _ _).drew.trans (hb1.mono (Nat.le_refl _))) hb.out.size)⟩) ((go_at_call 85; refine (eqSeenNonceK _ _ _ _ _ _ HE1.out (HNM.out.on (Below.refl _ _).drew) (HNM'.out.on (Below.refl _ _).drew) HL.out HL'.out).mono ?_; rintro e w1 ⟨rfl, hb1⟩))
          all_goals
            have HB2 := Lib.hid (hb.out.drew.trans (hb1.mono hb.out.size))
            clear hb1
            go_wp2_with fail
            go_roundw
            case rel => exact ⟨k + 1, by omega, by go_num, HA, HB2⟩
            case measure => simp [intOf]; omega
        · have HE1 : Hid (decide (kSn.strip (nth L k) = kSn.strip (nth M k)) = false) := Lib.hid (decide_eq_false hq)
          have HA : Hid (q = false) := Lib.hid (by rw [← HQ.out]; exact decide_eq_false (differ_Sn (k := k) (by rw [e1, e2]; exact hq)))
          clear hq hlen hlen2 e1 e2 hc0 hc1 hd0 hd1 hnm hnm' hl1 hl2
          go_wp2_with fail
          go_region_held3 (fun w' => w'.cell? ⟨b, off + k * 2, none⟩ = some (.slice x0 n0 c0) ∧ w'.cell? ⟨b, off + k * 2 + 1, none⟩ = some (.int .i64 (kSn.strip (nth L k)).2) ∧ w'.cell? ⟨b', off' + k * 2, none⟩ = some (.slice xy0 ny0 cy0) ∧ w'.cell? ⟨b', off' + k * 2 + 1, none⟩ = some (.int .i64 (kSn.strip (nth M k)).2) ∧ Below w.heap.size w w') (first | exact ⟨kc HC0.out ((Below.refl _ _).drew), kc HC1.out ((Below.refl _ _).drew), kc HD0.out ((Below.refl _ _).drew), kc HD1.out ((Below.refl _ _).drew), hb.out.trans (Below.mono ((Below.refl _ _).drew) hb.out.size)⟩ | exact ⟨kc HC0.out (hb1.mono (Nat.le_refl _)), kc HC1.out (hb1.mono (Nat.le_refl _)), kc HD0.out (hb1.mono (Nat.le_refl _)), kc HD1.out (hb1.mono (Nat.le_refl _)), hb.out.trans (Below.mono (hb1.mono (Nat.le_refl _)) hb.out.size)⟩ | exact ⟨kc HC0.out ((Below.refl _ _).drew.trans (hb1.mono (Nat.le_refl _))), kc HC1.out ((Below.refl _ _).drew.trans (hb1.mono (Nat.le_refl _))), kc HD0.out ((Below.refl _ _).drew.trans (hb1.mono (Nat.le_refl _))), kc HD1.out ((Below.refl _ _).drew.trans (hb1.mono (Nat.le_refl _))), hb.out.trans (Below.mono ((Below.refl _ _).drew.trans (hb1.mono (Nat.le_refl _))) hb.out.size)⟩) ((go_at_call 85; refine (eqSeenNonceK _ _ _ _ _ _ HE1.out (HNM.out.on (Below.refl _ _).drew) (HNM'.out.on (Below.refl _ _).drew) HL.out HL'.out).mono ?_; rintro e w1 ⟨rfl, hb1⟩))
          all_goals
            have HB2 := Lib.hid (hb.out.drew.trans (hb1.mono hb.out.size))
            clear hb1
            go_wp2_with fail
            go_ret
            exact ⟨ret_bool HA.out.symm, HB2.out⟩
      · obtain rfl : k = n := by omega
        have HD : Hid (q = true) := Lib.hid (by rw [← HQ.out]; exact decide_eq_true (agree_all (by rw [HNL.out, HNM9.out]) (by rw [HNL.out]; exact ha.out)))
        clear hlt
        go_wp2
        go_ret
        exact ⟨ret_bool HD.out.symm, hb.out⟩
  · have htest : (((n : Nat) : Int) != ((n2 : Nat) : Int)) = true := by
      rw [bne_iff_ne]; omega
    have hf : q = false := by rw [← hq]; exact decide_eq_false (fun e => he (by rw [← hnl, ← hnm, e]))
    rw [hf]
    exact (eqSeenNonceSK_len x y _ _ cx cy w htest).mono fun e w' ⟨h1, h2⟩ => ⟨h1, by subst h2; exact Below.refl _ _⟩
theorem sameLSnK (V U : Value) (l : List Snt) (w : World) (h : kLSn.At w V l) (g : kLSn.At w U l) (hl : l.length ≤ 100000000) (hs : ∀ x ∈ l, adSn x ≤ 100000000) :
    Calls Try.prog 31 #[V, U] w fun e w' => e = .returned (.bool true) ∧ Below w.heap.size w w' := eqSeenNonceSK V U l l w true (by simp) h g hl hl hs hs
def inLSn (l : List Snt) : Prop := l.length ≤ 9223372036854775807 ∧ ∀ x ∈ l, inSn x
theorem inLSn.ok {l : List Snt} (h : inLSn l) : okLSn l := ⟨h.1, fun x hx => (h.2 x hx).ok⟩
def adLSn (l : List Snt) : Nat := bulkK adSn l
theorem adLSn_big {l : List Snt} {n : Nat} (h : bulkK wtSn l ≤ n) : adLSn l ≤ n := Nat.le_trans (bulkK_mono adSn_le l) h
theorem szLSnK (V : Value) (l : List Snt) (w : World) (left : Int) (h : kLSn.At w V l) (hl : inLSn l) (hs : inLSn l) (h0 : 0 ≤ left) (h1 : left ≤ 1048576) :
    Calls Try.prog 26 #[V, .int .i64 left] w fun e w' => e = .returned (.int .i64 (szW (bulkK wtSn l) left)) ∧ Below w.heap.size w w' := szSeenNonceSK V l w left h hs.ok h0 h1
theorem toLSnK (V : Value) (l : List Snt) (w : World) (h : kLSn.At w V l) (hl : adLSn l ≤ 100000000) :
    Calls Try.prog 29 #[V] w fun e w' => ∃ U, e = .returned U ∧ kLSn.In w.heap.size w'.heap.size w' U l ∧ Below w.heap.size w w' :=
  toSeenNonceSK V l w h (Nat.le_trans (bulkK_len _ _) hl) (fun x hx => Nat.le_trans (bulkK_mem hx) hl)
theorem eqLSnK (V U : Value) (l : List Snt) (w : World) (h : kLSn.At w V l) (g : kLSn.At w U l) (hl : adLSn l ≤ 100000000) :
    Calls Try.prog 31 #[V, U] w fun e w' => e = .returned (.bool true) ∧ Below w.heap.size w w' :=
  sameLSnK V U l w h g (Nat.le_trans (bulkK_len _ _) hl) (fun x hx => Nat.le_trans (bulkK_mem hx) hl)
theorem opens_SeenNonceS : OpensK Try.prog kLSn 45 inLSn := opens_slice Try.underlying45 (by kernel_rfl) (by decide) opens_SeenNonce
end Go.Proofs.Ytjphnlkdbhcblaa.Row
/- Searching a list for the first element of which something holds; what is asked of a closure that is handed to the library. For any kind. No conditions. -/
namespace Go.Proofs.Ytjphnlkdbhcblaa.Row
open Go.ChangeShapes Go.WideShapes Go.ChangeAt Go.RowKit Go.Instr
set_option linter.unusedVariables false
set_option maxRecDepth 100000
section
variable {α : Type} [Inhabited α] {p : α → Bool} {l : List α} {k : Nat}
def ixL (p : α → Bool) (l : List α) : Int := if l.findIdx p < l.length then (l.findIdx p : Int) else -1
def noL (p : α → Bool) (l : List α) (k : Nat) : Prop := ∀ j, j < k → p (nth l j) = false
theorem noL_zero (p : α → Bool) (l : List α) : noL p l 0 := fun j h => absurd h (by omega)
theorem noL_succ (h : noL p l k) (hc : p (nth l k) = false) : noL p l (k + 1) := fun j h1 => by
  by_cases e : j = k
  · subst e; exact hc
  · exact h j (by omega)
theorem ixL_at (hk : k < l.length) (h : noL p l k) (hc : p (nth l k) = true) : ixL p l = k := by
  have e : l.findIdx p = k := by
    rw [List.findIdx_eq hk]
    exact ⟨by rw [← nth_eq hk]; exact hc, fun j hj => by rw [← nth_eq (Nat.lt_trans hj hk)]; exact h j hj⟩
  unfold ixL; rw [e, if_pos hk]
theorem ixL_none (h : noL p l l.length) : ixL p l = -1 := by
  have e : l.findIdx p = l.length := by
    rw [List.findIdx_eq_length]
    intro x hx
    obtain ⟨j, hj, rfl⟩ := List.getElem_of_mem hx
    rw [← nth_eq hj]; exact h j hj
  unfold ixL; rw [e, if_neg (by omega)]
theorem ixL_cases (p : α → Bool) (l : List α) : (ixL p l = -1 ∧ noL p l l.length) ∨ ∃ k, k < l.length ∧ ixL p l = (k : Int) ∧ p (nth l k) = true ∧ noL p l k := by
  by_cases h : l.findIdx p < l.length
  · refine Or.inr ⟨l.findIdx p, h, by unfold ixL; rw [if_pos h], ?_, ?_⟩
    · rw [nth_eq h]; exact List.findIdx_getElem
    · intro j hj
      rw [nth_eq (Nat.lt_trans hj h)]
      have := List.not_of_lt_findIdx hj
      simpa using this
  · have e : l.findIdx p = l.length := Nat.le_antisymm List.findIdx_le_length (by omega)
    refine Or.inl ⟨by unfold ixL; rw [if_neg h], fun j hj => ?_⟩
    rw [nth_eq hj]
    have := List.not_of_lt_findIdx (p := p) (xs := l) (i := j) (by omega)
    simpa using this
theorem any_of_noL (h : noL p l l.length) : l.any p = false := by
  rw [List.any_eq_false]
  intro x hx
  obtain ⟨j, hj, rfl⟩ := List.getElem_of_mem hx
  rw [← nth_eq hj, h j hj]
  simp
theorem any_of_at (hk : k < l.length) (hc : p (nth l k) = true) : l.any p = true := List.any_eq_true.2 ⟨_, nth_mem hk, hc⟩
theorem any_ixL (p : α → Bool) (l : List α) : l.any p = decide (0 ≤ ixL p l) := by
  rcases ixL_cases p l with ⟨e, h⟩ | ⟨k, hk, e, hc, -⟩
  · rw [e, any_of_noL h]; rfl
  · rw [e, any_of_at hk hc]; simp
end
def ClosK {α M : Type} (P : Program) (k : Kd α M) (fid : FuncId) (cap : Array Value) (p : α → Bool) (ok : α → Prop) (w : World) : Prop :=
  ∀ (x : α) (V : Value) (W : World), Below w.heap.size w W → k.At W V x → ok x → Calls P fid (#[V] ++ cap) W fun e w' => e = .returned (.bool (p x)) ∧ Below W.heap.size W w'
theorem ClosK.on {α M : Type} {P : Program} {k : Kd α M} {fid : FuncId} {cap : Array Value} {p : α → Bool} {ok : α → Prop} {w w' : World} (h : ClosK P k fid cap p ok w) (hb : Below w.heap.size w w') : ClosK P k fid cap p ok w' := fun x V W hW => h x V W (hb.trans (hW.mono hb.size))
end Go.Proofs.Ytjphnlkdbhcblaa.Row
/- A list of elements of a kind, all of the call's own, grows by an append: the row apart from what is beneath its elements by its type. For any kind. No conditions. -/
namespace Go.Proofs.Ytjphnlkdbhcblaa.Row
open Go.ChangeShapes Go.WideShapes Go.ChangeAt Go.RowKit Go.Instr
set_option linter.unusedVariables false
set_option maxRecDepth 100000
section
variable {α M β N : Type} {k : Kd α M} {l : Kd β N} {e e' : TypeId} {B C E : Nat} {w w' : World} {r : Rw M} {x : M}
def Kd.NoRow (k : Kd α M) (e : TypeId) : Prop := ∀ (B : Nat) (w : World) (m : M), k.own B w m → ∀ g ∈ k.blocks m, ∀ cs, w.heap[g]? ≠ some (.cells cs e)
theorem Kd.noRow_scalar {enc : α → Value} {h1 : ∀ x, (enc x).oneCell' = true} : (Kd.scalar enc h1).NoRow e := fun B w m _ g hg => by cases hg
theorem Kd.NoRow.wrap (h : k.NoRow e) : k.wrap.NoRow e := fun B w m hm g hg => h B w m hm g hg
theorem Kd.NoRow.pair (h : k.NoRow e) (g : l.NoRow e) : (k.pair l).NoRow e := fun B w m hm q hq => by
  rcases List.mem_append.1 (show q ∈ k.blocks m.1 ++ l.blocks m.2 from hq) with hq | hq
  · exact h B w m.1 hm.1 q hq
  · exact g B w m.2 hm.2 q hq
theorem OwnK.row {enc : α → List Value} {sz : Nat} {v : Value} {L : List α} (h : OwnK e enc sz B w v L) {g : Nat} (hg : v.ownBlock = some g) : ∃ cs, w.heap[g]? = some (.cells cs e) := by
  rcases h.2 with ⟨rfl, -⟩ | ⟨g2, cap, cur, rfl, -, hh, -⟩
  · cases hg
  · have e2 : g2 = g := by simpa [Value.ownBlock] using hg
    exact ⟨cur, e2 ▸ hh⟩
theorem Kd.NoRow.slice (h : k.NoRow e) (hne : e' ≠ e) : (k.slice e').NoRow e := fun B w m hm q hq => by
  rcases List.mem_append.1 (show q ∈ m.v.ownBlock.toList ++ m.els.flatMap k.blocks from hq) with hq | hq
  · intro cs hc
    obtain ⟨cs2, h2⟩ := hm.1.row (g := q) (by simpa using hq)
    rw [h2] at hc
    injection hc with hc
    injection hc with h3 h4
    exact hne h4
  · obtain ⟨y, hy, hyq⟩ := List.mem_flatMap.1 hq
    exact h B w y (hm.2 y hy) q hyq
theorem Kd.push (hN : k.NoRow e) (h : (k.slice e).Own B C w r) (hx : k.Own B E w x) (hd : ∀ g ∈ k.blocks x, g ∉ (k.slice e).blocks r) {ad : Option Addr} {n cap : Nat}
    (ho : OwnK e k.cells k.size B w' (.slice ad n cap) (r.els ++ [x])) (hg : w.grownBy w' r.v.ownBlock) : (k.slice e).Own B w'.heap.size w' ⟨ad, n, cap, r.els ++ [x]⟩ := by
  have hnd : (r.v.ownBlock.toList ++ r.els.flatMap k.blocks).Nodup := h.2.1
  have hnd2 := List.nodup_append.1 hnd
  have hold : ∀ y ∈ r.els, k.own B w' y := fun y hy => k.own_keep (h.1.2 y hy) (fun g hgy => hg.block g (k.own_lt (h.1.2 y hy) g hgy).2 (fun er => hnd2.2.2 g (by rw [← er]; simp) g (List.mem_flatMap.2 ⟨y, hy, hgy⟩) rfl))
  have hnew : k.own B w' x := k.own_keep hx.1 (fun g hgx => hg.block g (k.own_lt hx.1 g hgx).2 (fun er => hd g hgx (List.mem_append_left _ (by rw [← er]; simp))))
  have hel : ∀ y ∈ r.els ++ [x], k.own B w' y := fun y hy => by
    rcases List.mem_append.1 hy with hy | hy
    · exact hold y hy
    · rw [List.mem_singleton.1 hy]; exact hnew
  refine ⟨⟨ho, hel⟩, ?_, fun g hgm => ?_⟩
  · show ((Rw.v ⟨ad, n, cap, r.els ++ [x]⟩).ownBlock.toList ++ (r.els ++ [x]).flatMap k.blocks).Nodup
    rw [List.nodup_append]
    refine ⟨by cases (Rw.v ⟨ad, n, cap, r.els ++ [x]⟩).ownBlock <;> simp, ?_, fun a ha b hb eab => ?_⟩
    · rw [List.flatMap_append, List.nodup_append]
      refine ⟨hnd2.2.1, by simpa using hx.2.1, fun a ha b hb eab => ?_⟩
      exact hd b (by simpa using hb) (List.mem_append_right _ (eab ▸ ha))
    · obtain ⟨y, hy, hyb⟩ := List.mem_flatMap.1 hb
      obtain ⟨cs, hc⟩ := ho.row (g := a) (show (Value.slice ad n cap).ownBlock = some a from Option.mem_toList.1 ha)
      rw [eab] at hc
      exact hN B w' y (hel y hy) b hyb cs hc
  · rcases List.mem_append.1 (show g ∈ (Rw.v ⟨ad, n, cap, r.els ++ [x]⟩).ownBlock.toList ++ (r.els ++ [x]).flatMap k.blocks from hgm) with hgm | hgm
    · exact (ho.lt g (show (Value.slice ad n cap).ownBlock = some g from Option.mem_toList.1 hgm)).2
    · obtain ⟨y, hy, hyb⟩ := List.mem_flatMap.1 hgm
      exact (k.own_lt (hel y hy) g hyb).2
theorem Kd.push_later (hN : k.NoRow e) (h : (k.slice e).Own B C w r) (hx : k.Own C E w x) (hBC : B ≤ C) {ad : Option Addr} {n cap : Nat}
    (ho : OwnK e k.cells k.size B w' (.slice ad n cap) (r.els ++ [x])) (hg : w.grownBy w' r.v.ownBlock) : (k.slice e).Own B w'.heap.size w' ⟨ad, n, cap, r.els ++ [x]⟩ :=
  Kd.push hN h (hx.mono hBC (Nat.le_refl _)) (fun g hgx hgr => by have h1 := (hx.lt g hgx).1; have h2 := (h.lt g hgr).2.1; omega) ho hg
theorem Kd.own_row (h : OwnK e k.cells k.size B w r.v []) (he : r.els = []) : (k.slice e).Own B w.heap.size w r := by
  refine ⟨⟨by rw [he]; exact h, fun y hy => (by rw [he] at hy; cases hy)⟩, ?_, fun g hg => ?_⟩
  · show (r.v.ownBlock.toList ++ r.els.flatMap k.blocks).Nodup
    rw [he]
    cases r.v.ownBlock <;> simp
  · have hg2 : g ∈ r.v.ownBlock.toList ++ r.els.flatMap k.blocks := hg
    rw [he] at hg2
    exact (h.lt g (by simpa using hg2)).2
end
end Go.Proofs.Ytjphnlkdbhcblaa.Row
/- Contracts of the library's slices.Grow at the nil slice, slices.Concat, slices.Equal and slices.Clone at slices of strings. No conditions but that lengths fit. -/
namespace Go.Proofs.Ytjphnlkdbhcblaa.Row
open Go.ChangeShapes Go.WideShapes Go.ChangeAt Go.RowKit Go.Instr
set_option linter.unusedVariables false
set_option maxRecDepth 100000
def GivesS (w : World) (l : List ByteArray) (e : Ending) (w' : World) : Prop := ∃ v, e = .returned v ∧ Own 9 Value.string w.heap.size w' v l ∧ Below w.heap.size w w'
def cat (ls : Nat → List ByteArray) : Nat → List ByteArray
  | 0 => []
  | k + 1 => cat ls k ++ ls k
theorem libEqS_len (x y : Option Addr) (n m cx cy : Nat) (w : World) (h : (((n : Nat) : Int) != ((m : Nat) : Int)) = true) :
    Calls Try.prog 117 #[.slice x n cx, .slice y m cy] w fun e w' => e = .returned (.bool false) ∧ w = w' := by
  go_enter Try.func117, Try.ntmps117
  go_wp2
  go_ret
  exact ⟨rfl, rfl⟩
set_option maxHeartbeats 1000000 in
theorem libEqS (v u : Value) (l m : List ByteArray) (w : World) (h : Holds Value.string w v l) (g : Holds Value.string w u m) (hl : l.length ≤ 140737488351232) (hm : m.length ≤ 140737488351232) :
    Calls Try.prog 117 #[v, u] w fun e w' => e = .returned (.bool (eqB l m)) ∧ Below w.heap.size w w' := by
  obtain ⟨x, cx, rfl, hcx, hh⟩ := h.shape
  obtain ⟨y, cy, rfl, hcy, hg⟩ := g.shape
  by_cases he : l.length = m.length
  · obtain ⟨n, hn⟩ : ∃ n, n = l.length := ⟨_, rfl⟩
    rw [← he] at hg hm hcy ⊢
    rw [← hn] at hcx hh hl hg hm hcy ⊢
    have HE := Lib.hid he
    have HN := Lib.hid hn
    have HH := Lib.hid hh
    have HG := Lib.hid hg
    have htest : (((n : Nat) : Int) != ((n : Nat) : Int)) = false := by simp
    clear hn h hh g hg he
    go_enter Try.func117, Try.ntmps117
    go_wp2
    go_loopw [13] (fun i wr => ∃ k nq : Nat, k ≤ n ∧ i = .int .i64 k ∧ Hid (agree l m k) ∧ wr = w.drewN nq) (fun i _ => n - (intOf i).toNat)
    case atStart => exact ⟨0, 0, Nat.zero_le _, rfl, Lib.hid (agree_zero _ _), rfl⟩
    case round =>
      obtain ⟨k, nq, hk, rfl, ha, rfl⟩ := hrel
      by_cases hlt : k < n
      · have hlen := HN.out
        have hlen2 := HE.out
        obtain ⟨b, off, rfl, hc⟩ := HH.out.at (j := k) (by omega)
        obtain ⟨b', off', rfl, hc'⟩ := HG.out.at (j := k) (by omega)
        clear hlen hlen2
        by_cases hd : nth l k = nth m k
        · have hd2 := tl_eq hd
          have HD := Lib.hid hd; clear hd
          go_wp2_with fail
          go_quiet (fail)
          go_wp2_with fail
          go_roundw
          case rel => exact ⟨k + 1, _, by omega, by go_num, Lib.hid (agree_succ ha.out HD.out), rfl⟩
          case measure => simp [intOf]; omega
        · have hd2 := tl_ne hd
          have HD := Lib.hid (eqB_false (differ_at hd)); clear hd
          go_wp2_with fail
          go_quiet (fail)
          go_wp2_with fail
          go_ret
          exact ⟨ret_bool HD.out.symm, below_drewN (below_drewN (Below.refl _ _) _) _⟩
      · obtain rfl : k = n := by omega
        have HD := Lib.hid (eqB_true (agree_all HE.out (HN.out ▸ ha.out)))
        clear hlt
        go_wp2
        go_ret
        exact ⟨ret_bool HD.out.symm, below_drewN (Below.refl _ _) _⟩
  · have htest : (((l.length : Nat) : Int) != ((m.length : Nat) : Int)) = true := by
      rw [bne_iff_ne]; omega
    rw [eqB_false (fun e => he (by rw [e]))]
    exact (libEqS_len x y _ _ cx cy w htest).mono fun e w' ⟨h1, h2⟩ => ⟨h1, by subst h2; exact Below.refl _ _⟩
set_option maxHeartbeats 1000000 in
theorem cloneS (v : Value) (l : List ByteArray) (w : World) (h : Holds Value.string w v l) (hl : l.length ≤ 10000000) :
    Calls Try.prog 127 #[v] w (GivesS w l) := by
  obtain ⟨x, cx, rfl, hcx, hh⟩ := h.shape
  cases x with
  | none =>
    have hl0 : l = [] := by
      obtain ⟨x', cap', hv, hc', hh'⟩ := hh
      cases hv
      rcases hh' with h1 | ⟨b, off, h1, _⟩
      · exact h1
      · cases h1
    subst hl0
    have hq : ∀ w : World, (binOp .eql 25 (.slice none 0 cx) (.slice none 0 0)).run Try.prog w = .ok (.bool true) w := fun w => by
      exact Lib.run_eql_slice_nil w _ _ _ _ _ _ _ Try.underlying25
    clear hh h
    simp only [List.length_nil]
    go_enter Try.func127, Try.ntmps127
    go_wp2
    go_ret
    exact ⟨_, rfl, Own.nil _ _ _ _, Below.refl _ _⟩
  | some ad =>
    have HB := Lib.hid ((Below.refl w.heap.size w).alloc (Nat.le_refl _) (.cells #[] 9))
    have HH := Lib.hid (hh.on HB.out)
    have HO := Lib.hid (own_empty Value.string 9 w)
    have hq : ∀ w : World, (binOp .eql 25 (.slice (some ad) l.length cx) (.slice none 0 0)).run Try.prog w = .ok (.bool false) w := fun w => by
      exact Lib.run_eql_slice_nil w _ _ _ _ _ _ _ Try.underlying25
    clear hh h
    go_enter Try.func127, Try.ntmps127
    go_wp2_with (at_builtin; refine wpList_app (enc := Value.string) (B := w.heap.size) (l := []) (m := l) rfl _ _ rfl Try.underlying25 elemSTR rfl rfl rfl HO.out HH.out oneStr (by simp; omega) (by unfold maxLen; simp; omega) (by simp) ?_)
    intro v2 w2 ho hg
    have HO2 := Lib.hid ho; have HB2 := Lib.hid (HB.out.grown hg (by simp) (fun g hh => (HO.out.lt g hh).1))
    clear ho hg
    go_wp2_with fail
    go_ret
    exact ⟨_, rfl, HO2.out, HB2.out⟩
end Go.Proofs.Ytjphnlkdbhcblaa.Row
/- Contracts of CompareNames and EqualNames, the program's and the reference model's, and of the library's Compare and Equal on slices of strings: parts are compared one by one, byte by byte, then the lengths. No conditions but that lengths fit. -/
namespace Go.Proofs.Ytjphnlkdbhcblaa.Row
open Go.ChangeShapes Go.WideShapes Go.ChangeAt Go.RowKit Go.Instr
set_option linter.unusedVariables false
set_option maxRecDepth 100000
def cmpS (a b : ByteArray) : Int := if Op.bytesLess a.toList b.toList = true then -1 else if a.toList = b.toList then 0 else 1
theorem cmpS_lt {a b : ByteArray} (h : Op.bytesLess a.toList b.toList = true) : cmpS a b = -1 := by simp [cmpS, h]
theorem cmpS_eq {a b : ByteArray} (h : Op.bytesLess a.toList b.toList = false) (he : (a.toList == b.toList) = true) : cmpS a b = 0 := by
  have : a.toList = b.toList := by simpa using he
  rw [cmpS, h, this]; simp
theorem cmpS_gt {a b : ByteArray} (h : Op.bytesLess a.toList b.toList = false) (he : (a.toList == b.toList) = false) : cmpS a b = 1 := by
  have : a.toList ≠ b.toList := by simpa using he
  simp [cmpS, h, this]
theorem cmpS_in (a b : ByteArray) : -1 ≤ cmpS a b ∧ cmpS a b ≤ 1 := by
  unfold cmpS; split
  · omega
  · split <;> omega
def cmpL : List ByteArray → List ByteArray → Int
  | [], [] => 0
  | [], _ :: _ => -1
  | _ :: _, [] => 1
  | a :: x, b :: y => if cmpS a b = 0 then cmpL x y else cmpS a b
theorem drop_nth {α : Type} [Inhabited α] {l : List α} {k : Nat} (h : k < l.length) : l.drop k = nth l k :: l.drop (k + 1) := by
  rw [nth_eq h]; exact List.drop_eq_getElem_cons h
theorem cmpL_same {a b : List ByteArray} {k : Nat} (h : k < a.length) (g : k < b.length) (hc : cmpS (nth a k) (nth b k) = 0) : cmpL (a.drop k) (b.drop k) = cmpL (a.drop (k + 1)) (b.drop (k + 1)) := by
  rw [drop_nth h, drop_nth g]; simp [cmpL, hc]
theorem cmpL_diff {a b : List ByteArray} {k : Nat} (h : k < a.length) (g : k < b.length) (hc : cmpS (nth a k) (nth b k) ≠ 0) : cmpL (a.drop k) (b.drop k) = cmpS (nth a k) (nth b k) := by
  rw [drop_nth h, drop_nth g]; simp [cmpL, hc]
theorem cmpL_long {a b : List ByteArray} {k : Nat} (h : k < a.length) (g : k = b.length) : cmpL (a.drop k) (b.drop k) = 1 := by
  rw [drop_nth h, g, List.drop_length]; rfl
theorem cmpL_short {a b : List ByteArray} {k : Nat} (h : k = a.length) (g : k < b.length) : cmpL (a.drop k) (b.drop k) = -1 := by
  rw [drop_nth g, h, List.drop_length]; rfl
theorem cmpL_both {a b : List ByteArray} {k : Nat} (h : k = a.length) (g : k = b.length) : cmpL (a.drop k) (b.drop k) = 0 := by
  rw [h, List.drop_length, ← h, g, List.drop_length]; rfl
set_option maxHeartbeats 1000000 in
theorem l4Cmp (a b : ByteArray) (w : World) : Calls Try.prog 139 #[.string a, .string b] w fun e w' => e = .returned (.int .i64 (cmpS a b)) ∧ w = w' := by
  cases h : Op.bytesLess a.toList b.toList with
  | true =>
    have HC := Lib.hid (cmpS_lt h)
    go_enter Try.func139, Try.ntmps139
    go_wp2
    go_ret
    exact ⟨ret_int HC.out.symm, rfl⟩
  | false =>
    cases he : (a.toList == b.toList) with
    | true =>
      have HC := Lib.hid (cmpS_eq h he)
      go_enter Try.func139, Try.ntmps139
      go_wp2
      go_ret
      exact ⟨ret_int HC.out.symm, rfl⟩
    | false =>
      have HC := Lib.hid (cmpS_gt h he)
      go_enter Try.func139, Try.ntmps139
      go_wp2
      go_ret
      exact ⟨ret_int HC.out.symm, rfl⟩
theorem quiet_add_left {P : Program} {f : FuncId} {args : Array Value} {w : World} {a n : Nat} {v : Value}
    (h : Calls P f args (w.drewN (a + n)) fun e w' => e = .returned v ∧ w.drewN (a + n) = w') :
    Calls P f args (w.drewN (a + n)) fun e w'' => e = .returned v ∧ ∃ m, w'' = w.drewN (a + m) :=
  h.mono fun _ _ ⟨he, hm⟩ => ⟨he, n, hm.symm⟩
theorem quiet_left {P : Program} {f : FuncId} {args : Array Value} {w : World} {n : Nat} {v : Value}
    (h : Calls P f args (w.drewN n) fun e w' => e = .returned v ∧ w.drewN n = w') : Calls P f args (w.drewN n) fun e w'' => e = .returned v ∧ ∃ m, w'' = w.drewN m :=
  h.mono fun _ _ ⟨he, hm⟩ => ⟨he, n, hm.symm⟩
theorem l4CmpV (a b : ByteArray) (c : Int) (w : World) (h : cmpS a b = c) : Calls Try.prog 139 #[.string a, .string b] w fun e w' => e = .returned (.int .i64 c) ∧ w = w' := h ▸ l4Cmp a b w
set_option maxHeartbeats 1000000 in
theorem specCompareNames (v u : Value) (l m : List ByteArray) (w : World) (h : Holds Value.string w v l) (g : Holds Value.string w u m) (hl : l.length ≤ 140737488351232) (hm : m.length ≤ 140737488351232) :
    Calls Try.prog 125 #[.agg #[v], .agg #[u]] w fun e w' => e = .returned (.int .i64 (cmpL l m)) ∧ Below w.heap.size w w' := by
  obtain ⟨x, cx, rfl, hcx, hh⟩ := h.shape
  obtain ⟨y, cy, rfl, hcy, hg⟩ := g.shape
  obtain ⟨n, hn⟩ : ∃ n, n = l.length := ⟨_, rfl⟩
  obtain ⟨q, hq⟩ : ∃ q, q = m.length := ⟨_, rfl⟩
  rw [← hn] at hcx hh hl ⊢
  rw [← hq] at hcy hg hm ⊢
  have HB := Lib.hid (((Below.refl w.heap.size w).alloc (Nat.le_refl _) (.cells #[.slice x n cx] 27)).alloc (Nat.le_trans (Nat.le_refl _) (by simp)) (.cells #[.slice y q cy] 27))
  have HN := Lib.hid hn; have HQ := Lib.hid hq; have HH := Lib.hid (hh.on HB.out); have HG := Lib.hid (hg.on HB.out)
  clear hn hq h hh g hg
  go_enter Try.func125, Try.ntmps125
  go_wp2_with fail
  go_loopw [5] (fun i wr => ∃ k nq : Nat, k ≤ n ∧ k ≤ q ∧ i = .int .i64 k ∧ wr = ((w.alloc (.cells #[.slice x n cx] 27)).alloc (.cells #[.slice y q cy] 27)).drewN nq ∧ Hid (cmpL l m = cmpL (l.drop k) (m.drop k))) (fun i _ => n - (intOf i).toNat)
  case atStart => exact ⟨0, 0, Nat.zero_le _, Nat.zero_le _, rfl, rfl, Lib.hid (by simp)⟩
  case round =>
    obtain ⟨k, nq, hk, hkq, rfl, rfl, hc⟩ := hrel
    by_cases hlt : k < n
    · have hlen := HN.out
      by_cases hlq : k < q
      · have hlen2 := HQ.out
        obtain ⟨b, off, rfl, hcx1⟩ := HH.out.at (j := k) (by omega)
        obtain ⟨b', off', rfl, hcy1⟩ := HG.out.at (j := k) (by omega)
        by_cases hd : cmpS (nth l k) (nth m k) = 0
        · have HC := Lib.hid (hc.out.trans (cmpL_same (by omega) (by omega) hd))
          have HD := Lib.hid hd
          clear hlen hlen2 hd
          go_wp2_with fail
          go_quiet ((go_at_call 139; first | exact quiet_add_left (l4CmpV _ _ 0 _ HD.out) | exact quiet_left (l4CmpV _ _ 0 _ HD.out)))
          go_wp2_with fail
          go_roundw
          case rel => exact ⟨k + 1, _, by omega, by omega, by go_num, rfl, HC⟩
          case measure => simp [intOf]; omega
        · have HC := Lib.hid (hc.out.trans (cmpL_diff (by omega) (by omega) hd))
          obtain ⟨c, hce⟩ : ∃ c, c = cmpS (nth l k) (nth m k) := ⟨_, rfl⟩
          have HE := Lib.hid hce
          rw [← hce] at hd
          have hd2 : (c != 0) = true := by simpa using hd
          have hcin := cmpS_in (nth l k) (nth m k)
          rw [← hce] at hcin
          obtain ⟨hc1, hc2⟩ := hcin
          clear hlen hlen2 hd hce
          go_wp2_with fail
          go_quiet ((go_at_call 139; first | exact quiet_add_left (l4CmpV _ _ c _ HE.out.symm) | exact quiet_left (l4CmpV _ _ c _ HE.out.symm)))
          go_wp2_with fail
          go_ret
          exact ⟨ret_int (HE.out.trans HC.out.symm), below_drewN HB.out _⟩
      · obtain rfl : k = q := by omega
        have HC := Lib.hid (hc.out.trans (cmpL_long (by omega) HQ.out))
        clear hlen
        go_wp2
        go_ret
        exact ⟨ret_int HC.out.symm, below_drewN HB.out _⟩
    · obtain rfl : k = n := by omega
      by_cases hlq : k < q
      · have HC := Lib.hid (hc.out.trans (cmpL_short HN.out (by have := HQ.out; omega)))
        go_wp2
        go_ret
        exact ⟨ret_int HC.out.symm, below_drewN HB.out _⟩
      · obtain rfl : k = q := by omega
        have HC := Lib.hid (hc.out.trans (cmpL_both HN.out HQ.out))
        go_wp2
        go_ret
        exact ⟨ret_int HC.out.symm, below_drewN HB.out _⟩
end Go.Proofs.Ytjphnlkdbhcblaa.Row
/- Contracts of the integer functions of chapter 1 (without the texts): each returns the plain integer that its definition below says. The functions that only compute leave the world alone; Min and Max make one new block. No conditions but that the arguments fit their kind where sums are formed. -/
namespace Go.Proofs.Ytjphnlkdbhcblaa.Num
open Go.ChangeShapes Go.WideShapes Go.ChangeAt Go.RowKit
set_option linter.unusedVariables false
set_option maxRecDepth 100000
def inB (n a b : Int) : Bool := decide (a ≤ n ∧ n ≤ b)
theorem inB_true {n a b : Int} (h1 : a ≤ n) (h2 : n ≤ b) : inB n a b = true := by simp [inB, h1, h2]
theorem inB_false1 {n a b : Int} (h1 : ¬ a ≤ n) : inB n a b = false := by simp [inB, h1]
theorem inB_false2 {n a b : Int} (h2 : ¬ n ≤ b) : inB n a b = false := by simp [inB, h2]
theorem implInRange (n a b : Int) (w : World) :
    Calls Try.prog 94 #[.int .i64 n, .int .i64 a, .int .i64 b] w fun e w' => e = .returned (.bool (inB n a b)) ∧ w = w' := by
  by_cases h1 : a ≤ n
  · by_cases h2 : n ≤ b
    · rw [inB_true h1 h2]
      go_enter Try.func94, Try.ntmps94
      go_wp2
      go_ret
      exact ⟨rfl, rfl⟩
    · rw [inB_false2 h2]
      go_enter Try.func94, Try.ntmps94
      go_wp2
      go_ret
      exact ⟨rfl, rfl⟩
  · rw [inB_false1 h1]
    go_enter Try.func94, Try.ntmps94
    go_wp2
    go_ret
    exact ⟨rfl, rfl⟩
theorem specIn (n a b : Int) (w : World) :
    Calls Try.prog 76 #[.int .i64 n, .int .i64 a, .int .i64 b] w fun e w' => e = .returned (.bool (inB n a b)) ∧ w = w' := by
  by_cases h1 : a ≤ n
  · by_cases h2 : n ≤ b
    · rw [inB_true h1 h2]
      go_enter Try.func76, Try.ntmps76
      go_wp2
      go_ret
      exact ⟨rfl, rfl⟩
    · rw [inB_false2 h2]
      go_enter Try.func76, Try.ntmps76
      go_wp2
      go_ret
      exact ⟨rfl, rfl⟩
  · rw [inB_false1 h1]
    go_enter Try.func76, Try.ntmps76
    go_wp2
    go_ret
    exact ⟨rfl, rfl⟩
theorem specIn_true {n a b : Int} (h1 : a ≤ n) (h2 : n ≤ b) (w : World) :
    Calls Try.prog 76 #[.int .i64 n, .int .i64 a, .int .i64 b] w fun e w' => e = .returned (.bool true) ∧ w = w' := by
  have := specIn n a b w
  rwa [inB_true h1 h2] at this
theorem specIn_false {n a b : Int} (h : ¬ (a ≤ n ∧ n ≤ b)) (w : World) :
    Calls Try.prog 76 #[.int .i64 n, .int .i64 a, .int .i64 b] w fun e w' => e = .returned (.bool false) ∧ w = w' := by
  have := specIn n a b w
  have e : inB n a b = false := by simpa [inB] using h
  rwa [e] at this
def minI (a b : Int) : Int := if b < a then b else a
def maxI (a b : Int) : Int := if a < b then b else a
def ceilI (a b : Int) : Int := if 0 ≤ a ∧ a ≤ 1000000000000 ∧ 1 ≤ b ∧ b ≤ 1000000000000 then (a + b - 1) / b else 0
def modI (n m : Int) : Int := if 1 ≤ m ∧ m ≤ 1000000000000 then n % m else 0
end Go.Proofs.Ytjphnlkdbhcblaa.Num
/- Contracts of Truncate, EqualNames and HasPrefix, the program's and the reference model's. No conditions but that lengths fit. -/
namespace Go.Proofs.Ytjphnlkdbhcblaa.Row
open Go.ChangeShapes Go.WideShapes Go.ChangeAt Go.RowKit Go.Instr
set_option linter.unusedVariables false
set_option maxRecDepth 100000
section
variable {α : Type} [Inhabited α] {enc : α → Value} {w : World} {x : Option Addr} {n cap : Nat} {l : List α}
theorem Holds.take (h : Holds enc w (.slice x n cap) l) {j : Nat} (hj : j ≤ l.length) : Holds enc w (.slice x j cap) (l.take j) := by
  obtain ⟨x', cap', hv, hc, hh⟩ := h
  cases hv
  have hl : (l.take j).length = j := by simp; omega
  refine ⟨x, cap, by rw [hl], by omega, ?_⟩
  rcases hh with rfl | ⟨b, off, hx, hh⟩
  · left; simp
  · refine Or.inr ⟨b, off, hx, fun i hi => ?_⟩
    rw [hl] at hi
    rw [hh i (by omega), nth_eq (by omega), nth_eq (by omega)]
    simp
theorem Holds.drop {b off : Nat} (h : Holds enc w (.slice (some ⟨b, off, none⟩) n cap) l) {j : Nat} (hj : j ≤ l.length) : Holds enc w (.slice (some ⟨b, off + j, none⟩) (n - j) (cap - j)) (l.drop j) := by
  obtain ⟨x', cap', hv, hc, hh⟩ := h
  cases hv
  have hl : (l.drop j).length = l.length - j := by simp
  refine ⟨_, cap - j, by rw [hl], by omega, ?_⟩
  rcases hh with rfl | ⟨b', off', hx, hh⟩
  · left; simp
  · cases hx
    refine Or.inr ⟨b, off + j, rfl, fun i hi => ?_⟩
    rw [hl] at hi
    rw [Nat.add_assoc, hh (j + i) (by omega), nth_eq (by omega), nth_eq (by omega)]
    simp
end
def GivesN (w : World) (l : List ByteArray) (e : Ending) (w' : World) : Prop := ∃ v, e = .returned (.agg #[v]) ∧ Own 9 Value.string w.heap.size w' v l ∧ Below w.heap.size w w'
def GivesNB (w : World) (l : List ByteArray) (b : Bool) (e : Ending) (w' : World) : Prop := ∃ v, e = .returned (.tuple #[.agg #[v], .bool b]) ∧ Own 9 Value.string w.heap.size w' v l ∧ Below w.heap.size w w'
def GivesHB (w : World) (l : List ByteArray) (b : Bool) (e : Ending) (w' : World) : Prop := ∃ v, e = .returned (.tuple #[.agg #[v], .bool b]) ∧ Holds Value.string w' v l ∧ Below w.heap.size w w'
def trI (l : List ByteArray) (k : Int) : Nat := (Num.maxI 0 (Num.minI k l.length)).toNat
def trN (l : List ByteArray) (k : Int) : List ByteArray := l.take (trI l k)
theorem aggN : Ret.AggOf Try.prog 27 1 := by unfold Ret.AggOf; exact ⟨by kernel_rfl, by kernel_rfl⟩
theorem endN {w w1 : World} {g B : Nat} {v u : Value} {l : List ByteArray} (hw : w.heap.size ≤ g) (hgB : g < B) (ho : Own 9 Value.string B w1 v l) (hc : w1.cell? ⟨g, 0, none⟩ = some u) (hb : Below w.heap.size w w1) :
    (w1.setCell ⟨g, 0, none⟩ v).cell? ⟨g, 0, none⟩ = some v ∧ Own 9 Value.string w.heap.size (w1.setCell ⟨g, 0, none⟩ v) v l ∧ Below w.heap.size w (w1.setCell ⟨g, 0, none⟩ v) :=
  ⟨Ret.set_same hc, (ho.grown (Ret.grownBy_set w1 ⟨g, 0, none⟩ v) (nb ho hgB)).mono (by omega), hb.setCell hw _⟩
end Go.Proofs.Ytjphnlkdbhcblaa.Row
/- Contracts of EqualNames and HasPrefix, the program's and the reference model's. No conditions but that lengths fit. -/
namespace Go.Proofs.Ytjphnlkdbhcblaa.Row
open Go.ChangeShapes Go.WideShapes Go.ChangeAt Go.RowKit Go.Instr
set_option linter.unusedVariables false
set_option maxRecDepth 100000
theorem less_irrefl : ∀ l : List UInt8, Op.bytesLess l l = false
  | [] => rfl
  | a :: x => by
    rw [Op.bytesLess, less_irrefl x]
    have : decide (a < a) = false := by simp
    simp
theorem cmpS_zero {a b : ByteArray} : cmpS a b = 0 ↔ a = b := by
  constructor
  · intro h
    unfold cmpS at h
    split at h
    · omega
    · split at h
      · rename_i _ h2; exact toList_inj h2
      · omega
  · rintro rfl
    unfold cmpS
    rw [less_irrefl]; simp
theorem cmpL_zero : ∀ {l m : List ByteArray}, cmpL l m = 0 ↔ l = m
  | [], [] => by simp [cmpL]
  | [], _ :: _ => by simp [cmpL]
  | _ :: _, [] => by simp [cmpL]
  | a :: x, b :: y => by
    unfold cmpL
    by_cases h : cmpS a b = 0
    · rw [if_pos h, cmpL_zero, cmpS_zero.1 h]; simp
    · rw [if_neg h]
      have : a ≠ b := fun e => h (cmpS_zero.2 e)
      constructor
      · intro e; exact absurd e h
      · intro e; cases e; exact absurd rfl this
theorem eqB_cmp (l m : List ByteArray) : eqB l m = (cmpL l m == 0) := by
  unfold eqB
  by_cases h : l = m
  · have := cmpL_zero.2 h
    simp [h, cmpL_zero.2]
  · have h2 : cmpL l m ≠ 0 := fun e => h (cmpL_zero.1 e)
    simp [h, h2]
set_option maxHeartbeats 1000000 in
theorem implEqualNames (v u : Value) (l m : List ByteArray) (w : World) (h : Holds Value.string w v l) (g : Holds Value.string w u m) (hl : l.length ≤ 140737488351232) (hm : m.length ≤ 140737488351232) :
    Calls Try.prog 71 #[.agg #[v], .agg #[u]] w fun e w' => e = .returned (.bool (eqB l m)) ∧ Below w.heap.size w w' := by
  obtain ⟨x, cx, rfl, hcx, hh⟩ := h.shape
  obtain ⟨y, cy, rfl, hcy, hg⟩ := g.shape
  have HH := Lib.hid hh; have HG := Lib.hid hg
  clear hh h hg g
  go_enter Try.func71, Try.ntmps71
  go_wp2_with fail
  have HB := Lib.hid (((Below.refl w.heap.size w).alloc (Nat.le_refl _) (.cells #[.slice x l.length cx] 27)).alloc (Nat.le_trans (Nat.le_refl _) (by simp)) (.cells #[.slice y m.length cy] 27))
  have HA := Lib.hid (HH.out.on HB.out); have HC := Lib.hid (HG.out.on HB.out)
  refine (libEqS _ _ l m _ HA.out HC.out hl hm).mono ?_
  rintro e w' ⟨rfl, hb⟩
  have HB2 := Lib.hid (HB.out.trans (hb.mono (by simp; omega))); clear hb
  go_wp2
  go_ret
  exact ⟨rfl, HB2.out⟩
set_option maxHeartbeats 1000000 in
theorem specEqualNames (v u : Value) (l m : List ByteArray) (w : World) (h : Holds Value.string w v l) (g : Holds Value.string w u m) (hl : l.length ≤ 140737488351232) (hm : m.length ≤ 140737488351232) :
    Calls Try.prog 83 #[.agg #[v], .agg #[u]] w fun e w' => e = .returned (.bool (eqB l m)) ∧ Below w.heap.size w w' := by
  obtain ⟨x, cx, rfl, hcx, hh⟩ := h.shape
  obtain ⟨y, cy, rfl, hcy, hg⟩ := g.shape
  have HH := Lib.hid hh; have HG := Lib.hid hg
  have HE := Lib.hid (eqB_cmp l m)
  clear hh h hg g
  go_enter Try.func83, Try.ntmps83
  go_wp2_with fail
  have HB := Lib.hid (((Below.refl w.heap.size w).alloc (Nat.le_refl _) (.cells #[.slice x l.length cx] 27)).alloc (Nat.le_trans (Nat.le_refl _) (by simp)) (.cells #[.slice y m.length cy] 27))
  have HA := Lib.hid (HH.out.on HB.out); have HC := Lib.hid (HG.out.on HB.out)
  refine (specCompareNames _ _ l m _ HA.out HC.out hl hm).mono ?_
  rintro e w' ⟨rfl, hb⟩
  have HB2 := Lib.hid (HB.out.trans (hb.mono (by simp; omega))); clear hb
  go_wp2
  go_ret
  exact ⟨ret_bool HE.out.symm, HB2.out⟩
def hpB (l m : List ByteArray) : Bool := decide (m.length ≤ l.length ∧ l.take m.length = m)
end Go.Proofs.Ytjphnlkdbhcblaa.Row
/- Contracts of ValidPart and ValidName, the program's and the reference model's: a part is right where its size is 1 to 8 and each byte is a small letter, a digit or a minus; a name where each part is and there are at most 6. No conditions but that lengths fit. -/
namespace Go.Proofs.Ytjphnlkdbhcblaa.Row
open Go.ChangeShapes Go.WideShapes Go.ChangeAt Go.RowKit Go.Instr
set_option linter.unusedVariables false
set_option maxRecDepth 100000
def okR (r : Int) : Prop := (97 ≤ r ∧ r ≤ 122) ∨ (48 ≤ r ∧ r ≤ 57) ∨ r = 45
instance (r : Int) : Decidable (okR r) := by unfold okR; infer_instance
def okTo (s : ByteArray) (k : Nat) : Prop := ∀ j (h : j < s.size), j < k → okR ((s[j]'h).toNat : Int)
instance (s : ByteArray) (k : Nat) : Decidable (okTo s k) := by unfold okTo; infer_instance
def validP (s : ByteArray) : Bool := decide (1 ≤ s.size ∧ s.size ≤ 8 ∧ okTo s s.size)
theorem okTo_zero (s : ByteArray) : okTo s 0 := fun j h h2 => absurd h2 (by omega)
theorem okTo_succ {s : ByteArray} {k : Nat} (h : okTo s k) (hk : k < s.size) (hc : okR ((s[k]'hk).toNat : Int)) : okTo s (k + 1) := fun j h1 h2 => by
  by_cases e : j = k
  · subst e; exact hc
  · exact h j h1 (by omega)
theorem validP_true {s : ByteArray} (h1 : 1 ≤ s.size) (h2 : s.size ≤ 8) (h : okTo s s.size) : validP s = true := by simp [validP, h1, h2, h]
theorem validP_size {s : ByteArray} (h : ¬ (1 ≤ s.size ∧ s.size ≤ 8)) : validP s = false := by
  unfold validP; exact decide_eq_false (fun e => h ⟨e.1, e.2.1⟩)
theorem validP_byte {s : ByteArray} {k : Nat} (hk : k < s.size) (hc : ¬ okR ((s[k]'hk).toNat : Int)) : validP s = false := by
  unfold validP; exact decide_eq_false (fun e => hc (e.2.2 k hk hk))
theorem rune_ok {s : ByteArray} {pos : Nat} (h : pos < s.size) (hr : okR ((Utf8.decode s pos).1 : Int)) : okR ((s[pos]'h).toNat : Int) ∧ (Utf8.decode s pos).2 = 1 := by
  by_cases ha : (s[pos]'h).toNat < 128
  · rw [decode_ascii s pos h ha] at hr ⊢
    exact ⟨hr, rfl⟩
  · have := (decode_high s pos h (by omega)).1
    unfold okR at hr; omega
theorem rune_not {s : ByteArray} {pos : Nat} (h : pos < s.size) (hr : ¬ okR ((Utf8.decode s pos).1 : Int)) : ¬ okR ((s[pos]'h).toNat : Int) := by
  by_cases ha : (s[pos]'h).toNat < 128
  · rwa [decode_ascii s pos h ha] at hr
  · unfold okR; omega
set_option maxHeartbeats 1000000 in
theorem isPartRune (r : Int) (w : World) : Calls Try.prog 143 #[.int .i32 r] w fun e w' => e = .returned (.bool (decide (okR r))) ∧ w = w' := by
  have HT := fun (h : okR r) => (decide_eq_true h).symm
  have HF := fun (h : ¬ okR r) => (decide_eq_false h).symm
  have HT := Lib.hid HT; have HF := Lib.hid HF
  by_cases h1 : 97 ≤ r ∧ r ≤ 122
  · obtain ⟨h1a, h1b⟩ := h1
    go_enter Try.func143, Try.ntmps143
    go_wp2
    go_ret
    exact ⟨ret_bool (HT.out (by unfold okR; omega)), rfl⟩
  · by_cases h2 : 48 ≤ r ∧ r ≤ 57
    · obtain ⟨h2a, h2b⟩ := h2
      have h1a : ¬ 97 ≤ r := by omega
      go_enter Try.func143, Try.ntmps143
      go_wp2
      go_ret
      exact ⟨ret_bool (HT.out (by unfold okR; omega)), rfl⟩
    · by_cases h3 : r = 45
      · subst h3
        go_enter Try.func143, Try.ntmps143
        go_wp2
        go_ret
        exact ⟨ret_bool (HT.out (by unfold okR; omega)), rfl⟩
      · have HF2 := Lib.hid (HF.out (by unfold okR; omega))
        have h3b : (r == 45) = false := by simpa using h3
        clear h3 HF HT
        by_cases h1a : 97 ≤ r
        · have h1b : ¬ r ≤ 122 := by omega
          have h2b : ¬ r ≤ 57 := by omega
          clear h1 h2
          go_enter Try.func143, Try.ntmps143
          go_wp2
          go_ret
          exact ⟨ret_bool HF2.out, rfl⟩
        · clear h1
          by_cases h2a : 48 ≤ r
          · have h2b : ¬ r ≤ 57 := by omega
            clear h2
            go_enter Try.func143, Try.ntmps143
            go_wp2
            go_ret
            exact ⟨ret_bool HF2.out, rfl⟩
          · clear h2
            go_enter Try.func143, Try.ntmps143
            go_wp2
            go_ret
            exact ⟨ret_bool HF2.out, rfl⟩
set_option maxHeartbeats 1000000 in
theorem implValidPart (s : ByteArray) (w : World) (hl : s.size ≤ 140737488351232) :
    Calls Try.prog 138 #[.string s] w fun e w' => e = .returned (.bool (validP s)) ∧ Below w.heap.size w w' := by
  go_enter Try.func138, Try.ntmps138
  go_wp2
  go_loopw [] (fun w' => ∃ pos : Nat, pos ≤ s.size ∧ w' = w.iter s pos ∧ Hid (okTo s pos)) (fun w' => s.size - w'.iterPos w.heap.size)
  case atStart => exact ⟨0, by omega, rfl, Lib.hid (okTo_zero s)⟩
  case round =>
    obtain ⟨pos, hpl, rfl, ho⟩ := hrel
    by_cases hp : pos < s.size
    · have hnx : ∀ ty, (Instr.next (.pointer (some ⟨w.heap.size, 0, none⟩)) true ty).run Try.prog (w.iter s pos) = _ := fun ty => run_next_any w s pos ty hp
      by_cases hr : okR ((Utf8.decode s pos).1 : Int)
      · obtain ⟨h1, h2⟩ := rune_ok hp hr
        have HO := Lib.hid (okTo_succ ho.out hp h1)
        have HR := Lib.hid (decide_eq_true hr)
        rw [h2] at hnx
        clear hr h1 h2
        go_wp2_with fail
        refine (isPartRune _ _).mono ?_
        rintro e w2 ⟨rfl, rfl⟩
        rw [HR.out]
        go_wp2
        go_roundw
        case rel => exact ⟨pos + 1, by omega, rfl, HO⟩
        case measure => simp; omega
      · have HV := Lib.hid (validP_byte hp (rune_not hp hr))
        have HR := Lib.hid (decide_eq_false hr)
        clear hr
        go_wp2_with fail
        refine (isPartRune _ _).mono ?_
        rintro e w2 ⟨rfl, rfl⟩
        rw [HR.out]
        go_wp2
        go_ret
        exact ⟨ret_bool HV.out.symm, (Below.refl _ _).alloc (Nat.le_refl _) _⟩
    · obtain rfl : pos = s.size := by omega
      have hnx : ∀ ty, (Instr.next (.pointer (some ⟨w.heap.size, 0, none⟩)) true ty).run Try.prog (w.iter s s.size) = _ := fun ty => run_next_end w s s.size ty hp
      go_wp2_with fail
      refine (Num.implInRange _ _ _ _).mono ?_
      rintro e w2 ⟨rfl, rfl⟩
      go_wp2
      go_ret
      refine ⟨ret_bool ?_, (Below.refl _ _).alloc (Nat.le_refl _) _⟩
      have := ho.out
      simp only [Num.inB, validP, this, and_true]
      congr 1
      apply propext
      omega
set_option maxHeartbeats 1000000 in
theorem specValidPart (s : ByteArray) (w : World) (hl : s.size ≤ 140737488351232) :
    Calls Try.prog 119 #[.string s] w fun e w' => e = .returned (.bool (validP s)) ∧ w = w' := by
  by_cases hsz : 1 ≤ s.size ∧ s.size ≤ 8
  · obtain ⟨hs1, hs8⟩ := hsz
    go_enter Try.func119, Try.ntmps119
    go_wp2_with fail
    refine (Num.specIn_true (by omega) (by omega) _).mono ?_
    rintro e w2 ⟨rfl, rfl⟩
    go_wp2
    go_loop [3] (fun iv => ∃ k : Nat, k ≤ s.size ∧ iv = .int .i64 k ∧ Hid (okTo s k)) (fun iv => s.size - (intOf iv).toNat)
    case atStart => exact ⟨0, by omega, rfl, Lib.hid (okTo_zero s)⟩
    case round =>
      obtain ⟨k, hk, rfl, ho⟩ := hrel
      by_cases hlt : k < s.size
      · have hb := (s[k]'hlt).toNat_lt
        have hb0 : (0 : Int) ≤ ((s[k]'hlt).toNat : Int) := by omega
        have hb1 : ((s[k]'hlt).toNat : Int) ≤ 255 := by omega
        have HOK := Lib.hid (fun hc => okTo_succ ho.out hlt hc)
        have HNO := Lib.hid (fun hc => validP_byte hlt hc)
        clear hb
        go_wp2_with fail
        by_cases h1 : 97 ≤ ((s[k]'hlt).toNat : Int) ∧ ((s[k]'hlt).toNat : Int) ≤ 122
        · refine (Num.specIn_true h1.1 h1.2 _).mono ?_
          rintro e w2 ⟨rfl, rfl⟩
          have HO2 := Lib.hid (HOK.out (by unfold okR; omega))
          clear HOK HNO h1
          go_wp2
          go_round
          case rel => exact ⟨k + 1, by omega, by go_num, HO2⟩
          case measure => simp [intOf]; omega
        · refine (Num.specIn_false h1 _).mono ?_
          rintro e w2 ⟨rfl, rfl⟩
          go_wp2_with fail
          by_cases h2 : 48 ≤ ((s[k]'hlt).toNat : Int) ∧ ((s[k]'hlt).toNat : Int) ≤ 57
          · refine (Num.specIn_true h2.1 h2.2 _).mono ?_
            rintro e w2 ⟨rfl, rfl⟩
            have HO2 := Lib.hid (HOK.out (by unfold okR; omega))
            clear HOK HNO h1 h2
            go_wp2
            go_round
            case rel => exact ⟨k + 1, by omega, by go_num, HO2⟩
            case measure => simp [intOf]; omega
          · refine (Num.specIn_false h2 _).mono ?_
            rintro e w2 ⟨rfl, rfl⟩
            by_cases h3 : (s[k]'hlt).toNat = 45
            · have h3b : (((s[k]'hlt).toNat : Int) != 45) = false := by simp [h3]
              have HO2 := Lib.hid (HOK.out (by unfold okR; omega))
              clear HOK HNO h1 h2
              go_wp2
              go_round
              case rel => exact ⟨k + 1, by omega, by go_num, HO2⟩
              case measure => simp [intOf]; omega
            · have h3b : (((s[k]'hlt).toNat : Int) != 45) = true := by simp; omega
              have HV := Lib.hid (HNO.out (by unfold okR; omega))
              clear HOK HNO h1 h2 h3
              go_wp2
              go_ret
              exact ⟨ret_bool HV.out.symm, rfl⟩
      · obtain rfl : k = s.size := by omega
        have HV := Lib.hid (validP_true hs1 hs8 ho.out)
        go_wp2
        go_ret
        exact ⟨ret_bool HV.out.symm, rfl⟩
  · have HV := Lib.hid (validP_size hsz)
    go_enter Try.func119, Try.ntmps119
    go_wp2_with fail
    refine (Num.specIn_false (by omega) _).mono ?_
    rintro e w2 ⟨rfl, rfl⟩
    go_wp2
    go_ret
    exact ⟨ret_bool HV.out.symm, rfl⟩
end Go.Proofs.Ytjphnlkdbhcblaa.Row
/- Contracts of ValidName, the program's and the reference model's: a name is right where each part is and there are at most 6. No conditions but that lengths fit. -/
namespace Go.Proofs.Ytjphnlkdbhcblaa.Row
open Go.ChangeShapes Go.WideShapes Go.ChangeAt Go.RowKit Go.Instr
set_option linter.unusedVariables false
set_option maxRecDepth 100000
def validN (l : List ByteArray) : Bool := decide (l.length ≤ 6 ∧ ∀ x ∈ l, validP x = true)
def allV (l : List ByteArray) (k : Nat) : Prop := ∀ j, j < k → validP (nth l j) = true
theorem allV_zero (l : List ByteArray) : allV l 0 := fun j h => absurd h (by omega)
theorem allV_succ {l : List ByteArray} {k : Nat} (h : allV l k) (hc : validP (nth l k) = true) : allV l (k + 1) := fun j h1 => by
  by_cases e : j = k
  · subst e; exact hc
  · exact h j (by omega)
theorem validN_not {l : List ByteArray} {k : Nat} (hk : k < l.length) (hc : validP (nth l k) = false) : validN l = false := by
  unfold validN
  refine decide_eq_false (fun e => ?_)
  have := e.2 (nth l k) (by rw [nth_eq hk]; exact List.getElem_mem _)
  rw [hc] at this; cases this
theorem validN_all {l : List ByteArray} (h : allV l l.length) : validN l = decide (l.length ≤ 6) := by
  have : ∀ x ∈ l, validP x = true := by
    intro x hx
    obtain ⟨j, hj, rfl⟩ := List.getElem_of_mem hx
    have := h j hj
    rwa [nth_eq hj] at this
  unfold validN
  congr 1
  exact propext ⟨fun e => e.1, fun e => ⟨e, this⟩⟩
theorem size_nth {l : List ByteArray} {m : Nat} (h : bulk l ≤ m) {k : Nat} (hk : k < l.length) : (nth l k).size ≤ m := by
  have h1 := bulkTo_succ l hk
  have h2 := bulkTo_le l (k + 1)
  omega
set_option maxHeartbeats 1000000 in
theorem implValidName (v : Value) (l : List ByteArray) (w : World) (h : Holds Value.string w v l) (hl : bulk l ≤ 100000000) :
    Calls Try.prog 121 #[.agg #[v]] w fun e w' => e = .returned (.bool (validN l)) ∧ Below w.heap.size w w' := by
  obtain ⟨x, cap, rfl, hcap, hh⟩ := h.shape
  have hll := bigLen hl
  have HS := Lib.hid (fun k (hk : k < l.length) => size_nth hl hk)
  obtain ⟨n, hn⟩ : ∃ n, n = l.length := ⟨_, rfl⟩
  rw [← hn] at hcap hh hll ⊢
  have HN := Lib.hid hn
  have HH := Lib.hid hh
  have HB0 := Lib.hid ((Below.refl w.heap.size w).alloc (Nat.le_refl _) (.cells #[.slice x n cap] 27))
  have HC0 := Lib.hid (Ret.cell_at (w := w) (u := .slice x n cap) (t := 27) (n := w.heap.size) rfl)
  clear hn h hh hl
  go_enter Try.func121, Try.ntmps121
  go_wp2_with fail
  go_loopw [8] (fun i wr => ∃ k : Nat, k ≤ n ∧ i = .int .i64 k ∧ Hid (allV l k) ∧ Hid (Below w.heap.size w wr) ∧ Hid (wr.cell? ⟨w.heap.size, 0, none⟩ = some (.slice x n cap))) (fun i _ => n - (intOf i).toNat)
  case atStart => exact ⟨0, Nat.zero_le _, rfl, Lib.hid (allV_zero _), HB0, HC0⟩
  case round =>
    obtain ⟨k, hk, rfl, ha, hb, hc0⟩ := hrel
    by_cases hlt : k < n
    · have hlen := HN.out
      obtain ⟨b, off, rfl, hc⟩ := (HH.out.on hb.out).at (j := k) (by omega)
      have hsz := HS.out k (by omega)
      clear hlen
      go_wp2_with fail
      refine (implValidPart _ _ (by omega)).mono ?_
      rintro e w2 ⟨rfl, hb2⟩
      have HB2 := Lib.hid (hb.out.trans (hb2.mono hb.out.size))
      have HC2 := Lib.hid ((hb2.cell (cell_lt hc0.out)).trans hc0.out)
      clear hb2 hc
      by_cases hv : validP (nth l k) = true
      · rw [hv]
        have HA2 := Lib.hid (allV_succ ha.out hv)
        clear hv
        go_wp2
        go_roundw
        case rel => exact ⟨k + 1, by omega, by go_num, HA2, HB2, HC2⟩
        case measure => simp [intOf]; omega
      · have hv2 : validP (nth l k) = false := by simpa using hv
        rw [hv2]
        have HV := Lib.hid (validN_not (by have := HN.out; omega) hv2)
        clear hv hv2
        go_wp2
        go_ret
        exact ⟨ret_bool HV.out.symm, HB2.out⟩
    · obtain rfl : k = n := by omega
      have HV := Lib.hid (validN_all (HN.out ▸ ha.out))
      have hc0 := hc0.out
      clear hlt
      go_wp2
      go_ret
      refine ⟨ret_bool ?_, hb.out⟩
      rw [HV.out, ← HN.out]
      simp
      omega
set_option maxHeartbeats 1000000 in
theorem specValidName (v : Value) (l : List ByteArray) (w : World) (h : Holds Value.string w v l) (hl : bulk l ≤ 100000000) :
    Calls Try.prog 74 #[.agg #[v]] w fun e w' => e = .returned (.bool (validN l)) ∧ Below w.heap.size w w' := by
  obtain ⟨x, cap, rfl, hcap, hh⟩ := h.shape
  have hll := bigLen hl
  have HS := Lib.hid (fun k (hk : k < l.length) => size_nth hl hk)
  obtain ⟨n, hn⟩ : ∃ n, n = l.length := ⟨_, rfl⟩
  rw [← hn] at hcap hh hll ⊢
  have HN := Lib.hid hn
  have HH := Lib.hid hh
  have HB0 := Lib.hid ((Below.refl w.heap.size w).alloc (Nat.le_refl _) (.cells #[.slice x n cap] 27))
  have HC0 := Lib.hid (Ret.cell_at (w := w) (u := .slice x n cap) (t := 27) (n := w.heap.size) rfl)
  clear hn h hh hl
  go_enter Try.func74, Try.ntmps74
  go_wp2_with fail
  go_loopw [3] (fun i wr => ∃ k : Nat, k ≤ n ∧ i = .int .i64 k ∧ Hid (allV l k) ∧ Hid (Below w.heap.size w wr) ∧ Hid (wr.cell? ⟨w.heap.size, 0, none⟩ = some (.slice x n cap))) (fun i _ => n - (intOf i).toNat)
  case atStart => exact ⟨0, Nat.zero_le _, rfl, Lib.hid (allV_zero _), HB0, HC0⟩
  case round =>
    obtain ⟨k, hk, rfl, ha, hb, hc0⟩ := hrel
    by_cases hlt : k < n
    · have hlen := HN.out
      obtain ⟨b, off, rfl, hc⟩ := (HH.out.on hb.out).at (j := k) (by omega)
      have hsz := HS.out k (by omega)
      have hc1 := hc0.out
      clear hlen
      go_wp2_with fail
      refine (specValidPart _ _ (by omega)).mono ?_
      rintro e w2 ⟨rfl, rfl⟩
      clear hc
      by_cases hv : validP (nth l k) = true
      · rw [hv]
        have HA2 := Lib.hid (allV_succ ha.out hv)
        clear hv
        go_wp2
        go_roundw
        case rel => exact ⟨k + 1, by omega, by go_num, HA2, hb, hc0⟩
        case measure => simp [intOf]; omega
      · have hv2 : validP (nth l k) = false := by simpa using hv
        rw [hv2]
        have HV := Lib.hid (validN_not (by have := HN.out; omega) hv2)
        clear hv hv2
        go_wp2
        go_ret
        exact ⟨ret_bool HV.out.symm, hb.out⟩
    · obtain rfl : k = n := by omega
      have HV := Lib.hid (validN_all (HN.out ▸ ha.out))
      have hc0 := hc0.out
      clear hlt
      go_wp2
      go_ret
      refine ⟨ret_bool ?_, hb.out⟩
      rw [HV.out, ← HN.out]
      simp
      omega
end Go.Proofs.Ytjphnlkdbhcblaa.Row
/- Contracts of AppendPart, the program's and the reference model's. No conditions but that lengths fit. -/
namespace Go.Proofs.Ytjphnlkdbhcblaa.Row
open Go.ChangeShapes Go.WideShapes Go.ChangeAt Go.RowKit Go.Instr
set_option linter.unusedVariables false
set_option maxRecDepth 100000
def appN (l : List ByteArray) (s : ByteArray) : List ByteArray := if validN (l ++ [s]) = true then l ++ [s] else l
def vs2 (a b : Value) (j : Nat) : Value := if j = 0 then a else b
def ls2 (a b : List ByteArray) (j : Nat) : List ByteArray := if j = 0 then a else b
set_option maxHeartbeats 1000000 in
theorem l4Copy (v : Value) (l : List ByteArray) (w : World) (h : Holds Value.string w v l) (hl : l.length ≤ 10000000) :
    Calls Try.prog 67 #[.agg #[v]] w (GivesN w l) := by
  obtain ⟨x, n, cap, rfl, hn, hcap, hh⟩ := h.shapeN
  rw [← hn] at hl
  have HB0 := Lib.hid ((((Below.refl w.heap.size w).alloc (Nat.le_refl _) (.cells #[.slice x n cap] 27)).alloc (by simp) (.cells #[.slice none 0 0] 27)).alloc (by simp; omega) (.cells #[] 9))
  have HN := Lib.hid hn
  have HT2 := Lib.hid (hh.on HB0.out)
  have HO := Lib.hid (own_empty Value.string 9 ((w.alloc (.cells #[.slice x n cap] 27)).alloc (.cells #[.slice none 0 0] 27)))
  simp only [World.size_alloc] at HO
  have HR := Lib.hid ((Ret.NC.new' (.slice none 0 0) 27 (w := w.alloc (.cells #[.slice x n cap] 27)) (n := w.heap.size + 1) (by simp)).alloc (.cells #[] 9))
  clear hh h hn
  go_enter Try.func67, Try.ntmps67
  go_wp2_with (at_builtin; refine wpList_app (enc := Value.string) (B := w.heap.size + 1 + 1) (l := []) (m := l) rfl _ _ rfl Try.underlying25 elemSTR rfl rfl rfl HO.out HT2.out oneStr (by rw [← HN.out]; simp; omega) (by rw [← HN.out]; unfold maxLen; simp; omega) (by simp) ?_)
  intro v3 w3 ho3 hg3
  obtain ⟨x3, n3, c3, rfl, hn3, hc3, ho3⟩ := ho3.shapeN
  clear hn3
  have HB4 := Lib.hid (HB0.out.grown hg3 (by simp; omega) (fun g hh => by have := (HO.out.lt g hh).1; omega))
  obtain ⟨hk2, hf2⟩ := HR.out.grown hg3 (by simp [Value.ownBlock])
  obtain ⟨q1, q2, q3⟩ := endN (w := w) (g := w.heap.size + 1) (by omega) (by omega) ho3 hk2 HB4.out
  have HQ1 := Lib.hid q1; have HQ2 := Lib.hid q2; have HQ3 := Lib.hid q3
  clear q1 q2 q3 ho3 hg3
  go_wp2
  refine bodyPost_ret (Ret.results_c rfl _ _ (w.heap.size + 1) [_] rfl aggN (Ret.one HQ1.out)) rfl ?_
  exact ⟨_, rfl, HQ2.out, HQ3.out⟩
end Go.Proofs.Ytjphnlkdbhcblaa.Row
/- Contracts of the helpers by which the laws measure, copy, compare, mark and look at interests (a name and three numbers). No conditions but that lengths fit. -/
namespace Go.Proofs.Ytjphnlkdbhcblaa.Row
open Go.ChangeShapes Go.WideShapes Go.ChangeAt Go.RowKit Go.Instr
set_option linter.unusedVariables false
set_option maxRecDepth 100000
abbrev wc (v : Value) (a b c : Int) : Array Value := #[v, .int .i64 a, .int .i64 b, .int .i64 c]
end Go.Proofs.Ytjphnlkdbhcblaa.Row
/- What calls leave that give a slice of the call's own; lists of bytes. No conditions. -/
namespace Go.Proofs.Ytjphnlkdbhcblaa.Sl
open Go.ChangeShapes Go.WideShapes Go.ChangeAt Go.RowKit Go.Instr
set_option linter.unusedVariables false
set_option maxRecDepth 100000
def GivesB (w : World) (l : List Int) (e : Ending) (w' : World) : Prop := ∃ v, e = .returned v ∧ Own 5 .u8 w.heap.size w' v l ∧ Below w.heap.size w w'
def GivesI (w : World) (l : List Int) (e : Ending) (w' : World) : Prop := ∃ v, e = .returned v ∧ Own 3 .i64 w.heap.size w' v l ∧ Below w.heap.size w w'
def Byt (l : List Int) : Prop := ∀ x ∈ l, 0 ≤ x ∧ x ≤ 255
theorem Byt.at {l : List Int} (h : Byt l) {j : Nat} (hj : j < l.length) : 0 ≤ nth l j ∧ nth l j ≤ 255 := by rw [nth_eq hj]; exact h _ (List.getElem_mem hj)
end Go.Proofs.Ytjphnlkdbhcblaa.Sl
/- A string turned into a slice of bytes: where they lie, what they are. No conditions. -/
namespace Go.Proofs.Ytjphnlkdbhcblaa.Sl
open Go.ChangeShapes Go.WideShapes Go.ChangeAt Go.RowKit Go.Instr
set_option linter.unusedVariables false
set_option maxRecDepth 100000
def bytesOf (t : ByteArray) : List Int := t.data.toList.map fun c => (c.toNat : Int)
end Go.Proofs.Ytjphnlkdbhcblaa.Sl
/- Plain mathematics of the base-128 encoding, no program in sight: the encoding's bytes, how they are read back, how long they are. No conditions. -/
namespace Go.Proofs.Ytjphnlkdbhcblaa.Var
def enc (n : Nat) : List Int := if h : n < 128 then [(n : Int)] else (((n % 128 : Nat) : Int) + 128) :: enc (n / 128)
  termination_by n
  decreasing_by omega
def var (n : Int) : List Int := if 0 ≤ n ∧ n ≤ 1000000000000 then enc n.toNat else []
def dec : Nat → List Int → Nat → Int → Option (Int × Nat)
  | 0, _, _, _ => none
  | _ + 1, [], _, _ => none
  | f + 1, x :: r, k, n =>
    if x < 128 then (if (x = 0 ∧ 0 < k) ∨ 1000000000000 < n + x * 128 ^ k then none else some (n + x * 128 ^ k, k + 1))
    else dec f r (k + 1) (n + x % 128 * 128 ^ k)
def okAt (l : List Int) (i : Int) : Prop := 0 ≤ i ∧ i ≤ l.length
def res (i : Int) : Option (Int × Nat) → Int × Int × Bool
  | none => (0, 0, false)
  | some (n, c) => (n, i + c, true)
def readV (l : List Int) (i : Int) : Int × Int × Bool := if 0 ≤ i ∧ i ≤ l.length then res i (dec 6 (l.drop i.toNat) 0 0) else (0, 0, false)
end Go.Proofs.Ytjphnlkdbhcblaa.Var
/- Contracts of AppendVarint, the reference model's and the program's: the slice and behind it the number's groups, in memory of the call's own. No conditions but that lengths fit. -/
namespace Go.Proofs.Ytjphnlkdbhcblaa.Sl
open Go.ChangeShapes Go.WideShapes Go.ChangeAt Go.RowKit Go.Instr
set_option linter.unusedVariables false
set_option maxRecDepth 100000
def GrowsB (B : Nat) (w : World) (l : List Int) (e : Ending) (w' : World) : Prop := ∃ v, e = .returned v ∧ Own 5 .u8 B w' v l ∧ Below B w w'
end Go.Proofs.Ytjphnlkdbhcblaa.Sl
/- Contracts of ReadVarint, the reference model's and the program's: what the groups at the offset make, the offset behind them, true; or 0, 0 and false. Nothing in memory turns. No conditions but that the elements are bytes and the length fits. -/
namespace Go.Proofs.Ytjphnlkdbhcblaa.Sl
open Go.ChangeShapes Go.WideShapes Go.ChangeAt Go.RowKit Go.Instr
set_option linter.unusedVariables false
set_option maxRecDepth 100000
def rdV (r : Int × Int × Bool) : Value := .tuple #[.int .i64 r.1, .int .i64 r.2.1, .bool r.2.2]
end Go.Proofs.Ytjphnlkdbhcblaa.Sl
/- Contracts of the program's ReadVarint: what the groups at the offset make, the offset behind them, true; or 0, 0 and false. What was in memory stays as it was. No conditions but that the elements are bytes and the length fits. -/
namespace Go.Proofs.Ytjphnlkdbhcblaa.Sl
open Go.ChangeShapes Go.WideShapes Go.ChangeAt Go.RowKit Go.Instr
set_option linter.unusedVariables false
set_option maxRecDepth 100000
end Go.Proofs.Ytjphnlkdbhcblaa.Sl
/- Contracts of AppendBytes, EqualBytes and EncodeInts, the reference model's and the program's. Slices that are returned lie in memory of the call's own. No conditions but that lengths fit and that the elements are bytes. -/
namespace Go.Proofs.Ytjphnlkdbhcblaa.Sl
open Go.ChangeShapes Go.WideShapes Go.ChangeAt Go.RowKit Go.Instr
set_option linter.unusedVariables false
set_option maxRecDepth 100000
end Go.Proofs.Ytjphnlkdbhcblaa.Sl
/- Contracts of EncodeInts, the reference model's and the program's: the numbers' groups, one number after the other, in memory of the call's own. No conditions but that lengths fit. -/
namespace Go.Proofs.Ytjphnlkdbhcblaa.Sl
open Go.ChangeShapes Go.WideShapes Go.ChangeAt Go.RowKit Go.Instr
set_option linter.unusedVariables false
set_option maxRecDepth 100000
def encs (l : List Int) : List Int := l.flatMap Var.var
end Go.Proofs.Ytjphnlkdbhcblaa.Sl
/- Contracts of the model's functions on interests: AppendName. No conditions but that lengths fit. -/
namespace Go.Proofs.Ytjphnlkdbhcblaa.Row
open Go.ChangeShapes Go.WideShapes Go.ChangeAt Go.RowKit Go.Instr
set_option linter.unusedVariables false
set_option maxRecDepth 100000
def encPs (l : List ByteArray) : List Int := l.flatMap fun s => Var.var s.size ++ Sl.bytesOf s
def encN (l : List ByteArray) : List Int := Var.var l.length ++ encPs l
def appName (b : List Int) (l : List ByteArray) : List Int := if validN l = true then b ++ encN l else b
end Go.Proofs.Ytjphnlkdbhcblaa.Row
/- Contracts of the model's functions on interests: validity, copy, equality, the hop limit. No conditions but that lengths fit. -/
namespace Go.Proofs.Ytjphnlkdbhcblaa.Row
open Go.ChangeShapes Go.WideShapes Go.ChangeAt Go.RowKit Go.Instr
set_option linter.unusedVariables false
set_option maxRecDepth 100000
abbrev Wt := List ByteArray × Int × Int × Int
def validW (x : Wt) : Bool := validN x.1 && decide (0 < x.1.length) && decide (0 ≤ x.2.1 ∧ x.2.1 ≤ 1000000) && decide (0 ≤ x.2.2.1 ∧ x.2.2.1 ≤ 16) && decide (1 ≤ x.2.2.2 ∧ x.2.2.2 ≤ 20)
def GivesW (w : World) (x : Wt) (e : Ending) (w' : World) : Prop := ∃ v', e = .returned (.agg (wc v' x.2.1 x.2.2.1 x.2.2.2)) ∧ Own 9 Value.string w.heap.size w' v' x.1 ∧ Below w.heap.size w w'
def GivesWB (w : World) (x : Wt) (z : Bool) (e : Ending) (w' : World) : Prop := ∃ v', e = .returned (.tuple #[.agg (wc v' x.2.1 x.2.2.1 x.2.2.2), .bool z]) ∧ Own 9 Value.string w.heap.size w' v' x.1 ∧ Below w.heap.size w w'
def decW (x : Wt) : Wt := if x.2.2.1 < 1 then x else (x.1, x.2.1, x.2.2.1 - 1, x.2.2.2)
def decOk (x : Wt) : Bool := decide (1 ≤ x.2.2.1)
end Go.Proofs.Ytjphnlkdbhcblaa.Row
/- Contract of the program's copy of a name. No conditions but that lengths fit. -/
namespace Go.Proofs.Ytjphnlkdbhcblaa.Row
open Go.ChangeShapes Go.WideShapes Go.ChangeAt Go.RowKit Go.Instr
set_option linter.unusedVariables false
set_option maxRecDepth 100000
set_option maxHeartbeats 4000000 in
theorem cloneName (v : Value) (l : List ByteArray) (w : World) (h : Holds Value.string w v l) (hl : l.length ≤ 9000000) :
    Calls Try.prog 95 #[.agg #[v]] w (GivesN w l) := by
  obtain ⟨x, n, cap, rfl, hn, hcap, hh⟩ := h.shapeN
  have HB0 := Lib.hid (((Below.refl w.heap.size w).alloc (Nat.le_refl _) (.cells #[.slice x n cap] 27)).alloc (by simp) (.cells #[.slice none 0 0] 27))
  have HH := Lib.hid (hh.on HB0.out)
  have HR := Lib.hid (Ret.NC.new' (.slice none 0 0) 27 (w := w.alloc (.cells #[.slice x n cap] 27)) (n := w.heap.size + 1) (by simp))
  clear hh h hn
  go_enter Try.func95, Try.ntmps95
  go_wp2_with fail
  refine (cloneS _ l _ HH.out (by omega)).mono ?_
  rintro e w1 ⟨v1, rfl, ho, hb⟩
  obtain ⟨x1, n1, c1, rfl, -, -, ho1⟩ := ho.shapeN
  have HR1 := Lib.hid (HR.out.on hb)
  obtain ⟨hk, hf⟩ := HR1.out
  have HB1 := HB0.out.trans (hb.mono HB0.out.size)
  obtain ⟨q1, q2, q3⟩ := endN (w := w) (g := w.heap.size + 1) (by omega) (by simp) ho1 hk HB1
  have HQ1 := Lib.hid q1; have HQ2 := Lib.hid q2; have HQ3 := Lib.hid q3
  clear q1 q2 q3 ho ho1 hb HB1
  go_wp2
  refine bodyPost_ret (Ret.results_c rfl _ _ (w.heap.size + 1) [_] rfl aggN (Ret.one HQ1.out)) rfl ?_
  exact ⟨_, rfl, HQ2.out, HQ3.out⟩
end Go.Proofs.Ytjphnlkdbhcblaa.Row
/- Names in the kinds of kstruct.py: ValidName, EqualNames, the copies, model and program. No conditions but that lengths fit. -/
namespace Go.Proofs.Ytjphnlkdbhcblaa.Row
open Go.ChangeShapes Go.WideShapes Go.ChangeAt Go.RowKit Go.Instr
set_option linter.unusedVariables false
set_option maxRecDepth 100000
section
variable {w : World} {V U : Value} {l m : List ByteArray} {B E : Nat}
theorem sEqK (z : Bool) (hz : decide (l = m) = z) (h : kN.At w V l) (g : kN.At w U m) (hl : bulk l ≤ 9000000) (hm : bulk m ≤ 9000000) :
    Calls Try.prog 83 #[V, U] w fun e w' => e = .returned (.bool z) ∧ Below w.heap.size w w' := by
  obtain ⟨v, rfl, h9⟩ := kN_at h
  obtain ⟨u, rfl, g9⟩ := kN_at g
  exact hz ▸ specEqualNames v u l m w h9 g9 (by have := bulk_len l; omega) (by have := bulk_len m; omega)
theorem iEqK (z : Bool) (hz : decide (l = m) = z) (h : kN.At w V l) (g : kN.At w U m) (hl : bulk l ≤ 9000000) (hm : bulk m ≤ 9000000) :
    Calls Try.prog 71 #[V, U] w fun e w' => e = .returned (.bool z) ∧ Below w.heap.size w w' := by
  obtain ⟨v, rfl, h9⟩ := kN_at h
  obtain ⟨u, rfl, g9⟩ := kN_at g
  exact hz ▸ implEqualNames v u l m w h9 g9 (by have := bulk_len l; omega) (by have := bulk_len m; omega)
theorem sCpyN (h : kN.At w V l) (hl : bulk l ≤ 9000000) : Calls Try.prog 67 #[V] w fun e w' => ∃ U, e = .returned U ∧ kN.In w.heap.size w'.heap.size w' U l ∧ Below w.heap.size w w' := by
  obtain ⟨v, rfl, h9⟩ := kN_at h
  exact (l4Copy v l w h9 (by have := bulk_len l; omega)).mono fun e w' ⟨v', a, b, c⟩ => ⟨_, a, kN_own b, c⟩
theorem iCpyN (h : kN.At w V l) (hl : bulk l ≤ 9000000) : Calls Try.prog 95 #[V] w fun e w' => ∃ U, e = .returned U ∧ kN.In w.heap.size w'.heap.size w' U l ∧ Below w.heap.size w w' := by
  obtain ⟨v, rfl, h9⟩ := kN_at h
  exact (cloneName v l w h9 (by have := bulk_len l; omega)).mono fun e w' ⟨v', a, b, c⟩ => ⟨_, a, kN_own b, c⟩
theorem sValN (z : Bool) (hz : validN l = z) (h : kN.At w V l) (hl : bulk l ≤ 9000000) :
    Calls Try.prog 74 #[V] w fun e w' => e = .returned (.bool z) ∧ Below w.heap.size w w' := by
  obtain ⟨v, rfl, h9⟩ := kN_at h
  exact hz ▸ specValidName v l w h9 (by omega)
theorem iValN (z : Bool) (hz : validN l = z) (h : kN.At w V l) (hl : bulk l ≤ 9000000) :
    Calls Try.prog 121 #[V] w fun e w' => e = .returned (.bool z) ∧ Below w.heap.size w w' := by
  obtain ⟨v, rfl, h9⟩ := kN_at h
  exact hz ▸ implValidName v l w h9 (by omega)
end
end Go.Proofs.Ytjphnlkdbhcblaa.Row
/- Interests in the words of the exact laws: the kind; the laws' helpers for it; an interest that came in as an argument. No conditions but that lengths fit. -/
namespace Go.Proofs.Ytjphnlkdbhcblaa.Row
open Go.ChangeShapes Go.WideShapes Go.ChangeAt Go.RowKit Go.Instr
set_option linter.unusedVariables false
set_option maxRecDepth 100000
def kW : Kd Wt (Rw ByteArray × Int × Int × Int) := (kNm 9).pair (kInt.pair (kInt.pair kInt))
section
variable {w : World} {v V : Value} {x : Wt} {B E : Nat}
end
def WfW (x : Wt) : Prop := (∀ y ∈ x.1, y.size ≤ maxLen) ∧ (Lit.int .i64 x.2.1).wf = true ∧ (Lit.int .i64 x.2.2.1).wf = true ∧ (Lit.int .i64 x.2.2.2).wf = true
theorem WfW.hop {x : Wt} (h : WfW x) : x.2.2.1 ≤ 9223372036854775807 := by
  have h2 := h.2.2.1
  simp [Lit.wf] at h2
  exact h2.2
def mkW (k : Int) (x : Wt) : Wt := (marks markT k x.1.length, x.2.1, x.2.2.1, x.2.2.2)
end Go.Proofs.Ytjphnlkdbhcblaa.Row
/- Contracts of ReadBytes, the reference model's and the program's: the bytes behind the length at the offset, the offset behind them, true; or an empty slice, 0 and false. What is returned lies in memory of the call's own. No conditions but that the elements are bytes and the lengths fit. -/
namespace Go.Proofs.Ytjphnlkdbhcblaa.Sl
open Go.ChangeShapes Go.WideShapes Go.ChangeAt Go.RowKit Go.Instr
set_option linter.unusedVariables false
set_option maxRecDepth 100000
def readB (l : List Int) (i most : Int) : List Int × Int × Bool :=
  let r := Var.readV l i
  if r.2.2 = false ∨ most < r.1 ∨ (l.length : Int) - r.2.1 < r.1 then ([], 0, false)
  else ((l.drop r.2.1.toNat).take r.1.toNat, r.2.1 + r.1, true)
theorem Holds.part {k : IntKind} {w : World} {b off n cap : Nat} {l : List Int} (h : Holds k w (.slice (some ⟨b, off, none⟩) n cap) l) {a c c' cc : Nat} (hc : a + c ≤ n) (hcc : c ≤ cc) (he : c' = c) :
    Holds k w (.slice (some ⟨b, off + a, none⟩) c' cc) ((l.drop a).take c) := by
  rw [he]; clear he
  have hn := h.lenEq; subst hn
  have hl : ((l.drop a).take c).length = c := by simp; omega
  refine ⟨_, cc, by rw [hl], by rw [hl]; exact hcc, ?_⟩
  by_cases h0 : c = 0
  · left; subst h0; simp
  · right
    refine ⟨b, off + a, rfl, fun j hj => ?_⟩
    rw [hl] at hj
    obtain ⟨b', off', hx, hcell⟩ := h.at (j := a + j) (by omega)
    cases hx
    rw [Nat.add_assoc, hcell]
    simp only [nth, List.getD, List.getElem?_take, List.getElem?_drop, if_pos hj]
def GivesB3 (w : World) (l : List Int) (n : Int) (ok : Bool) (e : Ending) (w' : World) : Prop := ∃ v, e = .returned (.tuple #[v, .int .i64 n, .bool ok]) ∧ Own 5 .u8 w.heap.size w' v l ∧ Below w.heap.size w w'
theorem GivesB3.of {w w' : World} {v : Value} {l m : List Int} {n p : Int} {a b : Bool} (h : (l, n, a) = (m, p, b)) (ho : Own 5 .u8 w.heap.size w' v l) (hb : Below w.heap.size w w') :
    GivesB3 w m p b (.returned (.tuple #[v, .int .i64 n, .bool a])) w' := by
  cases h; exact ⟨v, rfl, ho, hb⟩
end Go.Proofs.Ytjphnlkdbhcblaa.Sl
/- Contract of the model's EncodeInterest. No conditions but that lengths fit. -/
namespace Go.Proofs.Ytjphnlkdbhcblaa.Sl
open Go.ChangeShapes Go.WideShapes Go.ChangeAt Go.RowKit Go.Instr
set_option linter.unusedVariables false
end Go.Proofs.Ytjphnlkdbhcblaa.Sl
namespace Go.Proofs.Ytjphnlkdbhcblaa.Row
open Go.ChangeShapes Go.WideShapes Go.ChangeAt Go.RowKit Go.Instr
set_option linter.unusedVariables false
set_option maxRecDepth 100000
def encW (x : Wt) : List Int := if validW x = true then appName [] x.1 ++ Sl.encs [x.2.1, x.2.2.1, x.2.2.2] else []
end Go.Proofs.Ytjphnlkdbhcblaa.Row
/- Contracts of the program's functions on interests: validity, AppendName, the numbers, copy, the hop limit. No conditions but that lengths fit. -/
namespace Go.Proofs.Ytjphnlkdbhcblaa.Row
open Go.ChangeShapes Go.WideShapes Go.ChangeAt Go.RowKit Go.Instr
set_option linter.unusedVariables false
set_option maxRecDepth 100000
end Go.Proofs.Ytjphnlkdbhcblaa.Row
/- Pending interests: what chapter 13's functions answer, as functions of lists. No conditions. -/
namespace Go.Proofs.Ytjphnlkdbhcblaa.Row
open Go.ChangeShapes Go.WideShapes Go.ChangeAt Go.RowKit Go.Instr
set_option linter.unusedVariables false
set_option linter.unusedSectionVars false
set_option maxRecDepth 100000
def isP (n : List ByteArray) (x : Pit) : Bool := decide (x.1 = n)
def isS (n : List ByteArray) (k : Int) (x : Snt) : Bool := decide (x.2 = k) && decide (x.1 = n)
def nnR (k : Int) (r : Rqt) : Bool := decide (r.2.1 = k)
def fcR (f : Int) (r : Rqt) : Bool := !decide (r.1 = f)
def gtR (f : Int) (r : Rqt) : Bool := decide (f < r.1)
def wtR (now : Int) (r : Rqt) : Bool := decide (now ≤ r.2.2)
def validQ (l : List Rqt) : Nat → Bool
  | 0 => true
  | k + 1 => validQ l k && (Num.inB (nth l k).1 0 6 && Num.inB (nth l k).2.1 0 1000000 && (decide (k = 0) || decide ((nth l (k - 1)).1 < (nth l k).1)))
def validQs (l : List Rqt) : Bool := validQ l l.length && decide (0 < l.length)
def validI (x : Pit) : Bool := validN x.1 && (decide (0 < x.1.length) && (validQs x.2.1 && Num.inB x.2.2 0 100000))
def vldP (l : List Pit) : Nat → Bool
  | 0 => true
  | k + 1 => vldP l k && (validI (nth l k) && !(l.take k).any (isP (nth l k).1))
def validPs (l : List Pit) : Bool := vldP l l.length && decide (l.length ≤ 12)
def loopR (n : List ByteArray) (k : Int) (x : Pit) : Bool := isP n x && x.2.1.any (nnR k)
def loopP (l : List Pit) (s : List Snt) (w : Wt) : Bool := l.any (loopR w.1 w.2.1) || s.any (isS w.1 w.2.1)
def hasPd (l : List Pit) (n : List ByteArray) : Bool := decide (0 ≤ ixL (isP n) l)
def putO (o : List Rqt) (a : Rqt) : List Rqt := o.takeWhile (fun r => !gtR a.1 r) ++ a :: o.dropWhile (fun r => !gtR a.1 r)
def putR (l : List Rqt) (a : Rqt) : List Rqt := putO (l.filter (fcR a.1)) a
def addOk (l : List Pit) (w : Wt) (f : Int) : Bool := validW w && Num.inB f 0 6 && (decide (0 ≤ ixL (isP w.1) l) || decide ((l.length : Int) < 12))
def askR (w : Wt) (f now : Int) : Rqt := (f, w.2.1, IntKind.i64.wrap (now + w.2.2.2))
def addP (l : List Pit) (w : Wt) (f now : Int) : List Pit :=
  if addOk l w f = true then
    if 0 ≤ ixL (isP w.1) l then l.set (ixL (isP w.1) l).toNat ((nth l (ixL (isP w.1) l).toNat).1, putR (nth l (ixL (isP w.1) l).toNat).2.1 (askR w f now), (nth l (ixL (isP w.1) l).toNat).2.2)
    else l ++ [(w.1, [askR w f now], 0)]
  else l
def lastP (l : List Pit) (n : List ByteArray) : Int := if 0 ≤ ixL (isP n) l then (nth l (ixL (isP n) l).toNat).2.2 else 0
def sentP (l : List Pit) (n : List ByteArray) (now : Int) : List Pit :=
  if 0 ≤ ixL (isP n) l then l.set (ixL (isP n) l).toNat ((nth l (ixL (isP n) l).toNat).1, (nth l (ixL (isP n) l).toNat).2.1, now) else l
def satP (l : List Pit) (n : List ByteArray) : List Pit := if 0 ≤ ixL (isP n) l then l.eraseIdx (ixL (isP n) l).toNat else l
def satR (l : List Pit) (n : List ByteArray) : List Rqt := if 0 ≤ ixL (isP n) l then (nth l (ixL (isP n) l).toNat).2.1 else []
def leftP (now : Int) (x : Pit) : Pit := (x.1, x.2.1.filter (wtR now), x.2.2)
def someR (x : Pit) : Bool := decide (0 < x.2.1.length)
def expP (l : List Pit) (now : Int) : List Pit := (l.map (leftP now)).filter someR
def seenS (s : List Snt) (n : List ByteArray) (k : Int) : List Snt := if 24 < (s ++ [(n, k)]).length then (s ++ [(n, k)]).drop 1 else s ++ [(n, k)]
def eqPs (x y : List Pit) : Bool := decide (x = y)
theorem validQ_le {l : List Rqt} {k n : Nat} (h : validQ l k = false) (hk : k ≤ n) : validQ l n = false := by
  induction n with
  | zero => obtain rfl : k = 0 := by omega
            exact h
  | succ n ih =>
    rcases Nat.lt_or_ge n k with h1 | h1
    · obtain rfl : k = n + 1 := by omega
      exact h
    · unfold validQ; rw [ih h1]; rfl
theorem vldP_le {l : List Pit} {k n : Nat} (h : vldP l k = false) (hk : k ≤ n) : vldP l n = false := by
  induction n with
  | zero => obtain rfl : k = 0 := by omega
            exact h
  | succ n ih =>
    rcases Nat.lt_or_ge n k with h1 | h1
    · obtain rfl : k = n + 1 := by omega
      exact h
    · unfold vldP; rw [ih h1]; rfl
theorem ixP_take {n : List ByteArray} {l : List Pit} {k : Nat} (hk : k < l.length) (hn : (nth l k).1 = n) : decide (ixL (isP n) l < (k : Int)) = (l.take k).any (isP n) := by
  have hself : isP n (nth l k) = true := by unfold isP; simp [hn]
  rcases ixL_cases (isP n) l with ⟨e, h⟩ | ⟨j, hj, e, hc, hno⟩
  · exact absurd (h k hk) (by rw [hself]; simp)
  · rw [e]
    by_cases hjk : j < k
    · have h1 : (l.take k).any (isP n) = true := List.any_eq_true.2 ⟨nth l j, by
        rw [nth_eq hj]
        exact List.mem_take_iff_getElem.2 ⟨j, by omega, rfl⟩, hc⟩
      rw [h1]; simp; omega
    · have h1 : (l.take k).any (isP n) = false := by
        rw [List.any_eq_false]
        intro x hx
        obtain ⟨i, hi, rfl⟩ := List.mem_take_iff_getElem.1 hx
        have h2 : i < l.length := by omega
        have := hno i (by omega)
        rw [nth_eq h2] at this
        simp [this]
      rw [h1]; simp; omega
theorem anyP_find {n : List ByteArray} {l : List Pit} : l.any (isP n) = decide (0 ≤ ixL (isP n) l) := any_ixL _ _
def putM (a : Rqt) (l : List Rqt) : List Rqt × Bool :=
  if l.any (gtR a.1) then (putR l a, true) else (l.filter (fcR a.1), false)
end Go.Proofs.Ytjphnlkdbhcblaa.Row
/- An element of the list of pending interests and its parts; contracts of the numbers in letters. No conditions. -/
namespace Go.Proofs.Ytjphnlkdbhcblaa.Row
open Go.ChangeShapes Go.WideShapes Go.ChangeAt Go.RowKit Go.Instr
set_option linter.unusedVariables false
set_option maxRecDepth 100000
theorem kPi_parts {w : World} {x0 x1 : Option Addr} {n0 c0 n1 c1 : Nat} {u : Int} {x : Pit} (h : kPi.At w (.agg #[.slice x0 n0 c0, .slice x1 n1 c1, .int .i64 u]) x) :
    kN.At w (.agg #[.slice x0 n0 c0]) x.1 ∧ kLRq.At w (.slice x1 n1 c1) x.2.1 := by
  obtain ⟨a0, b0, d0, a1, b1, d1, e, h0, h1⟩ := kPi_at h
  simp only [Value.agg.injEq, Array.mk.injEq, List.cons.injEq, Value.slice.injEq, Value.int.injEq, and_true, true_and] at e
  obtain ⟨⟨rfl, rfl, rfl⟩, ⟨rfl, rfl, rfl⟩, rfl⟩ := e
  exact ⟨h0, h1⟩
theorem kSn_parts {w : World} {x0 : Option Addr} {n0 c0 : Nat} {u : Int} {x : Snt} (h : kSn.At w (.agg #[.slice x0 n0 c0, .int .i64 u]) x) : kN.At w (.agg #[.slice x0 n0 c0]) x.1 := by
  obtain ⟨a0, b0, d0, e, h0⟩ := kSn_at h
  simp only [Value.agg.injEq, Array.mk.injEq, List.cons.injEq, Value.slice.injEq, Value.int.injEq, and_true, true_and] at e
  obtain ⟨⟨rfl, rfl, rfl⟩, rfl⟩ := e
  exact h0
theorem noRow_kRq (e : TypeId) : kRq.NoRow e := Kd.noRow_scalar.pair (Kd.noRow_scalar.pair Kd.noRow_scalar)
theorem noRow_kNe (e : TypeId) (h1 : 9 ≠ e) : kN.NoRow e := (Kd.NoRow.slice (e' := 9) Kd.noRow_scalar h1).wrap
theorem noRow_kLRq (e : TypeId) (h1 : 91 ≠ e) : kLRq.NoRow e := Kd.NoRow.slice (e' := 91) (noRow_kRq e) h1
theorem noRow_kPi : kPi.NoRow 101 := (noRow_kNe _ (by decide)).pair ((noRow_kLRq _ (by decide)).pair Kd.noRow_scalar)
theorem noRow_kSn : kSn.NoRow 38 := (noRow_kNe _ (by decide)).pair Kd.noRow_scalar
theorem kN_lenP {w : World} {x : Option Addr} {n c : Nat} {l : List ByteArray} (h : kN.At w (.agg #[.slice x n c]) l) : l.length = n := by
  obtain ⟨v, e, h9⟩ := kN_at h
  cases e
  obtain ⟨x', n', c', e, hn, -, -⟩ := h9.shapeN
  cases e
  exact hn.symm
theorem wtPi_lens {x : Pit} {n : Nat} (h : wtPi x ≤ n) : bulk x.1 ≤ n ∧ x.2.1.length ≤ n := by
  have h1 := bulkK_Rq x.2.1
  unfold wtPi at h
  omega
theorem sInP {n a b : Int} (z : Bool) (hz : Num.inB n a b = z) {w : World} : Calls Try.prog 76 #[.int .i64 n, .int .i64 a, .int .i64 b] w fun e w' => e = .returned (.bool z) ∧ Below w.heap.size w w' := (Num.specIn n a b w).mono fun e w' ⟨p, q⟩ => ⟨by rw [p, hz], by subst q; exact Below.refl _ _⟩
theorem iInP {n a b : Int} (z : Bool) (hz : Num.inB n a b = z) {w : World} : Calls Try.prog 94 #[.int .i64 n, .int .i64 a, .int .i64 b] w fun e w' => e = .returned (.bool z) ∧ Below w.heap.size w w' := (Num.implInRange n a b w).mono fun e w' ⟨p, q⟩ => ⟨by rw [p, hz], by subst q; exact Below.refl _ _⟩
theorem kLPi_take {w : World} {x : Option Addr} {n cap k : Nat} {l : List Pit} (h : kLPi.At w (.slice x n cap) l) (hk : k ≤ l.length) : kLPi.At w (.slice x k cap) (l.take k) := by
  obtain ⟨ad, n', cap', L, e, hn, rfl, hh, hel⟩ := kLPi_at h
  cases e
  rw [List.length_map] at hk
  exact ⟨⟨x, k, cap, L.take k⟩, rfl, by show (L.take k).map kPi.strip = _; rw [List.map_take], hh.take szPi_cells hk, fun y hy => hel y (List.mem_of_mem_take hy)⟩
def FitP (l : List Pit) : Prop := bulkK wtPi l ≤ 1100000
theorem FitP.len {l : List Pit} (h : FitP l) : l.length ≤ 1100000 := Nat.le_trans (bulkK_len wtPi l) h
theorem FitP.len9 {l : List Pit} (h : FitP l) : l.length ≤ 9000000 := Nat.le_trans h.len (by decide)
theorem FitP.each {l : List Pit} (h : FitP l) : ∀ e ∈ l, wtPi e ≤ 1200000 := fun e he => Nat.le_trans (bulkK_mem he) (Nat.le_trans h (by decide))
def FitS (l : List Snt) : Prop := bulkK wtSn l ≤ 1100000
theorem FitS.len {l : List Snt} (h : FitS l) : l.length ≤ 1100000 := Nat.le_trans (bulkK_len wtSn l) h
theorem FitS.len9 {l : List Snt} (h : FitS l) : l.length ≤ 9000000 := Nat.le_trans h.len (by decide)
theorem FitS.each {l : List Snt} (h : FitS l) : ∀ e ∈ l, bulk e.1 ≤ 1200000 := fun e he => Nat.le_trans (bulkK_mem (f := wtSn) he) (Nat.le_trans h (by decide))
end Go.Proofs.Ytjphnlkdbhcblaa.Row
/- The model: l13Askers. No conditions but that lengths fit. -/
namespace Go.Proofs.Ytjphnlkdbhcblaa.Row
open Go.ChangeShapes Go.WideShapes Go.ChangeAt Go.RowKit Go.Instr
set_option linter.unusedVariables false
set_option maxRecDepth 100000
set_option maxRecDepth 100000 in
set_option maxHeartbeats 4000000 in
theorem ras0 {Q : Exit → Act → World → Prop} {v1 v2 v4 v5 v6 v7 v8 v9 v10 v11 v12 v13 v14 v15 v16 v17 v18 v19 v20 v21 v22 v23 v24 v25 v26 v27 v28 v29 v30 v31 v32 v33 v34 v35 v36 v37 v38 v39 v40 v41 v42 v43 v44 v45 v46 : Value} {w : World} {b off n c k : Nat} {f : Int} (hk : k < n) (hkc : k ≤ c) (hn : n ≤ 9000000) (HF : Hid (Num.inB f 0 6 = false)) (K0 : Hid (w.cell? ⟨b, off + k * 3, none⟩ = some (.int .i64 f)))
  (hQ : ∀ (u10 u11 u12 u13 u14 u15 u16 u17 u18 u19 u20 u21 u22 u23 u24 u25 u26 u27 u28 u29 u30 u31 u32 u33 u34 u35 u36 u37 u38 u39 u40 u41 u42 : Value)  (wx : World), Below w.heap.size w wx → Q .normal ⟨#[.slice (some ⟨b, off, none⟩) n c, v1, v2, .int .i64 k, v4, v5, v6, v7, v8, v9, u10, u11, u12, u13, u14, u15, u16, u17, u18, u19, u20, u21, u22, u23, u24, u25, u26, u27, u28, u29, u30, u31, u32, u33, u34, u35, u36, u37, u38, u39, u40, u41, u42, .bool true, v44, v45, v46], []⟩ wx) :
  (Code.region 4 #[⟨some 10, .move (.tmp 0), 68, "l13_pend.go:16", #[], none⟩,
   ⟨some 11, .move (.tmp 3), 3, "l13_pend.go:16", #[], none⟩,
   ⟨some 12, .indexAddr 68 (.tmp 10) (.tmp 11), 0, "l13_pend.go:16", #[⟨0, .data⟩, ⟨1, .data⟩], none⟩,
   ⟨some 13, .fieldAddr 91 (.tmp 12) 0, 0, "l13_pend.go:16", #[⟨2, .data⟩], none⟩,
   ⟨some 14, .load 3 (.tmp 13), 3, "l13_pend.go:16", #[⟨3, .data⟩], none⟩,
   ⟨some 15, .call ⟨.value (.func 76), #[.tmp 14, .const (Value.int IntKind.i64 0), .const (Value.int IntKind.i64 6)], #[3, 3, 3]⟩, 4, "l13_pend.go:16", #[⟨4, .data⟩], none⟩,
   ⟨some 16, .unOp UnOp.not 4 (.tmp 15), 4, "l13_pend.go:16", #[⟨5, .data⟩], none⟩,
   ⟨some 17, .move (.tmp 16), 4, "l13_pend.go:16", #[⟨6, .data⟩, ⟨5, .chain⟩], none⟩,
   ⟨some 18, .move (.tmp 0), 68, "l13_pend.go:16", #[⟨7, .guard⟩], some (7, false)⟩,
   ⟨some 19, .move (.tmp 3), 3, "l13_pend.go:16", #[⟨7, .guard⟩], some (7, false)⟩,
   ⟨some 20, .indexAddr 68 (.tmp 18) (.tmp 19), 0, "l13_pend.go:16", #[⟨8, .data⟩, ⟨9, .data⟩, ⟨7, .guard⟩], some (7, false)⟩,
   ⟨some 21, .fieldAddr 91 (.tmp 20) 1, 0, "l13_pend.go:16", #[⟨10, .data⟩, ⟨7, .guard⟩], some (7, false)⟩,
   ⟨some 22, .load 3 (.tmp 21), 3, "l13_pend.go:16", #[⟨11, .data⟩, ⟨7, .guard⟩], some (7, false)⟩,
   ⟨some 23, .call ⟨.value (.func 76), #[.tmp 22, .const (Value.int IntKind.i64 0), .const (Value.int IntKind.i64 1000000)], #[3, 3, 3]⟩, 4, "l13_pend.go:16", #[⟨12, .data⟩, ⟨7, .chain⟩, ⟨7, .guard⟩], some (7, false)⟩,
   ⟨some 24, .unOp UnOp.not 4 (.tmp 23), 4, "l13_pend.go:16", #[⟨13, .data⟩, ⟨7, .guard⟩], some (7, false)⟩,
   ⟨some 25, .pick (.tmp 17) (.const (Value.bool true)) (.tmp 24), 4, "l13_pend.go:16", #[⟨7, .data⟩, ⟨14, .data⟩], none⟩,
   ⟨some 26, .move (.tmp 25), 4, "l13_pend.go:16", #[⟨15, .data⟩, ⟨13, .chain⟩], none⟩,
   ⟨some 27, .move (.tmp 3), 3, "l13_pend.go:16", #[⟨16, .guard⟩], some (16, false)⟩,
   ⟨some 28, .binOp BinOp.gtr 3 (.tmp 27) (.const (Value.int IntKind.i64 0)) 3, 4, "l13_pend.go:16", #[⟨17, .data⟩, ⟨16, .guard⟩], some (16, false)⟩,
   ⟨some 29, .move (.tmp 28), 4, "l13_pend.go:16", #[⟨18, .data⟩, ⟨16, .chain⟩, ⟨16, .guard⟩], some (16, false)⟩,
   ⟨some 30, .move (.tmp 0), 68, "l13_pend.go:16", #[⟨19, .guard⟩], some (19, true)⟩,
   ⟨some 31, .move (.tmp 3), 3, "l13_pend.go:16", #[⟨19, .guard⟩], some (19, true)⟩,
   ⟨some 32, .binOp BinOp.sub 3 (.tmp 31) (.const (Value.int IntKind.i64 1)) 3, 3, "l13_pend.go:16", #[⟨21, .data⟩, ⟨19, .guard⟩], some (19, true)⟩,
   ⟨some 33, .indexAddr 68 (.tmp 30) (.tmp 32), 0, "l13_pend.go:16", #[⟨20, .data⟩, ⟨22, .data⟩, ⟨19, .guard⟩], some (19, true)⟩,
   ⟨some 34, .fieldAddr 91 (.tmp 33) 0, 0, "l13_pend.go:16", #[⟨23, .data⟩, ⟨19, .guard⟩], some (19, true)⟩,
   ⟨some 35, .load 3 (.tmp 34), 3, "l13_pend.go:16", #[⟨24, .data⟩, ⟨19, .guard⟩], some (19, true)⟩,
   ⟨some 36, .move (.tmp 0), 68, "l13_pend.go:16", #[⟨19, .guard⟩], some (19, true)⟩,
   ⟨some 37, .move (.tmp 3), 3, "l13_pend.go:16", #[⟨19, .guard⟩], some (19, true)⟩,
   ⟨some 38, .indexAddr 68 (.tmp 36) (.tmp 37), 0, "l13_pend.go:16", #[⟨26, .data⟩, ⟨27, .data⟩, ⟨19, .guard⟩], some (19, true)⟩,
   ⟨some 39, .fieldAddr 91 (.tmp 38) 0, 0, "l13_pend.go:16", #[⟨28, .data⟩, ⟨19, .guard⟩], some (19, true)⟩,
   ⟨some 40, .load 3 (.tmp 39), 3, "l13_pend.go:16", #[⟨29, .data⟩, ⟨19, .guard⟩], some (19, true)⟩,
   ⟨some 41, .binOp BinOp.geq 3 (.tmp 35) (.tmp 40) 3, 4, "l13_pend.go:16", #[⟨25, .data⟩, ⟨30, .data⟩, ⟨19, .guard⟩], some (19, true)⟩,
   ⟨some 42, .pick (.tmp 29) (.tmp 41) (.const (Value.bool false)), 4, "l13_pend.go:16", #[⟨19, .data⟩, ⟨31, .data⟩, ⟨16, .guard⟩], some (16, false)⟩,
   ⟨some 43, .pick (.tmp 26) (.const (Value.bool true)) (.tmp 42), 4, "l13_pend.go:16", #[⟨16, .data⟩, ⟨32, .data⟩], none⟩] true).wp Try.prog Q ⟨#[.slice (some ⟨b, off, none⟩) n c, v1, v2, .int .i64 k, v4, v5, v6, v7, v8, v9, v10, v11, v12, v13, v14, v15, v16, v17, v18, v19, v20, v21, v22, v23, v24, v25, v26, v27, v28, v29, v30, v31, v32, v33, v34, v35, v36, v37, v38, v39, v40, v41, v42, v43, v44, v45, v46], []⟩ w := by
 have HQ := Lib.hid hQ; clear hQ
 have hdr : Below w.heap.size w w.drew := (Below.refl _ _).drew
 have BB := Lib.hid hdr
 refine wp_region_noPanic ?_
 refine wp_region_held_drew (S := (fun w' => w'.cell? ⟨b, off + k * 3, none⟩ = some (.int .i64 f))) (by kernel_rfl) ?_ (fun hHeld => ?_)
 ·
  exact kc K0.out BB.out
 clear hdr
 generalize w.drew = wd at *
 refine wpAnyH_take (i := 0) (oi := ⟨some 10, .move (.tmp 0), 68, "l13_pend.go:16", #[], none⟩) (v := ?_) rfl (by kernel_rfl) (by kernel_rfl) (by kernel_rfl) (fun _ _ _ h => h) (Or.inl ⟨by rfl, ?_⟩) (by assumption) ?_
 rotate_left
 ·
  intro w' hSw; (try dsimp only at hSw); first | (go_simp; done) | (go_simp; with_reducible rfl)
 (try simp only [Act.put, Row.pB0, Row.pB1, Row.pB2])
 refine wpAnyH_take (i := 1) (oi := ⟨some 11, .move (.tmp 3), 3, "l13_pend.go:16", #[], none⟩) (v := ?_) rfl (by kernel_rfl) (by kernel_rfl) (by kernel_rfl) (fun _ _ _ h => h) (Or.inl ⟨by rfl, ?_⟩) (by assumption) ?_
 rotate_left
 ·
  intro w' hSw; (try dsimp only at hSw); first | (go_simp; done) | (go_simp; with_reducible rfl)
 (try simp only [Act.put, Row.pB0, Row.pB1, Row.pB2])
 refine wpAnyH_take (i := 2) (oi := ⟨some 12, .indexAddr 68 (.tmp 10) (.tmp 11), 0, "l13_pend.go:16", #[⟨0, .data⟩, ⟨1, .data⟩], none⟩) (v := ?_) rfl (by kernel_rfl) (by kernel_rfl) (by kernel_rfl) (fun _ _ _ h => h) (Or.inl ⟨by rfl, ?_⟩) (by assumption) ?_
 rotate_left
 ·
  intro w' hSw; (try dsimp only at hSw); first | (go_simp; done) | (go_simp; with_reducible rfl)
 (try simp only [Act.put, Row.pB0, Row.pB1, Row.pB2])
 refine wpAnyH_take (i := 3) (oi := ⟨some 13, .fieldAddr 91 (.tmp 12) 0, 0, "l13_pend.go:16", #[⟨2, .data⟩], none⟩) (v := ?_) rfl (by kernel_rfl) (by kernel_rfl) (by kernel_rfl) (fun _ _ _ h => h) (Or.inl ⟨by rfl, ?_⟩) (by assumption) ?_
 rotate_left
 ·
  intro w' hSw; (try dsimp only at hSw); first | (go_simp; done) | (go_simp; with_reducible rfl)
 (try simp only [Act.put, Row.pB0, Row.pB1, Row.pB2])
 refine wpAnyH_take (i := 4) (oi := ⟨some 14, .load 3 (.tmp 13), 3, "l13_pend.go:16", #[⟨3, .data⟩], none⟩) (v := ?_) rfl (by kernel_rfl) (by kernel_rfl) (by kernel_rfl) (fun _ _ _ h => h) (Or.inl ⟨by rfl, ?_⟩) (by assumption) ?_
 rotate_left
 ·
  intro w' hSw; (try dsimp only at hSw); first | (go_simp; done) | (go_simp; with_reducible rfl)
 (try simp only [Act.put, Row.pB0, Row.pB1, Row.pB2])
 refine wpAnyH_ready (rs := [5]) (by kernel_rfl) (by simp) ?_
 refine AllReadyH.cons (o := ⟨some 15, .call ⟨.value (.func 76), #[.tmp 14, .const (Value.int IntKind.i64 0), .const (Value.int IntKind.i64 6)], #[3, 3, 3]⟩, 4, "l13_pend.go:16", #[⟨4, .data⟩], none⟩) rfl (fun K hK => ?_) AllReadyH.nil
 go_simp
 refine (sInP false HF.out).mono ?_
 rintro e wn1 ⟨rfl, hb⟩
 replace BB := Lib.hid (BB.out.trans (hb.mono BB.out.size))
 clear hb
 (try go_wp2_with fail)
 clear hHeld
 refine hK.out _ _ ?_ (fun hHeld => ?_)
 ·
  (try dsimp only); exact kc K0.out BB.out
 clear hK K
 (try simp only [Act.put, Row.pB0, Row.pB1, Row.pB2])
 refine wpAnyH_take (i := 6) (oi := ⟨some 16, .unOp UnOp.not 4 (.tmp 15), 4, "l13_pend.go:16", #[⟨5, .data⟩], none⟩) (v := ?_) rfl (by kernel_rfl) (by kernel_rfl) (by kernel_rfl) (fun _ _ _ h => h) (Or.inl ⟨by rfl, ?_⟩) (by assumption) ?_
 rotate_left
 ·
  intro w' hSw; (try dsimp only at hSw); first | (go_simp; done) | (go_simp; with_reducible rfl)
 (try simp only [Act.put, Row.pB0, Row.pB1, Row.pB2])
 refine wpAnyH_take (i := 7) (oi := ⟨some 17, .move (.tmp 16), 4, "l13_pend.go:16", #[⟨6, .data⟩, ⟨5, .chain⟩], none⟩) (v := ?_) rfl (by kernel_rfl) (by kernel_rfl) (by kernel_rfl) (fun _ _ _ h => h) (Or.inl ⟨by rfl, ?_⟩) (by assumption) ?_
 rotate_left
 ·
  intro w' hSw; (try dsimp only at hSw); first | (go_simp; done) | (go_simp; with_reducible rfl)
 (try simp only [Act.put, Row.pB0, Row.pB1, Row.pB2])
 refine wpAnyH_take (i := 8) (oi := ⟨some 18, .move (.tmp 0), 68, "l13_pend.go:16", #[⟨7, .guard⟩], some (7, false)⟩) (v := undef) rfl (by kernel_rfl) (by kernel_rfl) (by kernel_rfl) (fun _ _ _ h => h) (Or.inr ⟨by rfl, rfl⟩) (by assumption) ?_
 (try simp only [Act.put, Row.pB0, Row.pB1, Row.pB2])
 refine wpAnyH_take (i := 9) (oi := ⟨some 19, .move (.tmp 3), 3, "l13_pend.go:16", #[⟨7, .guard⟩], some (7, false)⟩) (v := undef) rfl (by kernel_rfl) (by kernel_rfl) (by kernel_rfl) (fun _ _ _ h => h) (Or.inr ⟨by rfl, rfl⟩) (by assumption) ?_
 (try simp only [Act.put, Row.pB0, Row.pB1, Row.pB2])
 refine wpAnyH_take (i := 10) (oi := ⟨some 20, .indexAddr 68 (.tmp 18) (.tmp 19), 0, "l13_pend.go:16", #[⟨8, .data⟩, ⟨9, .data⟩, ⟨7, .guard⟩], some (7, false)⟩) (v := undef) rfl (by kernel_rfl) (by kernel_rfl) (by kernel_rfl) (fun _ _ _ h => h) (Or.inr ⟨by rfl, rfl⟩) (by assumption) ?_
 (try simp only [Act.put, Row.pB0, Row.pB1, Row.pB2])
 refine wpAnyH_take (i := 11) (oi := ⟨some 21, .fieldAddr 91 (.tmp 20) 1, 0, "l13_pend.go:16", #[⟨10, .data⟩, ⟨7, .guard⟩], some (7, false)⟩) (v := undef) rfl (by kernel_rfl) (by kernel_rfl) (by kernel_rfl) (fun _ _ _ h => h) (Or.inr ⟨by rfl, rfl⟩) (by assumption) ?_
 (try simp only [Act.put, Row.pB0, Row.pB1, Row.pB2])
 refine wpAnyH_take (i := 12) (oi := ⟨some 22, .load 3 (.tmp 21), 3, "l13_pend.go:16", #[⟨11, .data⟩, ⟨7, .guard⟩], some (7, false)⟩) (v := undef) rfl (by kernel_rfl) (by kernel_rfl) (by kernel_rfl) (fun _ _ _ h => h) (Or.inr ⟨by rfl, rfl⟩) (by assumption) ?_
 (try simp only [Act.put, Row.pB0, Row.pB1, Row.pB2])
 refine wpAnyH_take (i := 13) (oi := ⟨some 23, .call ⟨.value (.func 76), #[.tmp 22, .const (Value.int IntKind.i64 0), .const (Value.int IntKind.i64 1000000)], #[3, 3, 3]⟩, 4, "l13_pend.go:16", #[⟨12, .data⟩, ⟨7, .chain⟩, ⟨7, .guard⟩], some (7, false)⟩) (v := undef) rfl (by kernel_rfl) (by kernel_rfl) (by kernel_rfl) (fun _ _ _ h => h) (Or.inr ⟨by rfl, rfl⟩) (by assumption) ?_
 (try simp only [Act.put, Row.pB0, Row.pB1, Row.pB2])
 refine wpAnyH_take (i := 14) (oi := ⟨some 24, .unOp UnOp.not 4 (.tmp 23), 4, "l13_pend.go:16", #[⟨13, .data⟩, ⟨7, .guard⟩], some (7, false)⟩) (v := undef) rfl (by kernel_rfl) (by kernel_rfl) (by kernel_rfl) (fun _ _ _ h => h) (Or.inr ⟨by rfl, rfl⟩) (by assumption) ?_
 (try simp only [Act.put, Row.pB0, Row.pB1, Row.pB2])
 refine wpAnyH_take (i := 15) (oi := ⟨some 25, .pick (.tmp 17) (.const (Value.bool true)) (.tmp 24), 4, "l13_pend.go:16", #[⟨7, .data⟩, ⟨14, .data⟩], none⟩) (v := ?_) rfl (by kernel_rfl) (by kernel_rfl) (by kernel_rfl) (fun _ _ _ h => h) (Or.inl ⟨by rfl, ?_⟩) (by assumption) ?_
 rotate_left
 ·
  intro w' hSw; (try dsimp only at hSw); first | (go_simp; done) | (go_simp; with_reducible rfl)
 (try simp only [Act.put, Row.pB0, Row.pB1, Row.pB2])
 refine wpAnyH_take (i := 16) (oi := ⟨some 26, .move (.tmp 25), 4, "l13_pend.go:16", #[⟨15, .data⟩, ⟨13, .chain⟩], none⟩) (v := ?_) rfl (by kernel_rfl) (by kernel_rfl) (by kernel_rfl) (fun _ _ _ h => h) (Or.inl ⟨by rfl, ?_⟩) (by assumption) ?_
 rotate_left
 ·
  intro w' hSw; (try dsimp only at hSw); first | (go_simp; done) | (go_simp; with_reducible rfl)
 (try simp only [Act.put, Row.pB0, Row.pB1, Row.pB2])
 refine wpAnyH_take (i := 17) (oi := ⟨some 27, .move (.tmp 3), 3, "l13_pend.go:16", #[⟨16, .guard⟩], some (16, false)⟩) (v := undef) rfl (by kernel_rfl) (by kernel_rfl) (by kernel_rfl) (fun _ _ _ h => h) (Or.inr ⟨by rfl, rfl⟩) (by assumption) ?_
 (try simp only [Act.put, Row.pB0, Row.pB1, Row.pB2])
 refine wpAnyH_take (i := 18) (oi := ⟨some 28, .binOp BinOp.gtr 3 (.tmp 27) (.const (Value.int IntKind.i64 0)) 3, 4, "l13_pend.go:16", #[⟨17, .data⟩, ⟨16, .guard⟩], some (16, false)⟩) (v := undef) rfl (by kernel_rfl) (by kernel_rfl) (by kernel_rfl) (fun _ _ _ h => h) (Or.inr ⟨by rfl, rfl⟩) (by assumption) ?_
 (try simp only [Act.put, Row.pB0, Row.pB1, Row.pB2])
 refine wpAnyH_take (i := 19) (oi := ⟨some 29, .move (.tmp 28), 4, "l13_pend.go:16", #[⟨18, .data⟩, ⟨16, .chain⟩, ⟨16, .guard⟩], some (16, false)⟩) (v := undef) rfl (by kernel_rfl) (by kernel_rfl) (by kernel_rfl) (fun _ _ _ h => h) (Or.inr ⟨by rfl, rfl⟩) (by assumption) ?_
 (try simp only [Act.put, Row.pB0, Row.pB1, Row.pB2])
 refine wpAnyH_take (i := 20) (oi := ⟨some 30, .move (.tmp 0), 68, "l13_pend.go:16", #[⟨19, .guard⟩], some (19, true)⟩) (v := undef) rfl (by kernel_rfl) (by kernel_rfl) (by kernel_rfl) (fun _ _ _ h => h) (Or.inr ⟨by rfl, rfl⟩) (by assumption) ?_
 (try simp only [Act.put, Row.pB0, Row.pB1, Row.pB2])
 refine wpAnyH_take (i := 21) (oi := ⟨some 31, .move (.tmp 3), 3, "l13_pend.go:16", #[⟨19, .guard⟩], some (19, true)⟩) (v := undef) rfl (by kernel_rfl) (by kernel_rfl) (by kernel_rfl) (fun _ _ _ h => h) (Or.inr ⟨by rfl, rfl⟩) (by assumption) ?_
 (try simp only [Act.put, Row.pB0, Row.pB1, Row.pB2])
 refine wpAnyH_take (i := 22) (oi := ⟨some 32, .binOp BinOp.sub 3 (.tmp 31) (.const (Value.int IntKind.i64 1)) 3, 3, "l13_pend.go:16", #[⟨21, .data⟩, ⟨19, .guard⟩], some (19, true)⟩) (v := undef) rfl (by kernel_rfl) (by kernel_rfl) (by kernel_rfl) (fun _ _ _ h => h) (Or.inr ⟨by rfl, rfl⟩) (by assumption) ?_
 (try simp only [Act.put, Row.pB0, Row.pB1, Row.pB2])
 refine wpAnyH_take (i := 23) (oi := ⟨some 33, .indexAddr 68 (.tmp 30) (.tmp 32), 0, "l13_pend.go:16", #[⟨20, .data⟩, ⟨22, .data⟩, ⟨19, .guard⟩], some (19, true)⟩) (v := undef) rfl (by kernel_rfl) (by kernel_rfl) (by kernel_rfl) (fun _ _ _ h => h) (Or.inr ⟨by rfl, rfl⟩) (by assumption) ?_
 (try simp only [Act.put, Row.pB0, Row.pB1, Row.pB2])
 refine wpAnyH_take (i := 24) (oi := ⟨some 34, .fieldAddr 91 (.tmp 33) 0, 0, "l13_pend.go:16", #[⟨23, .data⟩, ⟨19, .guard⟩], some (19, true)⟩) (v := undef) rfl (by kernel_rfl) (by kernel_rfl) (by kernel_rfl) (fun _ _ _ h => h) (Or.inr ⟨by rfl, rfl⟩) (by assumption) ?_
 (try simp only [Act.put, Row.pB0, Row.pB1, Row.pB2])
 refine wpAnyH_take (i := 25) (oi := ⟨some 35, .load 3 (.tmp 34), 3, "l13_pend.go:16", #[⟨24, .data⟩, ⟨19, .guard⟩], some (19, true)⟩) (v := undef) rfl (by kernel_rfl) (by kernel_rfl) (by kernel_rfl) (fun _ _ _ h => h) (Or.inr ⟨by rfl, rfl⟩) (by assumption) ?_
 (try simp only [Act.put, Row.pB0, Row.pB1, Row.pB2])
 refine wpAnyH_take (i := 26) (oi := ⟨some 36, .move (.tmp 0), 68, "l13_pend.go:16", #[⟨19, .guard⟩], some (19, true)⟩) (v := undef) rfl (by kernel_rfl) (by kernel_rfl) (by kernel_rfl) (fun _ _ _ h => h) (Or.inr ⟨by rfl, rfl⟩) (by assumption) ?_
 (try simp only [Act.put, Row.pB0, Row.pB1, Row.pB2])
 refine wpAnyH_take (i := 27) (oi := ⟨some 37, .move (.tmp 3), 3, "l13_pend.go:16", #[⟨19, .guard⟩], some (19, true)⟩) (v := undef) rfl (by kernel_rfl) (by kernel_rfl) (by kernel_rfl) (fun _ _ _ h => h) (Or.inr ⟨by rfl, rfl⟩) (by assumption) ?_
 (try simp only [Act.put, Row.pB0, Row.pB1, Row.pB2])
 refine wpAnyH_take (i := 28) (oi := ⟨some 38, .indexAddr 68 (.tmp 36) (.tmp 37), 0, "l13_pend.go:16", #[⟨26, .data⟩, ⟨27, .data⟩, ⟨19, .guard⟩], some (19, true)⟩) (v := undef) rfl (by kernel_rfl) (by kernel_rfl) (by kernel_rfl) (fun _ _ _ h => h) (Or.inr ⟨by rfl, rfl⟩) (by assumption) ?_
 (try simp only [Act.put, Row.pB0, Row.pB1, Row.pB2])
 refine wpAnyH_take (i := 29) (oi := ⟨some 39, .fieldAddr 91 (.tmp 38) 0, 0, "l13_pend.go:16", #[⟨28, .data⟩, ⟨19, .guard⟩], some (19, true)⟩) (v := undef) rfl (by kernel_rfl) (by kernel_rfl) (by kernel_rfl) (fun _ _ _ h => h) (Or.inr ⟨by rfl, rfl⟩) (by assumption) ?_
 (try simp only [Act.put, Row.pB0, Row.pB1, Row.pB2])
 refine wpAnyH_take (i := 30) (oi := ⟨some 40, .load 3 (.tmp 39), 3, "l13_pend.go:16", #[⟨29, .data⟩, ⟨19, .guard⟩], some (19, true)⟩) (v := undef) rfl (by kernel_rfl) (by kernel_rfl) (by kernel_rfl) (fun _ _ _ h => h) (Or.inr ⟨by rfl, rfl⟩) (by assumption) ?_
 (try simp only [Act.put, Row.pB0, Row.pB1, Row.pB2])
 refine wpAnyH_take (i := 31) (oi := ⟨some 41, .binOp BinOp.geq 3 (.tmp 35) (.tmp 40) 3, 4, "l13_pend.go:16", #[⟨25, .data⟩, ⟨30, .data⟩, ⟨19, .guard⟩], some (19, true)⟩) (v := undef) rfl (by kernel_rfl) (by kernel_rfl) (by kernel_rfl) (fun _ _ _ h => h) (Or.inr ⟨by rfl, rfl⟩) (by assumption) ?_
 (try simp only [Act.put, Row.pB0, Row.pB1, Row.pB2])
 refine wpAnyH_take (i := 32) (oi := ⟨some 42, .pick (.tmp 29) (.tmp 41) (.const (Value.bool false)), 4, "l13_pend.go:16", #[⟨19, .data⟩, ⟨31, .data⟩, ⟨16, .guard⟩], some (16, false)⟩) (v := undef) rfl (by kernel_rfl) (by kernel_rfl) (by kernel_rfl) (fun _ _ _ h => h) (Or.inr ⟨by rfl, rfl⟩) (by assumption) ?_
 (try simp only [Act.put, Row.pB0, Row.pB1, Row.pB2])
 refine wpAnyH_take (i := 33) (oi := ⟨some 43, .pick (.tmp 26) (.const (Value.bool true)) (.tmp 42), 4, "l13_pend.go:16", #[⟨16, .data⟩, ⟨32, .data⟩], none⟩) (v := ?_) rfl (by kernel_rfl) (by kernel_rfl) (by kernel_rfl) (fun _ _ _ h => h) (Or.inl ⟨by rfl, ?_⟩) (by assumption) ?_
 rotate_left
 ·
  intro w' hSw; (try dsimp only at hSw); first | (go_simp; done) | (go_simp; with_reducible rfl)
 (try simp only [Act.put, Row.pB0, Row.pB1, Row.pB2])
 refine wpAnyH_done (by kernel_rfl) ?_ _
 exact NoPanic.normal (HQ.out _ _ _ _ _ _ _ _ _ _ _ _ _ _ _ _ _ _ _ _ _ _ _ _ _ _ _ _ _ _ _ _ _  _  BB.out)
set_option maxRecDepth 100000 in
set_option maxHeartbeats 4000000 in
theorem ras1 {Q : Exit → Act → World → Prop} {v1 v2 v4 v5 v6 v7 v8 v9 v10 v11 v12 v13 v14 v15 v16 v17 v18 v19 v20 v21 v22 v23 v24 v25 v26 v27 v28 v29 v30 v31 v32 v33 v34 v35 v36 v37 v38 v39 v40 v41 v42 v43 v44 v45 v46 : Value} {w : World} {b off n c k : Nat} {f u : Int} (hk : k < n) (hkc : k ≤ c) (hn : n ≤ 9000000) (HF : Hid (Num.inB f 0 6 = true)) (HU : Hid (Num.inB u 0 1000000 = false)) (K0 : Hid (w.cell? ⟨b, off + k * 3, none⟩ = some (.int .i64 f))) (K1 : Hid (w.cell? ⟨b, off + k * 3 + 1, none⟩ = some (.int .i64 u)))
  (hQ : ∀ (u10 u11 u12 u13 u14 u15 u16 u17 u18 u19 u20 u21 u22 u23 u24 u25 u26 u27 u28 u29 u30 u31 u32 u33 u34 u35 u36 u37 u38 u39 u40 u41 u42 : Value)  (wx : World), Below w.heap.size w wx → Q .normal ⟨#[.slice (some ⟨b, off, none⟩) n c, v1, v2, .int .i64 k, v4, v5, v6, v7, v8, v9, u10, u11, u12, u13, u14, u15, u16, u17, u18, u19, u20, u21, u22, u23, u24, u25, u26, u27, u28, u29, u30, u31, u32, u33, u34, u35, u36, u37, u38, u39, u40, u41, u42, .bool true, v44, v45, v46], []⟩ wx) :
  (Code.region 4 #[⟨some 10, .move (.tmp 0), 68, "l13_pend.go:16", #[], none⟩,
   ⟨some 11, .move (.tmp 3), 3, "l13_pend.go:16", #[], none⟩,
   ⟨some 12, .indexAddr 68 (.tmp 10) (.tmp 11), 0, "l13_pend.go:16", #[⟨0, .data⟩, ⟨1, .data⟩], none⟩,
   ⟨some 13, .fieldAddr 91 (.tmp 12) 0, 0, "l13_pend.go:16", #[⟨2, .data⟩], none⟩,
   ⟨some 14, .load 3 (.tmp 13), 3, "l13_pend.go:16", #[⟨3, .data⟩], none⟩,
   ⟨some 15, .call ⟨.value (.func 76), #[.tmp 14, .const (Value.int IntKind.i64 0), .const (Value.int IntKind.i64 6)], #[3, 3, 3]⟩, 4, "l13_pend.go:16", #[⟨4, .data⟩], none⟩,
   ⟨some 16, .unOp UnOp.not 4 (.tmp 15), 4, "l13_pend.go:16", #[⟨5, .data⟩], none⟩,
   ⟨some 17, .move (.tmp 16), 4, "l13_pend.go:16", #[⟨6, .data⟩, ⟨5, .chain⟩], none⟩,
   ⟨some 18, .move (.tmp 0), 68, "l13_pend.go:16", #[⟨7, .guard⟩], some (7, false)⟩,
   ⟨some 19, .move (.tmp 3), 3, "l13_pend.go:16", #[⟨7, .guard⟩], some (7, false)⟩,
   ⟨some 20, .indexAddr 68 (.tmp 18) (.tmp 19), 0, "l13_pend.go:16", #[⟨8, .data⟩, ⟨9, .data⟩, ⟨7, .guard⟩], some (7, false)⟩,
   ⟨some 21, .fieldAddr 91 (.tmp 20) 1, 0, "l13_pend.go:16", #[⟨10, .data⟩, ⟨7, .guard⟩], some (7, false)⟩,
   ⟨some 22, .load 3 (.tmp 21), 3, "l13_pend.go:16", #[⟨11, .data⟩, ⟨7, .guard⟩], some (7, false)⟩,
   ⟨some 23, .call ⟨.value (.func 76), #[.tmp 22, .const (Value.int IntKind.i64 0), .const (Value.int IntKind.i64 1000000)], #[3, 3, 3]⟩, 4, "l13_pend.go:16", #[⟨12, .data⟩, ⟨7, .chain⟩, ⟨7, .guard⟩], some (7, false)⟩,
   ⟨some 24, .unOp UnOp.not 4 (.tmp 23), 4, "l13_pend.go:16", #[⟨13, .data⟩, ⟨7, .guard⟩], some (7, false)⟩,
   ⟨some 25, .pick (.tmp 17) (.const (Value.bool true)) (.tmp 24), 4, "l13_pend.go:16", #[⟨7, .data⟩, ⟨14, .data⟩], none⟩,
   ⟨some 26, .move (.tmp 25), 4, "l13_pend.go:16", #[⟨15, .data⟩, ⟨13, .chain⟩], none⟩,
   ⟨some 27, .move (.tmp 3), 3, "l13_pend.go:16", #[⟨16, .guard⟩], some (16, false)⟩,
   ⟨some 28, .binOp BinOp.gtr 3 (.tmp 27) (.const (Value.int IntKind.i64 0)) 3, 4, "l13_pend.go:16", #[⟨17, .data⟩, ⟨16, .guard⟩], some (16, false)⟩,
   ⟨some 29, .move (.tmp 28), 4, "l13_pend.go:16", #[⟨18, .data⟩, ⟨16, .chain⟩, ⟨16, .guard⟩], some (16, false)⟩,
   ⟨some 30, .move (.tmp 0), 68, "l13_pend.go:16", #[⟨19, .guard⟩], some (19, true)⟩,
   ⟨some 31, .move (.tmp 3), 3, "l13_pend.go:16", #[⟨19, .guard⟩], some (19, true)⟩,
   ⟨some 32, .binOp BinOp.sub 3 (.tmp 31) (.const (Value.int IntKind.i64 1)) 3, 3, "l13_pend.go:16", #[⟨21, .data⟩, ⟨19, .guard⟩], some (19, true)⟩,
   ⟨some 33, .indexAddr 68 (.tmp 30) (.tmp 32), 0, "l13_pend.go:16", #[⟨20, .data⟩, ⟨22, .data⟩, ⟨19, .guard⟩], some (19, true)⟩,
   ⟨some 34, .fieldAddr 91 (.tmp 33) 0, 0, "l13_pend.go:16", #[⟨23, .data⟩, ⟨19, .guard⟩], some (19, true)⟩,
   ⟨some 35, .load 3 (.tmp 34), 3, "l13_pend.go:16", #[⟨24, .data⟩, ⟨19, .guard⟩], some (19, true)⟩,
   ⟨some 36, .move (.tmp 0), 68, "l13_pend.go:16", #[⟨19, .guard⟩], some (19, true)⟩,
   ⟨some 37, .move (.tmp 3), 3, "l13_pend.go:16", #[⟨19, .guard⟩], some (19, true)⟩,
   ⟨some 38, .indexAddr 68 (.tmp 36) (.tmp 37), 0, "l13_pend.go:16", #[⟨26, .data⟩, ⟨27, .data⟩, ⟨19, .guard⟩], some (19, true)⟩,
   ⟨some 39, .fieldAddr 91 (.tmp 38) 0, 0, "l13_pend.go:16", #[⟨28, .data⟩, ⟨19, .guard⟩], some (19, true)⟩,
   ⟨some 40, .load 3 (.tmp 39), 3, "l13_pend.go:16", #[⟨29, .data⟩, ⟨19, .guard⟩], some (19, true)⟩,
   ⟨some 41, .binOp BinOp.geq 3 (.tmp 35) (.tmp 40) 3, 4, "l13_pend.go:16", #[⟨25, .data⟩, ⟨30, .data⟩, ⟨19, .guard⟩], some (19, true)⟩,
   ⟨some 42, .pick (.tmp 29) (.tmp 41) (.const (Value.bool false)), 4, "l13_pend.go:16", #[⟨19, .data⟩, ⟨31, .data⟩, ⟨16, .guard⟩], some (16, false)⟩,
   ⟨some 43, .pick (.tmp 26) (.const (Value.bool true)) (.tmp 42), 4, "l13_pend.go:16", #[⟨16, .data⟩, ⟨32, .data⟩], none⟩] true).wp Try.prog Q ⟨#[.slice (some ⟨b, off, none⟩) n c, v1, v2, .int .i64 k, v4, v5, v6, v7, v8, v9, v10, v11, v12, v13, v14, v15, v16, v17, v18, v19, v20, v21, v22, v23, v24, v25, v26, v27, v28, v29, v30, v31, v32, v33, v34, v35, v36, v37, v38, v39, v40, v41, v42, v43, v44, v45, v46], []⟩ w := by
 have HQ := Lib.hid hQ; clear hQ
 have hdr : Below w.heap.size w w.drew := (Below.refl _ _).drew
 have BB := Lib.hid hdr
 refine wp_region_noPanic ?_
 refine wp_region_held_drew (S := (fun w' => w'.cell? ⟨b, off + k * 3, none⟩ = some (.int .i64 f) ∧ w'.cell? ⟨b, off + k * 3 + 1, none⟩ = some (.int .i64 u))) (by kernel_rfl) ?_ (fun hHeld => ?_)
 ·
  exact ⟨kc K0.out BB.out, kc K1.out BB.out⟩
 clear hdr
 generalize w.drew = wd at *
 refine wpAnyH_take (i := 0) (oi := ⟨some 10, .move (.tmp 0), 68, "l13_pend.go:16", #[], none⟩) (v := ?_) rfl (by kernel_rfl) (by kernel_rfl) (by kernel_rfl) (fun _ _ _ h => h) (Or.inl ⟨by rfl, ?_⟩) (by assumption) ?_
 rotate_left
 ·
  intro w' hSw; (try dsimp only at hSw); first | (go_simp; done) | (go_simp; with_reducible rfl)
 (try simp only [Act.put, Row.pB0, Row.pB1, Row.pB2])
 refine wpAnyH_take (i := 1) (oi := ⟨some 11, .move (.tmp 3), 3, "l13_pend.go:16", #[], none⟩) (v := ?_) rfl (by kernel_rfl) (by kernel_rfl) (by kernel_rfl) (fun _ _ _ h => h) (Or.inl ⟨by rfl, ?_⟩) (by assumption) ?_
 rotate_left
 ·
  intro w' hSw; (try dsimp only at hSw); first | (go_simp; done) | (go_simp; with_reducible rfl)
 (try simp only [Act.put, Row.pB0, Row.pB1, Row.pB2])
 refine wpAnyH_take (i := 2) (oi := ⟨some 12, .indexAddr 68 (.tmp 10) (.tmp 11), 0, "l13_pend.go:16", #[⟨0, .data⟩, ⟨1, .data⟩], none⟩) (v := ?_) rfl (by kernel_rfl) (by kernel_rfl) (by kernel_rfl) (fun _ _ _ h => h) (Or.inl ⟨by rfl, ?_⟩) (by assumption) ?_
 rotate_left
 ·
  intro w' hSw; (try dsimp only at hSw); first | (go_simp; done) | (go_simp; with_reducible rfl)
 (try simp only [Act.put, Row.pB0, Row.pB1, Row.pB2])
 refine wpAnyH_take (i := 3) (oi := ⟨some 13, .fieldAddr 91 (.tmp 12) 0, 0, "l13_pend.go:16", #[⟨2, .data⟩], none⟩) (v := ?_) rfl (by kernel_rfl) (by kernel_rfl) (by kernel_rfl) (fun _ _ _ h => h) (Or.inl ⟨by rfl, ?_⟩) (by assumption) ?_
 rotate_left
 ·
  intro w' hSw; (try dsimp only at hSw); first | (go_simp; done) | (go_simp; with_reducible rfl)
 (try simp only [Act.put, Row.pB0, Row.pB1, Row.pB2])
 refine wpAnyH_take (i := 4) (oi := ⟨some 14, .load 3 (.tmp 13), 3, "l13_pend.go:16", #[⟨3, .data⟩], none⟩) (v := ?_) rfl (by kernel_rfl) (by kernel_rfl) (by kernel_rfl) (fun _ _ _ h => h) (Or.inl ⟨by rfl, ?_⟩) (by assumption) ?_
 rotate_left
 ·
  intro w' hSw; (try dsimp only at hSw); first | (go_simp; done) | (go_simp; with_reducible rfl)
 (try simp only [Act.put, Row.pB0, Row.pB1, Row.pB2])
 refine wpAnyH_ready (rs := [5]) (by kernel_rfl) (by simp) ?_
 refine AllReadyH.cons (o := ⟨some 15, .call ⟨.value (.func 76), #[.tmp 14, .const (Value.int IntKind.i64 0), .const (Value.int IntKind.i64 6)], #[3, 3, 3]⟩, 4, "l13_pend.go:16", #[⟨4, .data⟩], none⟩) rfl (fun K hK => ?_) AllReadyH.nil
 go_simp
 refine (sInP true HF.out).mono ?_
 rintro e wn1 ⟨rfl, hb⟩
 replace BB := Lib.hid (BB.out.trans (hb.mono BB.out.size))
 clear hb
 (try go_wp2_with fail)
 clear hHeld
 refine hK.out _ _ ?_ (fun hHeld => ?_)
 ·
  (try dsimp only); exact ⟨kc K0.out BB.out, kc K1.out BB.out⟩
 clear hK K
 (try simp only [Act.put, Row.pB0, Row.pB1, Row.pB2])
 refine wpAnyH_take (i := 6) (oi := ⟨some 16, .unOp UnOp.not 4 (.tmp 15), 4, "l13_pend.go:16", #[⟨5, .data⟩], none⟩) (v := ?_) rfl (by kernel_rfl) (by kernel_rfl) (by kernel_rfl) (fun _ _ _ h => h) (Or.inl ⟨by rfl, ?_⟩) (by assumption) ?_
 rotate_left
 ·
  intro w' hSw; (try dsimp only at hSw); first | (go_simp; done) | (go_simp; with_reducible rfl)
 (try simp only [Act.put, Row.pB0, Row.pB1, Row.pB2])
 refine wpAnyH_take (i := 7) (oi := ⟨some 17, .move (.tmp 16), 4, "l13_pend.go:16", #[⟨6, .data⟩, ⟨5, .chain⟩], none⟩) (v := ?_) rfl (by kernel_rfl) (by kernel_rfl) (by kernel_rfl) (fun _ _ _ h => h) (Or.inl ⟨by rfl, ?_⟩) (by assumption) ?_
 rotate_left
 ·
  intro w' hSw; (try dsimp only at hSw); first | (go_simp; done) | (go_simp; with_reducible rfl)
 (try simp only [Act.put, Row.pB0, Row.pB1, Row.pB2])
 refine wpAnyH_take (i := 8) (oi := ⟨some 18, .move (.tmp 0), 68, "l13_pend.go:16", #[⟨7, .guard⟩], some (7, false)⟩) (v := ?_) rfl (by kernel_rfl) (by kernel_rfl) (by kernel_rfl) (fun _ _ _ h => h) (Or.inl ⟨by rfl, ?_⟩) (by assumption) ?_
 rotate_left
 ·
  intro w' hSw; (try dsimp only at hSw); first | (go_simp; done) | (go_simp; with_reducible rfl)
 (try simp only [Act.put, Row.pB0, Row.pB1, Row.pB2])
 refine wpAnyH_take (i := 9) (oi := ⟨some 19, .move (.tmp 3), 3, "l13_pend.go:16", #[⟨7, .guard⟩], some (7, false)⟩) (v := ?_) rfl (by kernel_rfl) (by kernel_rfl) (by kernel_rfl) (fun _ _ _ h => h) (Or.inl ⟨by rfl, ?_⟩) (by assumption) ?_
 rotate_left
 ·
  intro w' hSw; (try dsimp only at hSw); first | (go_simp; done) | (go_simp; with_reducible rfl)
 (try simp only [Act.put, Row.pB0, Row.pB1, Row.pB2])
 refine wpAnyH_take (i := 10) (oi := ⟨some 20, .indexAddr 68 (.tmp 18) (.tmp 19), 0, "l13_pend.go:16", #[⟨8, .data⟩, ⟨9, .data⟩, ⟨7, .guard⟩], some (7, false)⟩) (v := ?_) rfl (by kernel_rfl) (by kernel_rfl) (by kernel_rfl) (fun _ _ _ h => h) (Or.inl ⟨by rfl, ?_⟩) (by assumption) ?_
 rotate_left
 ·
  intro w' hSw; (try dsimp only at hSw); first | (go_simp; done) | (go_simp; with_reducible rfl)
 (try simp only [Act.put, Row.pB0, Row.pB1, Row.pB2])
 refine wpAnyH_take (i := 11) (oi := ⟨some 21, .fieldAddr 91 (.tmp 20) 1, 0, "l13_pend.go:16", #[⟨10, .data⟩, ⟨7, .guard⟩], some (7, false)⟩) (v := ?_) rfl (by kernel_rfl) (by kernel_rfl) (by kernel_rfl) (fun _ _ _ h => h) (Or.inl ⟨by rfl, ?_⟩) (by assumption) ?_
 rotate_left
 ·
  intro w' hSw; (try dsimp only at hSw); first | (go_simp; done) | (go_simp; with_reducible rfl)
 (try simp only [Act.put, Row.pB0, Row.pB1, Row.pB2])
 refine wpAnyH_take (i := 12) (oi := ⟨some 22, .load 3 (.tmp 21), 3, "l13_pend.go:16", #[⟨11, .data⟩, ⟨7, .guard⟩], some (7, false)⟩) (v := ?_) rfl (by kernel_rfl) (by kernel_rfl) (by kernel_rfl) (fun _ _ _ h => h) (Or.inl ⟨by rfl, ?_⟩) (by assumption) ?_
 rotate_left
 ·
  intro w' hSw; (try dsimp only at hSw); first | (go_simp; done) | (go_simp; with_reducible rfl)
 (try simp only [Act.put, Row.pB0, Row.pB1, Row.pB2])
 refine wpAnyH_ready (rs := [13]) (by kernel_rfl) (by simp) ?_
 refine AllReadyH.cons (o := ⟨some 23, .call ⟨.value (.func 76), #[.tmp 22, .const (Value.int IntKind.i64 0), .const (Value.int IntKind.i64 1000000)], #[3, 3, 3]⟩, 4, "l13_pend.go:16", #[⟨12, .data⟩, ⟨7, .chain⟩, ⟨7, .guard⟩], some (7, false)⟩) rfl (fun K hK => ?_) AllReadyH.nil
 go_simp
 refine (sInP false HU.out).mono ?_
 rintro e wn2 ⟨rfl, hb⟩
 replace BB := Lib.hid (BB.out.trans (hb.mono BB.out.size))
 clear hb
 (try go_wp2_with fail)
 clear hHeld
 refine hK.out _ _ ?_ (fun hHeld => ?_)
 ·
  (try dsimp only); exact ⟨kc K0.out BB.out, kc K1.out BB.out⟩
 clear hK K
 (try simp only [Act.put, Row.pB0, Row.pB1, Row.pB2])
 refine wpAnyH_take (i := 14) (oi := ⟨some 24, .unOp UnOp.not 4 (.tmp 23), 4, "l13_pend.go:16", #[⟨13, .data⟩, ⟨7, .guard⟩], some (7, false)⟩) (v := ?_) rfl (by kernel_rfl) (by kernel_rfl) (by kernel_rfl) (fun _ _ _ h => h) (Or.inl ⟨by rfl, ?_⟩) (by assumption) ?_
 rotate_left
 ·
  intro w' hSw; (try dsimp only at hSw); first | (go_simp; done) | (go_simp; with_reducible rfl)
 (try simp only [Act.put, Row.pB0, Row.pB1, Row.pB2])
 refine wpAnyH_take (i := 15) (oi := ⟨some 25, .pick (.tmp 17) (.const (Value.bool true)) (.tmp 24), 4, "l13_pend.go:16", #[⟨7, .data⟩, ⟨14, .data⟩], none⟩) (v := ?_) rfl (by kernel_rfl) (by kernel_rfl) (by kernel_rfl) (fun _ _ _ h => h) (Or.inl ⟨by rfl, ?_⟩) (by assumption) ?_
 rotate_left
 ·
  intro w' hSw; (try dsimp only at hSw); first | (go_simp; done) | (go_simp; with_reducible rfl)
 (try simp only [Act.put, Row.pB0, Row.pB1, Row.pB2])
 refine wpAnyH_take (i := 16) (oi := ⟨some 26, .move (.tmp 25), 4, "l13_pend.go:16", #[⟨15, .data⟩, ⟨13, .chain⟩], none⟩) (v := ?_) rfl (by kernel_rfl) (by kernel_rfl) (by kernel_rfl) (fun _ _ _ h => h) (Or.inl ⟨by rfl, ?_⟩) (by assumption) ?_
 rotate_left
 ·
  intro w' hSw; (try dsimp only at hSw); first | (go_simp; done) | (go_simp; with_reducible rfl)
 (try simp only [Act.put, Row.pB0, Row.pB1, Row.pB2])
 refine wpAnyH_take (i := 17) (oi := ⟨some 27, .move (.tmp 3), 3, "l13_pend.go:16", #[⟨16, .guard⟩], some (16, false)⟩) (v := undef) rfl (by kernel_rfl) (by kernel_rfl) (by kernel_rfl) (fun _ _ _ h => h) (Or.inr ⟨by rfl, rfl⟩) (by assumption) ?_
 (try simp only [Act.put, Row.pB0, Row.pB1, Row.pB2])
 refine wpAnyH_take (i := 18) (oi := ⟨some 28, .binOp BinOp.gtr 3 (.tmp 27) (.const (Value.int IntKind.i64 0)) 3, 4, "l13_pend.go:16", #[⟨17, .data⟩, ⟨16, .guard⟩], some (16, false)⟩) (v := undef) rfl (by kernel_rfl) (by kernel_rfl) (by kernel_rfl) (fun _ _ _ h => h) (Or.inr ⟨by rfl, rfl⟩) (by assumption) ?_
 (try simp only [Act.put, Row.pB0, Row.pB1, Row.pB2])
 refine wpAnyH_take (i := 19) (oi := ⟨some 29, .move (.tmp 28), 4, "l13_pend.go:16", #[⟨18, .data⟩, ⟨16, .chain⟩, ⟨16, .guard⟩], some (16, false)⟩) (v := undef) rfl (by kernel_rfl) (by kernel_rfl) (by kernel_rfl) (fun _ _ _ h => h) (Or.inr ⟨by rfl, rfl⟩) (by assumption) ?_
 (try simp only [Act.put, Row.pB0, Row.pB1, Row.pB2])
 refine wpAnyH_take (i := 20) (oi := ⟨some 30, .move (.tmp 0), 68, "l13_pend.go:16", #[⟨19, .guard⟩], some (19, true)⟩) (v := undef) rfl (by kernel_rfl) (by kernel_rfl) (by kernel_rfl) (fun _ _ _ h => h) (Or.inr ⟨by rfl, rfl⟩) (by assumption) ?_
 (try simp only [Act.put, Row.pB0, Row.pB1, Row.pB2])
 refine wpAnyH_take (i := 21) (oi := ⟨some 31, .move (.tmp 3), 3, "l13_pend.go:16", #[⟨19, .guard⟩], some (19, true)⟩) (v := undef) rfl (by kernel_rfl) (by kernel_rfl) (by kernel_rfl) (fun _ _ _ h => h) (Or.inr ⟨by rfl, rfl⟩) (by assumption) ?_
 (try simp only [Act.put, Row.pB0, Row.pB1, Row.pB2])
 refine wpAnyH_take (i := 22) (oi := ⟨some 32, .binOp BinOp.sub 3 (.tmp 31) (.const (Value.int IntKind.i64 1)) 3, 3, "l13_pend.go:16", #[⟨21, .data⟩, ⟨19, .guard⟩], some (19, true)⟩) (v := undef) rfl (by kernel_rfl) (by kernel_rfl) (by kernel_rfl) (fun _ _ _ h => h) (Or.inr ⟨by rfl, rfl⟩) (by assumption) ?_
 (try simp only [Act.put, Row.pB0, Row.pB1, Row.pB2])
 refine wpAnyH_take (i := 23) (oi := ⟨some 33, .indexAddr 68 (.tmp 30) (.tmp 32), 0, "l13_pend.go:16", #[⟨20, .data⟩, ⟨22, .data⟩, ⟨19, .guard⟩], some (19, true)⟩) (v := undef) rfl (by kernel_rfl) (by kernel_rfl) (by kernel_rfl) (fun _ _ _ h => h) (Or.inr ⟨by rfl, rfl⟩) (by assumption) ?_
 (try simp only [Act.put, Row.pB0, Row.pB1, Row.pB2])
 refine wpAnyH_take (i := 24) (oi := ⟨some 34, .fieldAddr 91 (.tmp 33) 0, 0, "l13_pend.go:16", #[⟨23, .data⟩, ⟨19, .guard⟩], some (19, true)⟩) (v := undef) rfl (by kernel_rfl) (by kernel_rfl) (by kernel_rfl) (fun _ _ _ h => h) (Or.inr ⟨by rfl, rfl⟩) (by assumption) ?_
 (try simp only [Act.put, Row.pB0, Row.pB1, Row.pB2])
 refine wpAnyH_take (i := 25) (oi := ⟨some 35, .load 3 (.tmp 34), 3, "l13_pend.go:16", #[⟨24, .data⟩, ⟨19, .guard⟩], some (19, true)⟩) (v := undef) rfl (by kernel_rfl) (by kernel_rfl) (by kernel_rfl) (fun _ _ _ h => h) (Or.inr ⟨by rfl, rfl⟩) (by assumption) ?_
 (try simp only [Act.put, Row.pB0, Row.pB1, Row.pB2])
 refine wpAnyH_take (i := 26) (oi := ⟨some 36, .move (.tmp 0), 68, "l13_pend.go:16", #[⟨19, .guard⟩], some (19, true)⟩) (v := undef) rfl (by kernel_rfl) (by kernel_rfl) (by kernel_rfl) (fun _ _ _ h => h) (Or.inr ⟨by rfl, rfl⟩) (by assumption) ?_
 (try simp only [Act.put, Row.pB0, Row.pB1, Row.pB2])
 refine wpAnyH_take (i := 27) (oi := ⟨some 37, .move (.tmp 3), 3, "l13_pend.go:16", #[⟨19, .guard⟩], some (19, true)⟩) (v := undef) rfl (by kernel_rfl) (by kernel_rfl) (by kernel_rfl) (fun _ _ _ h => h) (Or.inr ⟨by rfl, rfl⟩) (by assumption) ?_
 (try simp only [Act.put, Row.pB0, Row.pB1, Row.pB2])
 refine wpAnyH_take (i := 28) (oi := ⟨some 38, .indexAddr 68 (.tmp 36) (.tmp 37), 0, "l13_pend.go:16", #[⟨26, .data⟩, ⟨27, .data⟩, ⟨19, .guard⟩], some (19, true)⟩) (v := undef) rfl (by kernel_rfl) (by kernel_rfl) (by kernel_rfl) (fun _ _ _ h => h) (Or.inr ⟨by rfl, rfl⟩) (by assumption) ?_
 (try simp only [Act.put, Row.pB0, Row.pB1, Row.pB2])
 refine wpAnyH_take (i := 29) (oi := ⟨some 39, .fieldAddr 91 (.tmp 38) 0, 0, "l13_pend.go:16", #[⟨28, .data⟩, ⟨19, .guard⟩], some (19, true)⟩) (v := undef) rfl (by kernel_rfl) (by kernel_rfl) (by kernel_rfl) (fun _ _ _ h => h) (Or.inr ⟨by rfl, rfl⟩) (by assumption) ?_
 (try simp only [Act.put, Row.pB0, Row.pB1, Row.pB2])
 refine wpAnyH_take (i := 30) (oi := ⟨some 40, .load 3 (.tmp 39), 3, "l13_pend.go:16", #[⟨29, .data⟩, ⟨19, .guard⟩], some (19, true)⟩) (v := undef) rfl (by kernel_rfl) (by kernel_rfl) (by kernel_rfl) (fun _ _ _ h => h) (Or.inr ⟨by rfl, rfl⟩) (by assumption) ?_
 (try simp only [Act.put, Row.pB0, Row.pB1, Row.pB2])
 refine wpAnyH_take (i := 31) (oi := ⟨some 41, .binOp BinOp.geq 3 (.tmp 35) (.tmp 40) 3, 4, "l13_pend.go:16", #[⟨25, .data⟩, ⟨30, .data⟩, ⟨19, .guard⟩], some (19, true)⟩) (v := undef) rfl (by kernel_rfl) (by kernel_rfl) (by kernel_rfl) (fun _ _ _ h => h) (Or.inr ⟨by rfl, rfl⟩) (by assumption) ?_
 (try simp only [Act.put, Row.pB0, Row.pB1, Row.pB2])
 refine wpAnyH_take (i := 32) (oi := ⟨some 42, .pick (.tmp 29) (.tmp 41) (.const (Value.bool false)), 4, "l13_pend.go:16", #[⟨19, .data⟩, ⟨31, .data⟩, ⟨16, .guard⟩], some (16, false)⟩) (v := undef) rfl (by kernel_rfl) (by kernel_rfl) (by kernel_rfl) (fun _ _ _ h => h) (Or.inr ⟨by rfl, rfl⟩) (by assumption) ?_
 (try simp only [Act.put, Row.pB0, Row.pB1, Row.pB2])
 refine wpAnyH_take (i := 33) (oi := ⟨some 43, .pick (.tmp 26) (.const (Value.bool true)) (.tmp 42), 4, "l13_pend.go:16", #[⟨16, .data⟩, ⟨32, .data⟩], none⟩) (v := ?_) rfl (by kernel_rfl) (by kernel_rfl) (by kernel_rfl) (fun _ _ _ h => h) (Or.inl ⟨by rfl, ?_⟩) (by assumption) ?_
 rotate_left
 ·
  intro w' hSw; (try dsimp only at hSw); first | (go_simp; done) | (go_simp; with_reducible rfl)
 (try simp only [Act.put, Row.pB0, Row.pB1, Row.pB2])
 refine wpAnyH_done (by kernel_rfl) ?_ _
 exact NoPanic.normal (HQ.out _ _ _ _ _ _ _ _ _ _ _ _ _ _ _ _ _ _ _ _ _ _ _ _ _ _ _ _ _ _ _ _ _  _  BB.out)
set_option maxRecDepth 100000 in
set_option maxHeartbeats 4000000 in
theorem ras2 {Q : Exit → Act → World → Prop} {v1 v2 v4 v5 v6 v7 v8 v9 v10 v11 v12 v13 v14 v15 v16 v17 v18 v19 v20 v21 v22 v23 v24 v25 v26 v27 v28 v29 v30 v31 v32 v33 v34 v35 v36 v37 v38 v39 v40 v41 v42 v43 v44 v45 v46 : Value} {w : World} {b off n c : Nat} {f u : Int} (hk : 0 < n) (hn : n ≤ 9000000) (HF : Hid (Num.inB f 0 6 = true)) (HU : Hid (Num.inB u 0 1000000 = true)) (K0 : Hid (w.cell? ⟨b, off, none⟩ = some (.int .i64 f))) (K1 : Hid (w.cell? ⟨b, off + 1, none⟩ = some (.int .i64 u)))
  (hQ : ∀ (u10 u11 u12 u13 u14 u15 u16 u17 u18 u19 u20 u21 u22 u23 u24 u25 u26 u27 u28 u29 u30 u31 u32 u33 u34 u35 u36 u37 u38 u39 u40 u41 u42 : Value)  (wx : World), Below w.heap.size w wx → Q .normal ⟨#[.slice (some ⟨b, off, none⟩) n c, v1, v2, .int .i64 (0 : Nat), v4, v5, v6, v7, v8, v9, u10, u11, u12, u13, u14, u15, u16, u17, u18, u19, u20, u21, u22, u23, u24, u25, u26, u27, u28, u29, u30, u31, u32, u33, u34, u35, u36, u37, u38, u39, u40, u41, u42, .bool false, v44, v45, v46], []⟩ wx) :
  (Code.region 4 #[⟨some 10, .move (.tmp 0), 68, "l13_pend.go:16", #[], none⟩,
   ⟨some 11, .move (.tmp 3), 3, "l13_pend.go:16", #[], none⟩,
   ⟨some 12, .indexAddr 68 (.tmp 10) (.tmp 11), 0, "l13_pend.go:16", #[⟨0, .data⟩, ⟨1, .data⟩], none⟩,
   ⟨some 13, .fieldAddr 91 (.tmp 12) 0, 0, "l13_pend.go:16", #[⟨2, .data⟩], none⟩,
   ⟨some 14, .load 3 (.tmp 13), 3, "l13_pend.go:16", #[⟨3, .data⟩], none⟩,
   ⟨some 15, .call ⟨.value (.func 76), #[.tmp 14, .const (Value.int IntKind.i64 0), .const (Value.int IntKind.i64 6)], #[3, 3, 3]⟩, 4, "l13_pend.go:16", #[⟨4, .data⟩], none⟩,
   ⟨some 16, .unOp UnOp.not 4 (.tmp 15), 4, "l13_pend.go:16", #[⟨5, .data⟩], none⟩,
   ⟨some 17, .move (.tmp 16), 4, "l13_pend.go:16", #[⟨6, .data⟩, ⟨5, .chain⟩], none⟩,
   ⟨some 18, .move (.tmp 0), 68, "l13_pend.go:16", #[⟨7, .guard⟩], some (7, false)⟩,
   ⟨some 19, .move (.tmp 3), 3, "l13_pend.go:16", #[⟨7, .guard⟩], some (7, false)⟩,
   ⟨some 20, .indexAddr 68 (.tmp 18) (.tmp 19), 0, "l13_pend.go:16", #[⟨8, .data⟩, ⟨9, .data⟩, ⟨7, .guard⟩], some (7, false)⟩,
   ⟨some 21, .fieldAddr 91 (.tmp 20) 1, 0, "l13_pend.go:16", #[⟨10, .data⟩, ⟨7, .guard⟩], some (7, false)⟩,
   ⟨some 22, .load 3 (.tmp 21), 3, "l13_pend.go:16", #[⟨11, .data⟩, ⟨7, .guard⟩], some (7, false)⟩,
   ⟨some 23, .call ⟨.value (.func 76), #[.tmp 22, .const (Value.int IntKind.i64 0), .const (Value.int IntKind.i64 1000000)], #[3, 3, 3]⟩, 4, "l13_pend.go:16", #[⟨12, .data⟩, ⟨7, .chain⟩, ⟨7, .guard⟩], some (7, false)⟩,
   ⟨some 24, .unOp UnOp.not 4 (.tmp 23), 4, "l13_pend.go:16", #[⟨13, .data⟩, ⟨7, .guard⟩], some (7, false)⟩,
   ⟨some 25, .pick (.tmp 17) (.const (Value.bool true)) (.tmp 24), 4, "l13_pend.go:16", #[⟨7, .data⟩, ⟨14, .data⟩], none⟩,
   ⟨some 26, .move (.tmp 25), 4, "l13_pend.go:16", #[⟨15, .data⟩, ⟨13, .chain⟩], none⟩,
   ⟨some 27, .move (.tmp 3), 3, "l13_pend.go:16", #[⟨16, .guard⟩], some (16, false)⟩,
   ⟨some 28, .binOp BinOp.gtr 3 (.tmp 27) (.const (Value.int IntKind.i64 0)) 3, 4, "l13_pend.go:16", #[⟨17, .data⟩, ⟨16, .guard⟩], some (16, false)⟩,
   ⟨some 29, .move (.tmp 28), 4, "l13_pend.go:16", #[⟨18, .data⟩, ⟨16, .chain⟩, ⟨16, .guard⟩], some (16, false)⟩,
   ⟨some 30, .move (.tmp 0), 68, "l13_pend.go:16", #[⟨19, .guard⟩], some (19, true)⟩,
   ⟨some 31, .move (.tmp 3), 3, "l13_pend.go:16", #[⟨19, .guard⟩], some (19, true)⟩,
   ⟨some 32, .binOp BinOp.sub 3 (.tmp 31) (.const (Value.int IntKind.i64 1)) 3, 3, "l13_pend.go:16", #[⟨21, .data⟩, ⟨19, .guard⟩], some (19, true)⟩,
   ⟨some 33, .indexAddr 68 (.tmp 30) (.tmp 32), 0, "l13_pend.go:16", #[⟨20, .data⟩, ⟨22, .data⟩, ⟨19, .guard⟩], some (19, true)⟩,
   ⟨some 34, .fieldAddr 91 (.tmp 33) 0, 0, "l13_pend.go:16", #[⟨23, .data⟩, ⟨19, .guard⟩], some (19, true)⟩,
   ⟨some 35, .load 3 (.tmp 34), 3, "l13_pend.go:16", #[⟨24, .data⟩, ⟨19, .guard⟩], some (19, true)⟩,
   ⟨some 36, .move (.tmp 0), 68, "l13_pend.go:16", #[⟨19, .guard⟩], some (19, true)⟩,
   ⟨some 37, .move (.tmp 3), 3, "l13_pend.go:16", #[⟨19, .guard⟩], some (19, true)⟩,
   ⟨some 38, .indexAddr 68 (.tmp 36) (.tmp 37), 0, "l13_pend.go:16", #[⟨26, .data⟩, ⟨27, .data⟩, ⟨19, .guard⟩], some (19, true)⟩,
   ⟨some 39, .fieldAddr 91 (.tmp 38) 0, 0, "l13_pend.go:16", #[⟨28, .data⟩, ⟨19, .guard⟩], some (19, true)⟩,
   ⟨some 40, .load 3 (.tmp 39), 3, "l13_pend.go:16", #[⟨29, .data⟩, ⟨19, .guard⟩], some (19, true)⟩,
   ⟨some 41, .binOp BinOp.geq 3 (.tmp 35) (.tmp 40) 3, 4, "l13_pend.go:16", #[⟨25, .data⟩, ⟨30, .data⟩, ⟨19, .guard⟩], some (19, true)⟩,
   ⟨some 42, .pick (.tmp 29) (.tmp 41) (.const (Value.bool false)), 4, "l13_pend.go:16", #[⟨19, .data⟩, ⟨31, .data⟩, ⟨16, .guard⟩], some (16, false)⟩,
   ⟨some 43, .pick (.tmp 26) (.const (Value.bool true)) (.tmp 42), 4, "l13_pend.go:16", #[⟨16, .data⟩, ⟨32, .data⟩], none⟩] true).wp Try.prog Q ⟨#[.slice (some ⟨b, off, none⟩) n c, v1, v2, .int .i64 (0 : Nat), v4, v5, v6, v7, v8, v9, v10, v11, v12, v13, v14, v15, v16, v17, v18, v19, v20, v21, v22, v23, v24, v25, v26, v27, v28, v29, v30, v31, v32, v33, v34, v35, v36, v37, v38, v39, v40, v41, v42, v43, v44, v45, v46], []⟩ w := by
 have HQ := Lib.hid hQ; clear hQ
 have hdr : Below w.heap.size w w.drew := (Below.refl _ _).drew
 have BB := Lib.hid hdr
 refine wp_region_noPanic ?_
 refine wp_region_held_drew (S := (fun w' => w'.cell? ⟨b, off, none⟩ = some (.int .i64 f) ∧ w'.cell? ⟨b, off + 1, none⟩ = some (.int .i64 u))) (by kernel_rfl) ?_ (fun hHeld => ?_)
 ·
  exact ⟨kc K0.out BB.out, kc K1.out BB.out⟩
 clear hdr
 generalize w.drew = wd at *
 refine wpAnyH_take (i := 0) (oi := ⟨some 10, .move (.tmp 0), 68, "l13_pend.go:16", #[], none⟩) (v := ?_) rfl (by kernel_rfl) (by kernel_rfl) (by kernel_rfl) (fun _ _ _ h => h) (Or.inl ⟨by rfl, ?_⟩) (by assumption) ?_
 rotate_left
 ·
  intro w' hSw; (try dsimp only at hSw); first | (go_simp; done) | (go_simp; with_reducible rfl)
 (try simp only [Act.put, Row.pB0, Row.pB1, Row.pB2])
 refine wpAnyH_take (i := 1) (oi := ⟨some 11, .move (.tmp 3), 3, "l13_pend.go:16", #[], none⟩) (v := ?_) rfl (by kernel_rfl) (by kernel_rfl) (by kernel_rfl) (fun _ _ _ h => h) (Or.inl ⟨by rfl, ?_⟩) (by assumption) ?_
 rotate_left
 ·
  intro w' hSw; (try dsimp only at hSw); first | (go_simp; done) | (go_simp; with_reducible rfl)
 (try simp only [Act.put, Row.pB0, Row.pB1, Row.pB2])
 refine wpAnyH_take (i := 2) (oi := ⟨some 12, .indexAddr 68 (.tmp 10) (.tmp 11), 0, "l13_pend.go:16", #[⟨0, .data⟩, ⟨1, .data⟩], none⟩) (v := ?_) rfl (by kernel_rfl) (by kernel_rfl) (by kernel_rfl) (fun _ _ _ h => h) (Or.inl ⟨by rfl, ?_⟩) (by assumption) ?_
 rotate_left
 ·
  intro w' hSw; (try dsimp only at hSw); first | (go_simp; done) | (go_simp; with_reducible rfl)
 (try simp only [Act.put, Row.pB0, Row.pB1, Row.pB2])
 refine wpAnyH_take (i := 3) (oi := ⟨some 13, .fieldAddr 91 (.tmp 12) 0, 0, "l13_pend.go:16", #[⟨2, .data⟩], none⟩) (v := ?_) rfl (by kernel_rfl) (by kernel_rfl) (by kernel_rfl) (fun _ _ _ h => h) (Or.inl ⟨by rfl, ?_⟩) (by assumption) ?_
 rotate_left
 ·
  intro w' hSw; (try dsimp only at hSw); first | (go_simp; done) | (go_simp; with_reducible rfl)
 (try simp only [Act.put, Row.pB0, Row.pB1, Row.pB2])
 refine wpAnyH_take (i := 4) (oi := ⟨some 14, .load 3 (.tmp 13), 3, "l13_pend.go:16", #[⟨3, .data⟩], none⟩) (v := ?_) rfl (by kernel_rfl) (by kernel_rfl) (by kernel_rfl) (fun _ _ _ h => h) (Or.inl ⟨by rfl, ?_⟩) (by assumption) ?_
 rotate_left
 ·
  intro w' hSw; (try dsimp only at hSw); first | (go_simp; done) | (go_simp; with_reducible rfl)
 (try simp only [Act.put, Row.pB0, Row.pB1, Row.pB2])
 refine wpAnyH_ready (rs := [5]) (by kernel_rfl) (by simp) ?_
 refine AllReadyH.cons (o := ⟨some 15, .call ⟨.value (.func 76), #[.tmp 14, .const (Value.int IntKind.i64 0), .const (Value.int IntKind.i64 6)], #[3, 3, 3]⟩, 4, "l13_pend.go:16", #[⟨4, .data⟩], none⟩) rfl (fun K hK => ?_) AllReadyH.nil
 go_simp
 refine (sInP true HF.out).mono ?_
 rintro e wn1 ⟨rfl, hb⟩
 replace BB := Lib.hid (BB.out.trans (hb.mono BB.out.size))
 clear hb
 (try go_wp2_with fail)
 clear hHeld
 refine hK.out _ _ ?_ (fun hHeld => ?_)
 ·
  (try dsimp only); exact ⟨kc K0.out BB.out, kc K1.out BB.out⟩
 clear hK K
 (try simp only [Act.put, Row.pB0, Row.pB1, Row.pB2])
 refine wpAnyH_take (i := 6) (oi := ⟨some 16, .unOp UnOp.not 4 (.tmp 15), 4, "l13_pend.go:16", #[⟨5, .data⟩], none⟩) (v := ?_) rfl (by kernel_rfl) (by kernel_rfl) (by kernel_rfl) (fun _ _ _ h => h) (Or.inl ⟨by rfl, ?_⟩) (by assumption) ?_
 rotate_left
 ·
  intro w' hSw; (try dsimp only at hSw); first | (go_simp; done) | (go_simp; with_reducible rfl)
 (try simp only [Act.put, Row.pB0, Row.pB1, Row.pB2])
 refine wpAnyH_take (i := 7) (oi := ⟨some 17, .move (.tmp 16), 4, "l13_pend.go:16", #[⟨6, .data⟩, ⟨5, .chain⟩], none⟩) (v := ?_) rfl (by kernel_rfl) (by kernel_rfl) (by kernel_rfl) (fun _ _ _ h => h) (Or.inl ⟨by rfl, ?_⟩) (by assumption) ?_
 rotate_left
 ·
  intro w' hSw; (try dsimp only at hSw); first | (go_simp; done) | (go_simp; with_reducible rfl)
 (try simp only [Act.put, Row.pB0, Row.pB1, Row.pB2])
 refine wpAnyH_take (i := 8) (oi := ⟨some 18, .move (.tmp 0), 68, "l13_pend.go:16", #[⟨7, .guard⟩], some (7, false)⟩) (v := ?_) rfl (by kernel_rfl) (by kernel_rfl) (by kernel_rfl) (fun _ _ _ h => h) (Or.inl ⟨by rfl, ?_⟩) (by assumption) ?_
 rotate_left
 ·
  intro w' hSw; (try dsimp only at hSw); first | (go_simp; done) | (go_simp; with_reducible rfl)
 (try simp only [Act.put, Row.pB0, Row.pB1, Row.pB2])
 refine wpAnyH_take (i := 9) (oi := ⟨some 19, .move (.tmp 3), 3, "l13_pend.go:16", #[⟨7, .guard⟩], some (7, false)⟩) (v := ?_) rfl (by kernel_rfl) (by kernel_rfl) (by kernel_rfl) (fun _ _ _ h => h) (Or.inl ⟨by rfl, ?_⟩) (by assumption) ?_
 rotate_left
 ·
  intro w' hSw; (try dsimp only at hSw); first | (go_simp; done) | (go_simp; with_reducible rfl)
 (try simp only [Act.put, Row.pB0, Row.pB1, Row.pB2])
 refine wpAnyH_take (i := 10) (oi := ⟨some 20, .indexAddr 68 (.tmp 18) (.tmp 19), 0, "l13_pend.go:16", #[⟨8, .data⟩, ⟨9, .data⟩, ⟨7, .guard⟩], some (7, false)⟩) (v := ?_) rfl (by kernel_rfl) (by kernel_rfl) (by kernel_rfl) (fun _ _ _ h => h) (Or.inl ⟨by rfl, ?_⟩) (by assumption) ?_
 rotate_left
 ·
  intro w' hSw; (try dsimp only at hSw); first | (go_simp; done) | (go_simp; with_reducible rfl)
 (try simp only [Act.put, Row.pB0, Row.pB1, Row.pB2])
 refine wpAnyH_take (i := 11) (oi := ⟨some 21, .fieldAddr 91 (.tmp 20) 1, 0, "l13_pend.go:16", #[⟨10, .data⟩, ⟨7, .guard⟩], some (7, false)⟩) (v := ?_) rfl (by kernel_rfl) (by kernel_rfl) (by kernel_rfl) (fun _ _ _ h => h) (Or.inl ⟨by rfl, ?_⟩) (by assumption) ?_
 rotate_left
 ·
  intro w' hSw; (try dsimp only at hSw); first | (go_simp; done) | (go_simp; with_reducible rfl)
 (try simp only [Act.put, Row.pB0, Row.pB1, Row.pB2])
 refine wpAnyH_take (i := 12) (oi := ⟨some 22, .load 3 (.tmp 21), 3, "l13_pend.go:16", #[⟨11, .data⟩, ⟨7, .guard⟩], some (7, false)⟩) (v := ?_) rfl (by kernel_rfl) (by kernel_rfl) (by kernel_rfl) (fun _ _ _ h => h) (Or.inl ⟨by rfl, ?_⟩) (by assumption) ?_
 rotate_left
 ·
  intro w' hSw; (try dsimp only at hSw); first | (go_simp; done) | (go_simp; with_reducible rfl)
 (try simp only [Act.put, Row.pB0, Row.pB1, Row.pB2])
 refine wpAnyH_ready (rs := [13]) (by kernel_rfl) (by simp) ?_
 refine AllReadyH.cons (o := ⟨some 23, .call ⟨.value (.func 76), #[.tmp 22, .const (Value.int IntKind.i64 0), .const (Value.int IntKind.i64 1000000)], #[3, 3, 3]⟩, 4, "l13_pend.go:16", #[⟨12, .data⟩, ⟨7, .chain⟩, ⟨7, .guard⟩], some (7, false)⟩) rfl (fun K hK => ?_) AllReadyH.nil
 go_simp
 refine (sInP true HU.out).mono ?_
 rintro e wn2 ⟨rfl, hb⟩
 replace BB := Lib.hid (BB.out.trans (hb.mono BB.out.size))
 clear hb
 (try go_wp2_with fail)
 clear hHeld
 refine hK.out _ _ ?_ (fun hHeld => ?_)
 ·
  (try dsimp only); exact ⟨kc K0.out BB.out, kc K1.out BB.out⟩
 clear hK K
 (try simp only [Act.put, Row.pB0, Row.pB1, Row.pB2])
 refine wpAnyH_take (i := 14) (oi := ⟨some 24, .unOp UnOp.not 4 (.tmp 23), 4, "l13_pend.go:16", #[⟨13, .data⟩, ⟨7, .guard⟩], some (7, false)⟩) (v := ?_) rfl (by kernel_rfl) (by kernel_rfl) (by kernel_rfl) (fun _ _ _ h => h) (Or.inl ⟨by rfl, ?_⟩) (by assumption) ?_
 rotate_left
 ·
  intro w' hSw; (try dsimp only at hSw); first | (go_simp; done) | (go_simp; with_reducible rfl)
 (try simp only [Act.put, Row.pB0, Row.pB1, Row.pB2])
 refine wpAnyH_take (i := 15) (oi := ⟨some 25, .pick (.tmp 17) (.const (Value.bool true)) (.tmp 24), 4, "l13_pend.go:16", #[⟨7, .data⟩, ⟨14, .data⟩], none⟩) (v := ?_) rfl (by kernel_rfl) (by kernel_rfl) (by kernel_rfl) (fun _ _ _ h => h) (Or.inl ⟨by rfl, ?_⟩) (by assumption) ?_
 rotate_left
 ·
  intro w' hSw; (try dsimp only at hSw); first | (go_simp; done) | (go_simp; with_reducible rfl)
 (try simp only [Act.put, Row.pB0, Row.pB1, Row.pB2])
 refine wpAnyH_take (i := 16) (oi := ⟨some 26, .move (.tmp 25), 4, "l13_pend.go:16", #[⟨15, .data⟩, ⟨13, .chain⟩], none⟩) (v := ?_) rfl (by kernel_rfl) (by kernel_rfl) (by kernel_rfl) (fun _ _ _ h => h) (Or.inl ⟨by rfl, ?_⟩) (by assumption) ?_
 rotate_left
 ·
  intro w' hSw; (try dsimp only at hSw); first | (go_simp; done) | (go_simp; with_reducible rfl)
 (try simp only [Act.put, Row.pB0, Row.pB1, Row.pB2])
 refine wpAnyH_take (i := 17) (oi := ⟨some 27, .move (.tmp 3), 3, "l13_pend.go:16", #[⟨16, .guard⟩], some (16, false)⟩) (v := ?_) rfl (by kernel_rfl) (by kernel_rfl) (by kernel_rfl) (fun _ _ _ h => h) (Or.inl ⟨by rfl, ?_⟩) (by assumption) ?_
 rotate_left
 ·
  intro w' hSw; (try dsimp only at hSw); first | (go_simp; done) | (go_simp; with_reducible rfl)
 (try simp only [Act.put, Row.pB0, Row.pB1, Row.pB2])
 refine wpAnyH_take (i := 18) (oi := ⟨some 28, .binOp BinOp.gtr 3 (.tmp 27) (.const (Value.int IntKind.i64 0)) 3, 4, "l13_pend.go:16", #[⟨17, .data⟩, ⟨16, .guard⟩], some (16, false)⟩) (v := ?_) rfl (by kernel_rfl) (by kernel_rfl) (by kernel_rfl) (fun _ _ _ h => h) (Or.inl ⟨by rfl, ?_⟩) (by assumption) ?_
 rotate_left
 ·
  intro w' hSw; (try dsimp only at hSw); first | (go_simp; done) | (go_simp; with_reducible rfl)
 (try simp only [Act.put, Row.pB0, Row.pB1, Row.pB2])
 refine wpAnyH_take (i := 19) (oi := ⟨some 29, .move (.tmp 28), 4, "l13_pend.go:16", #[⟨18, .data⟩, ⟨16, .chain⟩, ⟨16, .guard⟩], some (16, false)⟩) (v := ?_) rfl (by kernel_rfl) (by kernel_rfl) (by kernel_rfl) (fun _ _ _ h => h) (Or.inl ⟨by rfl, ?_⟩) (by assumption) ?_
 rotate_left
 ·
  intro w' hSw; (try dsimp only at hSw); first | (go_simp; done) | (go_simp; with_reducible rfl)
 (try simp only [Act.put, Row.pB0, Row.pB1, Row.pB2])
 refine wpAnyH_take (i := 20) (oi := ⟨some 30, .move (.tmp 0), 68, "l13_pend.go:16", #[⟨19, .guard⟩], some (19, true)⟩) (v := undef) rfl (by kernel_rfl) (by kernel_rfl) (by kernel_rfl) (fun _ _ _ h => h) (Or.inr ⟨by rfl, rfl⟩) (by assumption) ?_
 (try simp only [Act.put, Row.pB0, Row.pB1, Row.pB2])
 refine wpAnyH_take (i := 21) (oi := ⟨some 31, .move (.tmp 3), 3, "l13_pend.go:16", #[⟨19, .guard⟩], some (19, true)⟩) (v := undef) rfl (by kernel_rfl) (by kernel_rfl) (by kernel_rfl) (fun _ _ _ h => h) (Or.inr ⟨by rfl, rfl⟩) (by assumption) ?_
 (try simp only [Act.put, Row.pB0, Row.pB1, Row.pB2])
 refine wpAnyH_take (i := 22) (oi := ⟨some 32, .binOp BinOp.sub 3 (.tmp 31) (.const (Value.int IntKind.i64 1)) 3, 3, "l13_pend.go:16", #[⟨21, .data⟩, ⟨19, .guard⟩], some (19, true)⟩) (v := undef) rfl (by kernel_rfl) (by kernel_rfl) (by kernel_rfl) (fun _ _ _ h => h) (Or.inr ⟨by rfl, rfl⟩) (by assumption) ?_
 (try simp only [Act.put, Row.pB0, Row.pB1, Row.pB2])
 refine wpAnyH_take (i := 23) (oi := ⟨some 33, .indexAddr 68 (.tmp 30) (.tmp 32), 0, "l13_pend.go:16", #[⟨20, .data⟩, ⟨22, .data⟩, ⟨19, .guard⟩], some (19, true)⟩) (v := undef) rfl (by kernel_rfl) (by kernel_rfl) (by kernel_rfl) (fun _ _ _ h => h) (Or.inr ⟨by rfl, rfl⟩) (by assumption) ?_
 (try simp only [Act.put, Row.pB0, Row.pB1, Row.pB2])
 refine wpAnyH_take (i := 24) (oi := ⟨some 34, .fieldAddr 91 (.tmp 33) 0, 0, "l13_pend.go:16", #[⟨23, .data⟩, ⟨19, .guard⟩], some (19, true)⟩) (v := undef) rfl (by kernel_rfl) (by kernel_rfl) (by kernel_rfl) (fun _ _ _ h => h) (Or.inr ⟨by rfl, rfl⟩) (by assumption) ?_
 (try simp only [Act.put, Row.pB0, Row.pB1, Row.pB2])
 refine wpAnyH_take (i := 25) (oi := ⟨some 35, .load 3 (.tmp 34), 3, "l13_pend.go:16", #[⟨24, .data⟩, ⟨19, .guard⟩], some (19, true)⟩) (v := undef) rfl (by kernel_rfl) (by kernel_rfl) (by kernel_rfl) (fun _ _ _ h => h) (Or.inr ⟨by rfl, rfl⟩) (by assumption) ?_
 (try simp only [Act.put, Row.pB0, Row.pB1, Row.pB2])
 refine wpAnyH_take (i := 26) (oi := ⟨some 36, .move (.tmp 0), 68, "l13_pend.go:16", #[⟨19, .guard⟩], some (19, true)⟩) (v := undef) rfl (by kernel_rfl) (by kernel_rfl) (by kernel_rfl) (fun _ _ _ h => h) (Or.inr ⟨by rfl, rfl⟩) (by assumption) ?_
 (try simp only [Act.put, Row.pB0, Row.pB1, Row.pB2])
 refine wpAnyH_take (i := 27) (oi := ⟨some 37, .move (.tmp 3), 3, "l13_pend.go:16", #[⟨19, .guard⟩], some (19, true)⟩) (v := undef) rfl (by kernel_rfl) (by kernel_rfl) (by kernel_rfl) (fun _ _ _ h => h) (Or.inr ⟨by rfl, rfl⟩) (by assumption) ?_
 (try simp only [Act.put, Row.pB0, Row.pB1, Row.pB2])
 refine wpAnyH_take (i := 28) (oi := ⟨some 38, .indexAddr 68 (.tmp 36) (.tmp 37), 0, "l13_pend.go:16", #[⟨26, .data⟩, ⟨27, .data⟩, ⟨19, .guard⟩], some (19, true)⟩) (v := undef) rfl (by kernel_rfl) (by kernel_rfl) (by kernel_rfl) (fun _ _ _ h => h) (Or.inr ⟨by rfl, rfl⟩) (by assumption) ?_
 (try simp only [Act.put, Row.pB0, Row.pB1, Row.pB2])
 refine wpAnyH_take (i := 29) (oi := ⟨some 39, .fieldAddr 91 (.tmp 38) 0, 0, "l13_pend.go:16", #[⟨28, .data⟩, ⟨19, .guard⟩], some (19, true)⟩) (v := undef) rfl (by kernel_rfl) (by kernel_rfl) (by kernel_rfl) (fun _ _ _ h => h) (Or.inr ⟨by rfl, rfl⟩) (by assumption) ?_
 (try simp only [Act.put, Row.pB0, Row.pB1, Row.pB2])
 refine wpAnyH_take (i := 30) (oi := ⟨some 40, .load 3 (.tmp 39), 3, "l13_pend.go:16", #[⟨29, .data⟩, ⟨19, .guard⟩], some (19, true)⟩) (v := undef) rfl (by kernel_rfl) (by kernel_rfl) (by kernel_rfl) (fun _ _ _ h => h) (Or.inr ⟨by rfl, rfl⟩) (by assumption) ?_
 (try simp only [Act.put, Row.pB0, Row.pB1, Row.pB2])
 refine wpAnyH_take (i := 31) (oi := ⟨some 41, .binOp BinOp.geq 3 (.tmp 35) (.tmp 40) 3, 4, "l13_pend.go:16", #[⟨25, .data⟩, ⟨30, .data⟩, ⟨19, .guard⟩], some (19, true)⟩) (v := undef) rfl (by kernel_rfl) (by kernel_rfl) (by kernel_rfl) (fun _ _ _ h => h) (Or.inr ⟨by rfl, rfl⟩) (by assumption) ?_
 (try simp only [Act.put, Row.pB0, Row.pB1, Row.pB2])
 refine wpAnyH_take (i := 32) (oi := ⟨some 42, .pick (.tmp 29) (.tmp 41) (.const (Value.bool false)), 4, "l13_pend.go:16", #[⟨19, .data⟩, ⟨31, .data⟩, ⟨16, .guard⟩], some (16, false)⟩) (v := ?_) rfl (by kernel_rfl) (by kernel_rfl) (by kernel_rfl) (fun _ _ _ h => h) (Or.inl ⟨by rfl, ?_⟩) (by assumption) ?_
 rotate_left
 ·
  intro w' hSw; (try dsimp only at hSw); first | (go_simp; done) | (go_simp; with_reducible rfl)
 (try simp only [Act.put, Row.pB0, Row.pB1, Row.pB2])
 refine wpAnyH_take (i := 33) (oi := ⟨some 43, .pick (.tmp 26) (.const (Value.bool true)) (.tmp 42), 4, "l13_pend.go:16", #[⟨16, .data⟩, ⟨32, .data⟩], none⟩) (v := ?_) rfl (by kernel_rfl) (by kernel_rfl) (by kernel_rfl) (fun _ _ _ h => h) (Or.inl ⟨by rfl, ?_⟩) (by assumption) ?_
 rotate_left
 ·
  intro w' hSw; (try dsimp only at hSw); first | (go_simp; done) | (go_simp; with_reducible rfl)
 (try simp only [Act.put, Row.pB0, Row.pB1, Row.pB2])
 refine wpAnyH_done (by kernel_rfl) ?_ _
 exact NoPanic.normal (HQ.out _ _ _ _ _ _ _ _ _ _ _ _ _ _ _ _ _ _ _ _ _ _ _ _ _ _ _ _ _ _ _ _ _  _  BB.out)
set_option maxRecDepth 100000 in
set_option maxHeartbeats 4000000 in
theorem ras3 {Q : Exit → Act → World → Prop} {v1 v2 v4 v5 v6 v7 v8 v9 v10 v11 v12 v13 v14 v15 v16 v17 v18 v19 v20 v21 v22 v23 v24 v25 v26 v27 v28 v29 v30 v31 v32 v33 v34 v35 v36 v37 v38 v39 v40 v41 v42 v43 v44 v45 v46 : Value} {w : World} {b off n c k : Nat} {f u f1 : Int} (hk : k < n) (hk1 : k - 1 < n) (hk0 : 0 < k) (hw : IntKind.i64.wrap ((k : Int) - 1) = ((k - 1 : Nat) : Int)) (ht : decide (0 < (k : Int)) = true) (hkc : k ≤ c) (hn : n ≤ 9000000) (HF : Hid (Num.inB f 0 6 = true)) (HU : Hid (Num.inB u 0 1000000 = true)) (K0 : Hid (w.cell? ⟨b, off + k * 3, none⟩ = some (.int .i64 f))) (K1 : Hid (w.cell? ⟨b, off + k * 3 + 1, none⟩ = some (.int .i64 u))) (K2 : Hid (w.cell? ⟨b, off + (k - 1) * 3, none⟩ = some (.int .i64 f1)))
  (hQ : ∀ (u10 u11 u12 u13 u14 u15 u16 u17 u18 u19 u20 u21 u22 u23 u24 u25 u26 u27 u28 u29 u30 u31 u32 u33 u34 u35 u36 u37 u38 u39 u40 u41 u42 : Value)  (wx : World), Below w.heap.size w wx → Q .normal ⟨#[.slice (some ⟨b, off, none⟩) n c, v1, v2, .int .i64 k, v4, v5, v6, v7, v8, v9, u10, u11, u12, u13, u14, u15, u16, u17, u18, u19, u20, u21, u22, u23, u24, u25, u26, u27, u28, u29, u30, u31, u32, u33, u34, u35, u36, u37, u38, u39, u40, u41, u42, .bool (decide (f ≤ f1)), v44, v45, v46], []⟩ wx) :
  (Code.region 4 #[⟨some 10, .move (.tmp 0), 68, "l13_pend.go:16", #[], none⟩,
   ⟨some 11, .move (.tmp 3), 3, "l13_pend.go:16", #[], none⟩,
   ⟨some 12, .indexAddr 68 (.tmp 10) (.tmp 11), 0, "l13_pend.go:16", #[⟨0, .data⟩, ⟨1, .data⟩], none⟩,
   ⟨some 13, .fieldAddr 91 (.tmp 12) 0, 0, "l13_pend.go:16", #[⟨2, .data⟩], none⟩,
   ⟨some 14, .load 3 (.tmp 13), 3, "l13_pend.go:16", #[⟨3, .data⟩], none⟩,
   ⟨some 15, .call ⟨.value (.func 76), #[.tmp 14, .const (Value.int IntKind.i64 0), .const (Value.int IntKind.i64 6)], #[3, 3, 3]⟩, 4, "l13_pend.go:16", #[⟨4, .data⟩], none⟩,
   ⟨some 16, .unOp UnOp.not 4 (.tmp 15), 4, "l13_pend.go:16", #[⟨5, .data⟩], none⟩,
   ⟨some 17, .move (.tmp 16), 4, "l13_pend.go:16", #[⟨6, .data⟩, ⟨5, .chain⟩], none⟩,
   ⟨some 18, .move (.tmp 0), 68, "l13_pend.go:16", #[⟨7, .guard⟩], some (7, false)⟩,
   ⟨some 19, .move (.tmp 3), 3, "l13_pend.go:16", #[⟨7, .guard⟩], some (7, false)⟩,
   ⟨some 20, .indexAddr 68 (.tmp 18) (.tmp 19), 0, "l13_pend.go:16", #[⟨8, .data⟩, ⟨9, .data⟩, ⟨7, .guard⟩], some (7, false)⟩,
   ⟨some 21, .fieldAddr 91 (.tmp 20) 1, 0, "l13_pend.go:16", #[⟨10, .data⟩, ⟨7, .guard⟩], some (7, false)⟩,
   ⟨some 22, .load 3 (.tmp 21), 3, "l13_pend.go:16", #[⟨11, .data⟩, ⟨7, .guard⟩], some (7, false)⟩,
   ⟨some 23, .call ⟨.value (.func 76), #[.tmp 22, .const (Value.int IntKind.i64 0), .const (Value.int IntKind.i64 1000000)], #[3, 3, 3]⟩, 4, "l13_pend.go:16", #[⟨12, .data⟩, ⟨7, .chain⟩, ⟨7, .guard⟩], some (7, false)⟩,
   ⟨some 24, .unOp UnOp.not 4 (.tmp 23), 4, "l13_pend.go:16", #[⟨13, .data⟩, ⟨7, .guard⟩], some (7, false)⟩,
   ⟨some 25, .pick (.tmp 17) (.const (Value.bool true)) (.tmp 24), 4, "l13_pend.go:16", #[⟨7, .data⟩, ⟨14, .data⟩], none⟩,
   ⟨some 26, .move (.tmp 25), 4, "l13_pend.go:16", #[⟨15, .data⟩, ⟨13, .chain⟩], none⟩,
   ⟨some 27, .move (.tmp 3), 3, "l13_pend.go:16", #[⟨16, .guard⟩], some (16, false)⟩,
   ⟨some 28, .binOp BinOp.gtr 3 (.tmp 27) (.const (Value.int IntKind.i64 0)) 3, 4, "l13_pend.go:16", #[⟨17, .data⟩, ⟨16, .guard⟩], some (16, false)⟩,
   ⟨some 29, .move (.tmp 28), 4, "l13_pend.go:16", #[⟨18, .data⟩, ⟨16, .chain⟩, ⟨16, .guard⟩], some (16, false)⟩,
   ⟨some 30, .move (.tmp 0), 68, "l13_pend.go:16", #[⟨19, .guard⟩], some (19, true)⟩,
   ⟨some 31, .move (.tmp 3), 3, "l13_pend.go:16", #[⟨19, .guard⟩], some (19, true)⟩,
   ⟨some 32, .binOp BinOp.sub 3 (.tmp 31) (.const (Value.int IntKind.i64 1)) 3, 3, "l13_pend.go:16", #[⟨21, .data⟩, ⟨19, .guard⟩], some (19, true)⟩,
   ⟨some 33, .indexAddr 68 (.tmp 30) (.tmp 32), 0, "l13_pend.go:16", #[⟨20, .data⟩, ⟨22, .data⟩, ⟨19, .guard⟩], some (19, true)⟩,
   ⟨some 34, .fieldAddr 91 (.tmp 33) 0, 0, "l13_pend.go:16", #[⟨23, .data⟩, ⟨19, .guard⟩], some (19, true)⟩,
   ⟨some 35, .load 3 (.tmp 34), 3, "l13_pend.go:16", #[⟨24, .data⟩, ⟨19, .guard⟩], some (19, true)⟩,
   ⟨some 36, .move (.tmp 0), 68, "l13_pend.go:16", #[⟨19, .guard⟩], some (19, true)⟩,
   ⟨some 37, .move (.tmp 3), 3, "l13_pend.go:16", #[⟨19, .guard⟩], some (19, true)⟩,
   ⟨some 38, .indexAddr 68 (.tmp 36) (.tmp 37), 0, "l13_pend.go:16", #[⟨26, .data⟩, ⟨27, .data⟩, ⟨19, .guard⟩], some (19, true)⟩,
   ⟨some 39, .fieldAddr 91 (.tmp 38) 0, 0, "l13_pend.go:16", #[⟨28, .data⟩, ⟨19, .guard⟩], some (19, true)⟩,
   ⟨some 40, .load 3 (.tmp 39), 3, "l13_pend.go:16", #[⟨29, .data⟩, ⟨19, .guard⟩], some (19, true)⟩,
   ⟨some 41, .binOp BinOp.geq 3 (.tmp 35) (.tmp 40) 3, 4, "l13_pend.go:16", #[⟨25, .data⟩, ⟨30, .data⟩, ⟨19, .guard⟩], some (19, true)⟩,
   ⟨some 42, .pick (.tmp 29) (.tmp 41) (.const (Value.bool false)), 4, "l13_pend.go:16", #[⟨19, .data⟩, ⟨31, .data⟩, ⟨16, .guard⟩], some (16, false)⟩,
   ⟨some 43, .pick (.tmp 26) (.const (Value.bool true)) (.tmp 42), 4, "l13_pend.go:16", #[⟨16, .data⟩, ⟨32, .data⟩], none⟩] true).wp Try.prog Q ⟨#[.slice (some ⟨b, off, none⟩) n c, v1, v2, .int .i64 k, v4, v5, v6, v7, v8, v9, v10, v11, v12, v13, v14, v15, v16, v17, v18, v19, v20, v21, v22, v23, v24, v25, v26, v27, v28, v29, v30, v31, v32, v33, v34, v35, v36, v37, v38, v39, v40, v41, v42, v43, v44, v45, v46], []⟩ w := by
 have HQ := Lib.hid hQ; clear hQ
 have hdr : Below w.heap.size w w.drew := (Below.refl _ _).drew
 have BB := Lib.hid hdr
 refine wp_region_noPanic ?_
 refine wp_region_held_drew (S := (fun w' => w'.cell? ⟨b, off + k * 3, none⟩ = some (.int .i64 f) ∧ w'.cell? ⟨b, off + k * 3 + 1, none⟩ = some (.int .i64 u) ∧ w'.cell? ⟨b, off + (k - 1) * 3, none⟩ = some (.int .i64 f1))) (by kernel_rfl) ?_ (fun hHeld => ?_)
 ·
  exact ⟨kc K0.out BB.out, kc K1.out BB.out, kc K2.out BB.out⟩
 clear hdr
 generalize w.drew = wd at *
 refine wpAnyH_take (i := 0) (oi := ⟨some 10, .move (.tmp 0), 68, "l13_pend.go:16", #[], none⟩) (v := ?_) rfl (by kernel_rfl) (by kernel_rfl) (by kernel_rfl) (fun _ _ _ h => h) (Or.inl ⟨by rfl, ?_⟩) (by assumption) ?_
 rotate_left
 ·
  intro w' hSw; (try dsimp only at hSw); first | (go_simp; done) | (go_simp; with_reducible rfl)
 (try simp only [Act.put, Row.pB0, Row.pB1, Row.pB2])
 refine wpAnyH_take (i := 1) (oi := ⟨some 11, .move (.tmp 3), 3, "l13_pend.go:16", #[], none⟩) (v := ?_) rfl (by kernel_rfl) (by kernel_rfl) (by kernel_rfl) (fun _ _ _ h => h) (Or.inl ⟨by rfl, ?_⟩) (by assumption) ?_
 rotate_left
 ·
  intro w' hSw; (try dsimp only at hSw); first | (go_simp; done) | (go_simp; with_reducible rfl)
 (try simp only [Act.put, Row.pB0, Row.pB1, Row.pB2])
 refine wpAnyH_take (i := 2) (oi := ⟨some 12, .indexAddr 68 (.tmp 10) (.tmp 11), 0, "l13_pend.go:16", #[⟨0, .data⟩, ⟨1, .data⟩], none⟩) (v := ?_) rfl (by kernel_rfl) (by kernel_rfl) (by kernel_rfl) (fun _ _ _ h => h) (Or.inl ⟨by rfl, ?_⟩) (by assumption) ?_
 rotate_left
 ·
  intro w' hSw; (try dsimp only at hSw); first | (go_simp; done) | (go_simp; with_reducible rfl)
 (try simp only [Act.put, Row.pB0, Row.pB1, Row.pB2])
 refine wpAnyH_take (i := 3) (oi := ⟨some 13, .fieldAddr 91 (.tmp 12) 0, 0, "l13_pend.go:16", #[⟨2, .data⟩], none⟩) (v := ?_) rfl (by kernel_rfl) (by kernel_rfl) (by kernel_rfl) (fun _ _ _ h => h) (Or.inl ⟨by rfl, ?_⟩) (by assumption) ?_
 rotate_left
 ·
  intro w' hSw; (try dsimp only at hSw); first | (go_simp; done) | (go_simp; with_reducible rfl)
 (try simp only [Act.put, Row.pB0, Row.pB1, Row.pB2])
 refine wpAnyH_take (i := 4) (oi := ⟨some 14, .load 3 (.tmp 13), 3, "l13_pend.go:16", #[⟨3, .data⟩], none⟩) (v := ?_) rfl (by kernel_rfl) (by kernel_rfl) (by kernel_rfl) (fun _ _ _ h => h) (Or.inl ⟨by rfl, ?_⟩) (by assumption) ?_
 rotate_left
 ·
  intro w' hSw; (try dsimp only at hSw); first | (go_simp; done) | (go_simp; with_reducible rfl)
 (try simp only [Act.put, Row.pB0, Row.pB1, Row.pB2])
 refine wpAnyH_ready (rs := [5]) (by kernel_rfl) (by simp) ?_
 refine AllReadyH.cons (o := ⟨some 15, .call ⟨.value (.func 76), #[.tmp 14, .const (Value.int IntKind.i64 0), .const (Value.int IntKind.i64 6)], #[3, 3, 3]⟩, 4, "l13_pend.go:16", #[⟨4, .data⟩], none⟩) rfl (fun K hK => ?_) AllReadyH.nil
 go_simp
 refine (sInP true HF.out).mono ?_
 rintro e wn1 ⟨rfl, hb⟩
 replace BB := Lib.hid (BB.out.trans (hb.mono BB.out.size))
 clear hb
 (try go_wp2_with fail)
 clear hHeld
 refine hK.out _ _ ?_ (fun hHeld => ?_)
 ·
  (try dsimp only); exact ⟨kc K0.out BB.out, kc K1.out BB.out, kc K2.out BB.out⟩
 clear hK K
 (try simp only [Act.put, Row.pB0, Row.pB1, Row.pB2])
 refine wpAnyH_take (i := 6) (oi := ⟨some 16, .unOp UnOp.not 4 (.tmp 15), 4, "l13_pend.go:16", #[⟨5, .data⟩], none⟩) (v := ?_) rfl (by kernel_rfl) (by kernel_rfl) (by kernel_rfl) (fun _ _ _ h => h) (Or.inl ⟨by rfl, ?_⟩) (by assumption) ?_
 rotate_left
 ·
  intro w' hSw; (try dsimp only at hSw); first | (go_simp; done) | (go_simp; with_reducible rfl)
 (try simp only [Act.put, Row.pB0, Row.pB1, Row.pB2])
 refine wpAnyH_take (i := 7) (oi := ⟨some 17, .move (.tmp 16), 4, "l13_pend.go:16", #[⟨6, .data⟩, ⟨5, .chain⟩], none⟩) (v := ?_) rfl (by kernel_rfl) (by kernel_rfl) (by kernel_rfl) (fun _ _ _ h => h) (Or.inl ⟨by rfl, ?_⟩) (by assumption) ?_
 rotate_left
 ·
  intro w' hSw; (try dsimp only at hSw); first | (go_simp; done) | (go_simp; with_reducible rfl)
 (try simp only [Act.put, Row.pB0, Row.pB1, Row.pB2])
 refine wpAnyH_take (i := 8) (oi := ⟨some 18, .move (.tmp 0), 68, "l13_pend.go:16", #[⟨7, .guard⟩], some (7, false)⟩) (v := ?_) rfl (by kernel_rfl) (by kernel_rfl) (by kernel_rfl) (fun _ _ _ h => h) (Or.inl ⟨by rfl, ?_⟩) (by assumption) ?_
 rotate_left
 ·
  intro w' hSw; (try dsimp only at hSw); first | (go_simp; done) | (go_simp; with_reducible rfl)
 (try simp only [Act.put, Row.pB0, Row.pB1, Row.pB2])
 refine wpAnyH_take (i := 9) (oi := ⟨some 19, .move (.tmp 3), 3, "l13_pend.go:16", #[⟨7, .guard⟩], some (7, false)⟩) (v := ?_) rfl (by kernel_rfl) (by kernel_rfl) (by kernel_rfl) (fun _ _ _ h => h) (Or.inl ⟨by rfl, ?_⟩) (by assumption) ?_
 rotate_left
 ·
  intro w' hSw; (try dsimp only at hSw); first | (go_simp; done) | (go_simp; with_reducible rfl)
 (try simp only [Act.put, Row.pB0, Row.pB1, Row.pB2])
 refine wpAnyH_take (i := 10) (oi := ⟨some 20, .indexAddr 68 (.tmp 18) (.tmp 19), 0, "l13_pend.go:16", #[⟨8, .data⟩, ⟨9, .data⟩, ⟨7, .guard⟩], some (7, false)⟩) (v := ?_) rfl (by kernel_rfl) (by kernel_rfl) (by kernel_rfl) (fun _ _ _ h => h) (Or.inl ⟨by rfl, ?_⟩) (by assumption) ?_
 rotate_left
 ·
  intro w' hSw; (try dsimp only at hSw); first | (go_simp; done) | (go_simp; with_reducible rfl)
 (try simp only [Act.put, Row.pB0, Row.pB1, Row.pB2])
 refine wpAnyH_take (i := 11) (oi := ⟨some 21, .fieldAddr 91 (.tmp 20) 1, 0, "l13_pend.go:16", #[⟨10, .data⟩, ⟨7, .guard⟩], some (7, false)⟩) (v := ?_) rfl (by kernel_rfl) (by kernel_rfl) (by kernel_rfl) (fun _ _ _ h => h) (Or.inl ⟨by rfl, ?_⟩) (by assumption) ?_
 rotate_left
 ·
  intro w' hSw; (try dsimp only at hSw); first | (go_simp; done) | (go_simp; with_reducible rfl)
 (try simp only [Act.put, Row.pB0, Row.pB1, Row.pB2])
 refine wpAnyH_take (i := 12) (oi := ⟨some 22, .load 3 (.tmp 21), 3, "l13_pend.go:16", #[⟨11, .data⟩, ⟨7, .guard⟩], some (7, false)⟩) (v := ?_) rfl (by kernel_rfl) (by kernel_rfl) (by kernel_rfl) (fun _ _ _ h => h) (Or.inl ⟨by rfl, ?_⟩) (by assumption) ?_
 rotate_left
 ·
  intro w' hSw; (try dsimp only at hSw); first | (go_simp; done) | (go_simp; with_reducible rfl)
 (try simp only [Act.put, Row.pB0, Row.pB1, Row.pB2])
 refine wpAnyH_ready (rs := [13]) (by kernel_rfl) (by simp) ?_
 refine AllReadyH.cons (o := ⟨some 23, .call ⟨.value (.func 76), #[.tmp 22, .const (Value.int IntKind.i64 0), .const (Value.int IntKind.i64 1000000)], #[3, 3, 3]⟩, 4, "l13_pend.go:16", #[⟨12, .data⟩, ⟨7, .chain⟩, ⟨7, .guard⟩], some (7, false)⟩) rfl (fun K hK => ?_) AllReadyH.nil
 go_simp
 refine (sInP true HU.out).mono ?_
 rintro e wn2 ⟨rfl, hb⟩
 replace BB := Lib.hid (BB.out.trans (hb.mono BB.out.size))
 clear hb
 (try go_wp2_with fail)
 clear hHeld
 refine hK.out _ _ ?_ (fun hHeld => ?_)
 ·
  (try dsimp only); exact ⟨kc K0.out BB.out, kc K1.out BB.out, kc K2.out BB.out⟩
 clear hK K
 (try simp only [Act.put, Row.pB0, Row.pB1, Row.pB2])
 refine wpAnyH_take (i := 14) (oi := ⟨some 24, .unOp UnOp.not 4 (.tmp 23), 4, "l13_pend.go:16", #[⟨13, .data⟩, ⟨7, .guard⟩], some (7, false)⟩) (v := ?_) rfl (by kernel_rfl) (by kernel_rfl) (by kernel_rfl) (fun _ _ _ h => h) (Or.inl ⟨by rfl, ?_⟩) (by assumption) ?_
 rotate_left
 ·
  intro w' hSw; (try dsimp only at hSw); first | (go_simp; done) | (go_simp; with_reducible rfl)
 (try simp only [Act.put, Row.pB0, Row.pB1, Row.pB2])
 refine wpAnyH_take (i := 15) (oi := ⟨some 25, .pick (.tmp 17) (.const (Value.bool true)) (.tmp 24), 4, "l13_pend.go:16", #[⟨7, .data⟩, ⟨14, .data⟩], none⟩) (v := ?_) rfl (by kernel_rfl) (by kernel_rfl) (by kernel_rfl) (fun _ _ _ h => h) (Or.inl ⟨by rfl, ?_⟩) (by assumption) ?_
 rotate_left
 ·
  intro w' hSw; (try dsimp only at hSw); first | (go_simp; done) | (go_simp; with_reducible rfl)
 (try simp only [Act.put, Row.pB0, Row.pB1, Row.pB2])
 refine wpAnyH_take (i := 16) (oi := ⟨some 26, .move (.tmp 25), 4, "l13_pend.go:16", #[⟨15, .data⟩, ⟨13, .chain⟩], none⟩) (v := ?_) rfl (by kernel_rfl) (by kernel_rfl) (by kernel_rfl) (fun _ _ _ h => h) (Or.inl ⟨by rfl, ?_⟩) (by assumption) ?_
 rotate_left
 ·
  intro w' hSw; (try dsimp only at hSw); first | (go_simp; done) | (go_simp; with_reducible rfl)
 (try simp only [Act.put, Row.pB0, Row.pB1, Row.pB2])
 refine wpAnyH_take (i := 17) (oi := ⟨some 27, .move (.tmp 3), 3, "l13_pend.go:16", #[⟨16, .guard⟩], some (16, false)⟩) (v := ?_) rfl (by kernel_rfl) (by kernel_rfl) (by kernel_rfl) (fun _ _ _ h => h) (Or.inl ⟨by rfl, ?_⟩) (by assumption) ?_
 rotate_left
 ·
  intro w' hSw; (try dsimp only at hSw); first | (go_simp; done) | (go_simp; with_reducible rfl)
 (try simp only [Act.put, Row.pB0, Row.pB1, Row.pB2])
 refine wpAnyH_take (i := 18) (oi := ⟨some 28, .binOp BinOp.gtr 3 (.tmp 27) (.const (Value.int IntKind.i64 0)) 3, 4, "l13_pend.go:16", #[⟨17, .data⟩, ⟨16, .guard⟩], some (16, false)⟩) (v := ?_) rfl (by kernel_rfl) (by kernel_rfl) (by kernel_rfl) (fun _ _ _ h => h) (Or.inl ⟨by rfl, ?_⟩) (by assumption) ?_
 rotate_left
 ·
  intro w' hSw; (try dsimp only at hSw); first | (go_simp; done) | (go_simp; with_reducible rfl)
 (try simp only [Act.put, Row.pB0, Row.pB1, Row.pB2])
 refine wpAnyH_take (i := 19) (oi := ⟨some 29, .move (.tmp 28), 4, "l13_pend.go:16", #[⟨18, .data⟩, ⟨16, .chain⟩, ⟨16, .guard⟩], some (16, false)⟩) (v := ?_) rfl (by kernel_rfl) (by kernel_rfl) (by kernel_rfl) (fun _ _ _ h => h) (Or.inl ⟨by rfl, ?_⟩) (by assumption) ?_
 rotate_left
 ·
  intro w' hSw; (try dsimp only at hSw); first | (go_simp; done) | (go_simp; with_reducible rfl)
 (try simp only [Act.put, Row.pB0, Row.pB1, Row.pB2])
 refine wpAnyH_take (i := 20) (oi := ⟨some 30, .move (.tmp 0), 68, "l13_pend.go:16", #[⟨19, .guard⟩], some (19, true)⟩) (v := ?_) rfl (by kernel_rfl) (by kernel_rfl) (by kernel_rfl) (fun _ _ _ h => h) (Or.inl ⟨by rfl, ?_⟩) (by assumption) ?_
 rotate_left
 ·
  intro w' hSw; (try dsimp only at hSw); first | (go_simp; done) | (go_simp; with_reducible rfl)
 (try simp only [Act.put, Row.pB0, Row.pB1, Row.pB2])
 refine wpAnyH_take (i := 21) (oi := ⟨some 31, .move (.tmp 3), 3, "l13_pend.go:16", #[⟨19, .guard⟩], some (19, true)⟩) (v := ?_) rfl (by kernel_rfl) (by kernel_rfl) (by kernel_rfl) (fun _ _ _ h => h) (Or.inl ⟨by rfl, ?_⟩) (by assumption) ?_
 rotate_left
 ·
  intro w' hSw; (try dsimp only at hSw); first | (go_simp; done) | (go_simp; with_reducible rfl)
 (try simp only [Act.put, Row.pB0, Row.pB1, Row.pB2])
 refine wpAnyH_take (i := 22) (oi := ⟨some 32, .binOp BinOp.sub 3 (.tmp 31) (.const (Value.int IntKind.i64 1)) 3, 3, "l13_pend.go:16", #[⟨21, .data⟩, ⟨19, .guard⟩], some (19, true)⟩) (v := ?_) rfl (by kernel_rfl) (by kernel_rfl) (by kernel_rfl) (fun _ _ _ h => h) (Or.inl ⟨by rfl, ?_⟩) (by assumption) ?_
 rotate_left
 ·
  intro w' hSw; (try dsimp only at hSw); first | (go_simp; done) | (go_simp; with_reducible rfl)
 (try simp only [Act.put, Row.pB0, Row.pB1, Row.pB2])
 refine wpAnyH_take (i := 23) (oi := ⟨some 33, .indexAddr 68 (.tmp 30) (.tmp 32), 0, "l13_pend.go:16", #[⟨20, .data⟩, ⟨22, .data⟩, ⟨19, .guard⟩], some (19, true)⟩) (v := ?_) rfl (by kernel_rfl) (by kernel_rfl) (by kernel_rfl) (fun _ _ _ h => h) (Or.inl ⟨by rfl, ?_⟩) (by assumption) ?_
 rotate_left
 ·
  intro w' hSw; (try dsimp only at hSw); first | (go_simp; done) | (go_simp; with_reducible rfl)
 (try simp only [Act.put, Row.pB0, Row.pB1, Row.pB2])
 refine wpAnyH_take (i := 24) (oi := ⟨some 34, .fieldAddr 91 (.tmp 33) 0, 0, "l13_pend.go:16", #[⟨23, .data⟩, ⟨19, .guard⟩], some (19, true)⟩) (v := ?_) rfl (by kernel_rfl) (by kernel_rfl) (by kernel_rfl) (fun _ _ _ h => h) (Or.inl ⟨by rfl, ?_⟩) (by assumption) ?_
 rotate_left
 ·
  intro w' hSw; (try dsimp only at hSw); first | (go_simp; done) | (go_simp; with_reducible rfl)
 (try simp only [Act.put, Row.pB0, Row.pB1, Row.pB2])
 refine wpAnyH_take (i := 25) (oi := ⟨some 35, .load 3 (.tmp 34), 3, "l13_pend.go:16", #[⟨24, .data⟩, ⟨19, .guard⟩], some (19, true)⟩) (v := ?_) rfl (by kernel_rfl) (by kernel_rfl) (by kernel_rfl) (fun _ _ _ h => h) (Or.inl ⟨by rfl, ?_⟩) (by assumption) ?_
 rotate_left
 ·
  intro w' hSw; (try dsimp only at hSw); first | (go_simp; done) | (go_simp; with_reducible rfl)
 (try simp only [Act.put, Row.pB0, Row.pB1, Row.pB2])
 refine wpAnyH_take (i := 26) (oi := ⟨some 36, .move (.tmp 0), 68, "l13_pend.go:16", #[⟨19, .guard⟩], some (19, true)⟩) (v := ?_) rfl (by kernel_rfl) (by kernel_rfl) (by kernel_rfl) (fun _ _ _ h => h) (Or.inl ⟨by rfl, ?_⟩) (by assumption) ?_
 rotate_left
 ·
  intro w' hSw; (try dsimp only at hSw); first | (go_simp; done) | (go_simp; with_reducible rfl)
 (try simp only [Act.put, Row.pB0, Row.pB1, Row.pB2])
 refine wpAnyH_take (i := 27) (oi := ⟨some 37, .move (.tmp 3), 3, "l13_pend.go:16", #[⟨19, .guard⟩], some (19, true)⟩) (v := ?_) rfl (by kernel_rfl) (by kernel_rfl) (by kernel_rfl) (fun _ _ _ h => h) (Or.inl ⟨by rfl, ?_⟩) (by assumption) ?_
 rotate_left
 ·
  intro w' hSw; (try dsimp only at hSw); first | (go_simp; done) | (go_simp; with_reducible rfl)
 (try simp only [Act.put, Row.pB0, Row.pB1, Row.pB2])
 refine wpAnyH_take (i := 28) (oi := ⟨some 38, .indexAddr 68 (.tmp 36) (.tmp 37), 0, "l13_pend.go:16", #[⟨26, .data⟩, ⟨27, .data⟩, ⟨19, .guard⟩], some (19, true)⟩) (v := ?_) rfl (by kernel_rfl) (by kernel_rfl) (by kernel_rfl) (fun _ _ _ h => h) (Or.inl ⟨by rfl, ?_⟩) (by assumption) ?_
 rotate_left
 ·
  intro w' hSw; (try dsimp only at hSw); first | (go_simp; done) | (go_simp; with_reducible rfl)
 (try simp only [Act.put, Row.pB0, Row.pB1, Row.pB2])
 refine wpAnyH_take (i := 29) (oi := ⟨some 39, .fieldAddr 91 (.tmp 38) 0, 0, "l13_pend.go:16", #[⟨28, .data⟩, ⟨19, .guard⟩], some (19, true)⟩) (v := ?_) rfl (by kernel_rfl) (by kernel_rfl) (by kernel_rfl) (fun _ _ _ h => h) (Or.inl ⟨by rfl, ?_⟩) (by assumption) ?_
 rotate_left
 ·
  intro w' hSw; (try dsimp only at hSw); first | (go_simp; done) | (go_simp; with_reducible rfl)
 (try simp only [Act.put, Row.pB0, Row.pB1, Row.pB2])
 refine wpAnyH_take (i := 30) (oi := ⟨some 40, .load 3 (.tmp 39), 3, "l13_pend.go:16", #[⟨29, .data⟩, ⟨19, .guard⟩], some (19, true)⟩) (v := ?_) rfl (by kernel_rfl) (by kernel_rfl) (by kernel_rfl) (fun _ _ _ h => h) (Or.inl ⟨by rfl, ?_⟩) (by assumption) ?_
 rotate_left
 ·
  intro w' hSw; (try dsimp only at hSw); first | (go_simp; done) | (go_simp; with_reducible rfl)
 (try simp only [Act.put, Row.pB0, Row.pB1, Row.pB2])
 refine wpAnyH_take (i := 31) (oi := ⟨some 41, .binOp BinOp.geq 3 (.tmp 35) (.tmp 40) 3, 4, "l13_pend.go:16", #[⟨25, .data⟩, ⟨30, .data⟩, ⟨19, .guard⟩], some (19, true)⟩) (v := ?_) rfl (by kernel_rfl) (by kernel_rfl) (by kernel_rfl) (fun _ _ _ h => h) (Or.inl ⟨by rfl, ?_⟩) (by assumption) ?_
 rotate_left
 ·
  intro w' hSw; (try dsimp only at hSw); first | (go_simp; done) | (go_simp; with_reducible rfl)
 (try simp only [Act.put, Row.pB0, Row.pB1, Row.pB2])
 refine wpAnyH_take (i := 32) (oi := ⟨some 42, .pick (.tmp 29) (.tmp 41) (.const (Value.bool false)), 4, "l13_pend.go:16", #[⟨19, .data⟩, ⟨31, .data⟩, ⟨16, .guard⟩], some (16, false)⟩) (v := ?_) rfl (by kernel_rfl) (by kernel_rfl) (by kernel_rfl) (fun _ _ _ h => h) (Or.inl ⟨by rfl, ?_⟩) (by assumption) ?_
 rotate_left
 ·
  intro w' hSw; (try dsimp only at hSw); first | (go_simp; done) | (go_simp; with_reducible rfl)
 (try simp only [Act.put, Row.pB0, Row.pB1, Row.pB2])
 refine wpAnyH_take (i := 33) (oi := ⟨some 43, .pick (.tmp 26) (.const (Value.bool true)) (.tmp 42), 4, "l13_pend.go:16", #[⟨16, .data⟩, ⟨32, .data⟩], none⟩) (v := ?_) rfl (by kernel_rfl) (by kernel_rfl) (by kernel_rfl) (fun _ _ _ h => h) (Or.inl ⟨by rfl, ?_⟩) (by assumption) ?_
 rotate_left
 ·
  intro w' hSw; (try dsimp only at hSw); first | (go_simp; done) | (go_simp; with_reducible rfl)
 (try simp only [Act.put, Row.pB0, Row.pB1, Row.pB2])
 refine wpAnyH_done (by kernel_rfl) ?_ _
 exact NoPanic.normal (HQ.out _ _ _ _ _ _ _ _ _ _ _ _ _ _ _ _ _ _ _ _ _ _ _ _ _ _ _ _ _ _ _ _ _  _  BB.out)
set_option maxHeartbeats 4000000 in
theorem sValidQ (V : Value) (l : List Rqt) (w : World) (z : Bool) (hz : validQs l = z) (h : kLRq.At w V l) (hl : l.length ≤ 9000000) :
    Calls Try.prog 75 #[V] w fun e w' => e = .returned (.bool z) ∧ Below w.heap.size w w' := by
  obtain ⟨x, n, cx, L, rfl, hn, ht, hh, hel⟩ := kLRq_at h
  have hlen : l.length = n := by rw [← ht, List.length_map]; exact hn.symm
  rw [hlen] at hl
  have hcap : n ≤ cx := by obtain ⟨x', n', cap', hv, hn', hc', -⟩ := hh.shapeN; cases hv; exact hc'
  have hz2 := hz
  unfold validQs at hz2
  rw [hlen] at hz2
  have HN := Lib.hid hn; have HT := Lib.hid ht; have HH := Lib.hid hh; have HEL := Lib.hid hel; have HLEN := Lib.hid hlen; have HZ := Lib.hid hz2
  clear hn ht hh hel hlen hz hz2 h
  go_enter Try.func75, Try.ntmps75
  go_wp2
  go_loopw [3] (fun iv wr => ∃ i : Nat, i ≤ n ∧ iv = .int .i64 i ∧ Hid (validQ l i = true) ∧ Hid (Below w.heap.size w wr)) (fun iv _ => n - (intOf iv).toNat)
  case atStart => exact ⟨0, Nat.zero_le _, rfl, Lib.hid rfl, Lib.hid (Below.refl _ _)⟩
  case round =>
    obtain ⟨k, hk, rfl, ha, hb⟩ := hrel
    by_cases hlt : k < n
    · have hlen := HN.out
      obtain ⟨b, off, rfl, -, hc0, hc1, hc2, hA⟩ := kLRq_elem (HH.out.on hb.out) (fun y hy => kRq.holds_on (HEL.out y hy) hb.out) (j := k) (by omega)
      have hpt : nth l k = kRq.strip (nth L k) := by rw [← HT.out, nth_map _ (by omega)]
      rw [← hpt] at hc0 hc1 hc2
      obtain ⟨f, u, x, hr⟩ : ∃ f u x, nth l k = (f, u, x) := ⟨_, _, _, rfl⟩
      rw [hr] at hc0 hc1 hc2
      simp only at hc0 hc1 hc2
      obtain ⟨q1, hq1⟩ : ∃ q1, Num.inB f 0 6 = q1 := ⟨_, rfl⟩
      obtain ⟨q2, hq2⟩ : ∃ q2, Num.inB u 0 1000000 = q2 := ⟨_, rfl⟩
      have HQ1 := Lib.hid hq1; have HQ2 := Lib.hid hq2; have HR := Lib.hid hr; have H0 := Lib.hid hc0; have H1 := Lib.hid hc1
      have HK : 0 < k → Hid (wr.cell? ⟨b, off + (k - 1) * 3, none⟩ = some (.int .i64 (nth l (k - 1)).1)) := fun h0 => by
        obtain ⟨b', off', e9, -, p0, -, -, -⟩ := kLRq_elem (HH.out.on hb.out) (fun y hy => kRq.holds_on (HEL.out y hy) hb.out) (j := k - 1) (by omega)
        cases e9
        rw [← show nth l (k - 1) = kRq.strip (nth L (k - 1)) by rw [← HT.out, nth_map _ (by omega)]] at p0
        exact Lib.hid p0
      have HKK := Lib.hid HK
      clear hlen hpt hA hr hq1 hq2 hc0 hc1 hc2 HK
      go_wp2_with fail
      cases q1 with
      | false =>
        refine ras0 hlt (by omega) hl HQ1 H0 ?_
        intro u10 u11 u12 u13 u14 u15 u16 u17 u18 u19 u20 u21 u22 u23 u24 u25 u26 u27 u28 u29 u30 u31 u32 u33 u34 u35 u36 u37 u38 u39 u40 u41 u42 wx hbx
        have HB3 := Lib.hid (hb.out.trans (hbx.mono hb.out.size))
        have HE : Hid (z = false) := Lib.hid (by rw [← HZ.out, validQ_le (k := k + 1) (by unfold validQ; rw [HR.out]; simp [HQ1.out]) (by omega)]; rfl)
        clear hbx
        go_wp2
        go_ret
        exact ⟨ret_bool HE.out.symm, HB3.out⟩
      | true =>
        cases q2 with
        | false =>
          refine ras1 hlt (by omega) hl HQ1 HQ2 H0 H1 ?_
          intro u10 u11 u12 u13 u14 u15 u16 u17 u18 u19 u20 u21 u22 u23 u24 u25 u26 u27 u28 u29 u30 u31 u32 u33 u34 u35 u36 u37 u38 u39 u40 u41 u42 wx hbx
          have HB3 := Lib.hid (hb.out.trans (hbx.mono hb.out.size))
          have HE : Hid (z = false) := Lib.hid (by rw [← HZ.out, validQ_le (k := k + 1) (by unfold validQ; rw [HR.out]; simp [HQ2.out]) (by omega)]; rfl)
          clear hbx
          go_wp2
          go_ret
          exact ⟨ret_bool HE.out.symm, HB3.out⟩
        | true =>
          by_cases hk0 : k = 0
          · subst hk0
            have HA2 : Hid (validQ l (0 + 1) = true) := Lib.hid (by unfold validQ; rw [ha.out, HR.out]; simp [HQ1.out, HQ2.out])
            refine ras2 (b := b) (off := off) (f := f) (u := u) hlt hl HQ1 HQ2 (Lib.hid (by have := H0.out; simpa using this)) (Lib.hid (by have := H1.out; simpa using this)) ?_
            intro u10 u11 u12 u13 u14 u15 u16 u17 u18 u19 u20 u21 u22 u23 u24 u25 u26 u27 u28 u29 u30 u31 u32 u33 u34 u35 u36 u37 u38 u39 u40 u41 u42 wx hbx
            have HB3 := Lib.hid (hb.out.trans (hbx.mono hb.out.size))
            clear hbx
            go_wp2
            go_roundw
            case rel => exact ⟨0 + 1, by omega, by go_num, HA2, HB3⟩
            case measure => simp [intOf]; omega
          · have hkp : 0 < k := by omega
            have KP := HKK.out hkp
            have hw : IntKind.i64.wrap ((k : Int) - 1) = ((k - 1 : Nat) : Int) := by rw [IntKind.wrap_i64]; omega
            have hdt : decide (0 < (k : Int)) = true := decide_eq_true (by omega)
            obtain ⟨f1, hf1⟩ : ∃ f1, (nth l (k - 1)).1 = f1 := ⟨_, rfl⟩
            rw [hf1] at KP
            have HF1 := Lib.hid hf1
            clear hf1
            obtain ⟨q3, hq3⟩ : ∃ q3, decide (f ≤ f1) = q3 := ⟨_, rfl⟩
            have HQ3 := Lib.hid hq3
            refine ras3 (f1 := f1) hlt (by omega) hkp hw hdt (by omega) hl HQ1 HQ2 H0 H1 KP ?_
            intro u10 u11 u12 u13 u14 u15 u16 u17 u18 u19 u20 u21 u22 u23 u24 u25 u26 u27 u28 u29 u30 u31 u32 u33 u34 u35 u36 u37 u38 u39 u40 u41 u42 wx hbx
            have HB3 := Lib.hid (hb.out.trans (hbx.mono hb.out.size))
            rw [hq3]
            clear hbx hq3
            cases q3 with
            | true =>
              have HE : Hid (z = false) := Lib.hid (by
                rw [← HZ.out]
                have h5 := of_decide_eq_true HQ3.out
                rw [validQ_le (k := k + 1) (by
                  unfold validQ
                  rw [HR.out, HF1.out]
                  simp [hk0]
                  intro _ _ _
                  omega) (by omega)]
                rfl)
              go_wp2
              go_ret
              exact ⟨ret_bool HE.out.symm, HB3.out⟩
            | false =>
              have HA2 : Hid (validQ l (k + 1) = true) := Lib.hid (by
                have h5 := of_decide_eq_false HQ3.out
                unfold validQ
                rw [ha.out, HR.out, HF1.out]
                simp [HQ1.out, HQ2.out]
                omega)
              go_wp2
              go_roundw
              case rel => exact ⟨k + 1, by omega, by go_num, HA2, HB3⟩
              case measure => simp [intOf]; omega
    · obtain rfl : k = n := by omega
      have HE : Hid (decide (0 < k) = z) := Lib.hid (by rw [← HZ.out, ha.out]; simp)
      clear hlt
      go_wp2
      go_ret
      exact ⟨ret_bool HE.out, hb.out⟩
end Go.Proofs.Ytjphnlkdbhcblaa.Row
