/- Contracts of the search for an entry (the program's by closures handed to slices.IndexFunc, the model's), and of LookupEntry. No conditions but that lengths fit. -/
import Derived.Test.YtihcebjbkifbpaaTabV
namespace Go.Proofs.Ytihcebjbkifbpaa.Row
open Go.ChangeShapes Go.WideShapes Go.ChangeAt Go.RowKit Go.Instr
set_option linter.unusedVariables false
set_option maxRecDepth 100000

/-- The place of the first entry of which p is true; -1 if there is none. -/
def ixT (p : List ByteArray × Int → Bool) (T : List (List ByteArray × Int)) : Int := if T.findIdx p < T.length then (T.findIdx p : Int) else -1
def noP (p : List ByteArray × Int → Bool) (T : List (List ByteArray × Int)) (i : Nat) : Prop := ∀ j, j < i → p (nth T j) = false
section
variable {p : List ByteArray × Int → Bool} {T : List (List ByteArray × Int)} {i : Nat}
theorem noP_zero (p : List ByteArray × Int → Bool) (T : List (List ByteArray × Int)) : noP p T 0 := fun j h => absurd h (by omega)
theorem noP_succ (h : noP p T i) (hc : p (nth T i) = false) : noP p T (i + 1) := fun j h1 => by
  by_cases e : j = i
  · subst e; exact hc
  · exact h j (by omega)
theorem fp_at (hi : i < T.length) (h : noP p T i) (hc : p (nth T i) = true) : T.findIdx p = i := by
  rw [List.findIdx_eq hi]
  exact ⟨by rw [← nth_eq hi]; exact hc, fun j hj => by rw [← nth_eq (Nat.lt_trans hj hi)]; exact h j hj⟩
theorem fp_none (h : noP p T T.length) : T.findIdx p = T.length := by
  rw [List.findIdx_eq_length]
  intro x hx
  obtain ⟨j, hj, rfl⟩ := List.getElem_of_mem hx
  rw [← nth_eq hj]; exact h j hj
theorem ixT_at (hi : i < T.length) (h : noP p T i) (hc : p (nth T i) = true) : ixT p T = i := by
  unfold ixT; rw [fp_at hi h hc, if_pos hi]
theorem ixT_none (h : noP p T T.length) : ixT p T = -1 := by
  unfold ixT; rw [fp_none h, if_neg (by omega)]
/-- There is none, or there is a place. -/
theorem ixT_cases (p : List ByteArray × Int → Bool) (T : List (List ByteArray × Int)) : (ixT p T = -1 ∧ T.findIdx p = T.length ∧ noP p T T.length) ∨ ∃ i, i < T.length ∧ ixT p T = (i : Int) ∧ T.findIdx p = i ∧ p (nth T i) = true ∧ noP p T i := by
  by_cases h : T.findIdx p < T.length
  · refine Or.inr ⟨T.findIdx p, h, by unfold ixT; rw [if_pos h], rfl, ?_, ?_⟩
    · rw [nth_eq h]; exact List.findIdx_getElem
    · intro j hj
      rw [nth_eq (Nat.lt_trans hj h)]
      have := List.not_of_lt_findIdx hj
      simpa using this
  · have e : T.findIdx p = T.length := Nat.le_antisymm List.findIdx_le_length (by omega)
    refine Or.inl ⟨by unfold ixT; rw [if_neg h], e, fun j hj => ?_⟩
    rw [nth_eq hj]
    have := List.not_of_lt_findIdx (p := p) (xs := T) (i := j) (by omega)
    simpa using this
end
/-- The entry has this name. -/
def isN (n : List ByteArray) (x : List ByteArray × Int) : Bool := eqB x.1 n
def lkN (T : List (List ByteArray × Int)) (n : List ByteArray) : Int := if T.findIdx (isN n) < T.length then (nth T (T.findIdx (isN n))).2 else 0
def lkOk (T : List (List ByteArray × Int)) (n : List ByteArray) : Bool := decide (T.findIdx (isN n) < T.length)
theorem ret_ib {a c : Int} {b d : Bool} (h : a = c) (g : b = d) : Ending.returned (.tuple #[.int .i64 a, .bool b]) = .returned (.tuple #[.int .i64 c, .bool d]) := by rw [h, g]

set_option maxHeartbeats 2000000 in
theorem l6Find (v u : Value) (T : List (List ByteArray × Int)) (m : List ByteArray) (w : World) (h : TabHolds w v T) (g : Holds Value.string w u m) (hl : T.length ≤ 100000000) (hT : smT T) (hm : m.length ≤ 9000000) :
    Calls Try.prog 52 #[v, .agg #[u]] w fun e w' => e = .returned (.int .i64 (ixT (isN m) T)) ∧ Below w.heap.size w w' := by
  obtain ⟨L, rfl, h⟩ := h
  obtain ⟨x, n, cx, rfl, hn, hcx, hh⟩ := h.shapeN
  obtain ⟨y, q, cy, rfl, -, hcy, hg⟩ := g.shapeN
  rw [strip_length, ← hn] at hl
  have HB0 := Lib.hid ((Below.refl w.heap.size w).alloc (Nat.le_refl _) (.cells #[.slice y q cy] 27))
  have HC0 := Lib.hid (Ret.Box.new w (.slice y q cy) 27)
  have HN := Lib.hid hn
  have HH := Lib.hid (hh.on HB0.out)
  have HG := Lib.hid (hg.on HB0.out)
  have HT := Lib.hid hT
  clear hn h hh hT g hg
  go_enter Try.func52, Try.ntmps52
  go_wp2
  go_loopw [5] (fun i wr => ∃ k : Nat, k ≤ n ∧ i = .int .i64 k ∧ Hid (noP (isN m) (strip L) k) ∧ Hid (Below (w.alloc (.cells #[.slice y q cy] 27)).heap.size (w.alloc (.cells #[.slice y q cy] 27)) wr)) (fun i _ => n - (intOf i).toNat)
  case atStart => exact ⟨0, Nat.zero_le _, rfl, Lib.hid (noP_zero _ _), Lib.hid (Below.refl _ _)⟩
  case round =>
    obtain ⟨k, hk, rfl, ha, hb⟩ := hrel
    by_cases hlt : k < n
    · have hlen := HN.out
      obtain ⟨b, off, rfl, hc, hd, hnm⟩ := (HH.out.on hb.out).at (k := k) (by omega)
      have HL := Lib.hid (smT_psl HT.out (k := k) (by omega))
      have HE := Lib.hid (strip_nth (L := L) (k := k) (by omega))
      have hc0 := (HC0.out.on hb.out).cell
      have HNM := Lib.hid (hnm.on (Below.refl wr.heap.size wr).drew)
      have HGM := Lib.hid ((HG.out.on hb.out).on (Below.refl wr.heap.size wr).drew)
      have hk0 : (0 : Int) ≤ (k : Int) := by omega
      have hk1 : (k : Int) < (n : Int) := by omega
      have KS := Lib.hid (show wr.drew.cell? ⟨b, off + k * 2, none⟩ = some (.slice (nth L k).ad (nth L k).n (nth L k).cap) ∧ wr.drew.cell? ⟨w.heap.size, 0, none⟩ = some (.slice y q cy) ∧ Below (w.alloc (.cells #[.slice y q cy] 27)).heap.size (w.alloc (.cells #[.slice y q cy] 27)) wr.drew from ⟨hc, hc0, hb.out.drew⟩)
      by_cases he : isN m (nth L k).t = true
      · have HEQ := Lib.hid (show eqB (nth L k).ps m = true from he)
        have HA := Lib.hid (ixT_at (T := strip L) (by rw [strip_length]; omega) ha.out (by rw [HE.out]; exact he))
        clear hlen he hnm hc hd hc0
        go_wp2_with fail
        go_region_held3 (fun w' => w'.cell? ⟨b, off + k * 2, none⟩ = some (.slice (nth L k).ad (nth L k).n (nth L k).cap) ∧ w'.cell? ⟨w.heap.size, 0, none⟩ = some (.slice y q cy) ∧ Below (w.alloc (.cells #[.slice y q cy] 27)).heap.size (w.alloc (.cells #[.slice y q cy] 27)) w') (first | exact KS.out | exact keepN2 KS.out hb1) ((go_at_call 63; refine (sEqV true HEQ.out HNM.out HGM.out HL.out hm).mono ?_; rintro e w1 ⟨rfl, hb1⟩))
        all_goals
          have HB3 := Lib.hid (keepN2 KS.out hb1).2.2
          clear hb1
          go_wp2_with fail
          go_ret
          exact ⟨ret_int HA.out.symm, HB0.out.trans (HB3.out.mono (by simp))⟩
      · have he : isN m (nth L k).t = false := by simpa using he
        have HEQ := Lib.hid (show eqB (nth L k).ps m = false from he)
        have HA := Lib.hid (noP_succ ha.out (by rw [HE.out]; exact he))
        clear hlen he hnm hc hd hc0
        go_wp2_with fail
        go_region_held3 (fun w' => w'.cell? ⟨b, off + k * 2, none⟩ = some (.slice (nth L k).ad (nth L k).n (nth L k).cap) ∧ w'.cell? ⟨w.heap.size, 0, none⟩ = some (.slice y q cy) ∧ Below (w.alloc (.cells #[.slice y q cy] 27)).heap.size (w.alloc (.cells #[.slice y q cy] 27)) w') (first | exact KS.out | exact keepN2 KS.out hb1) ((go_at_call 63; refine (sEqV false HEQ.out HNM.out HGM.out HL.out hm).mono ?_; rintro e w1 ⟨rfl, hb1⟩))
        all_goals
          have HB3 := Lib.hid (keepN2 KS.out hb1).2.2
          clear hb1
          go_wp2_with fail
          go_roundw
          case rel => exact ⟨k + 1, by omega, by go_num, HA, HB3⟩
          case measure => simp [intOf]; omega
    · obtain rfl : k = n := by omega
      have HV := Lib.hid (ixT_none (T := strip L) (p := isN m) (by rw [strip_length, ← HN.out]; exact ha.out))
      clear hlt
      go_wp2
      go_ret
      exact ⟨ret_int HV.out.symm, HB0.out.trans (hb.out.mono (by simp))⟩

/-- What is asked of a closure that is handed to the library. -/
def ClosT (fid : FuncId) (cap : Array Value) (p : List ByteArray × Int → Bool) (w : World) : Prop :=
  ∀ (x : Ent) (W : World), Below w.heap.size w W → Holds Value.string W x.v x.ps → x.ps.length ≤ 9000000 → Calls Try.prog fid (#[.agg #[x.v, .int .i64 x.val]] ++ cap) W fun e w' => e = .returned (.bool (p x.t)) ∧ Below W.heap.size W w'
theorem ClosT.on {fid : FuncId} {cap : Array Value} {p : List ByteArray × Int → Bool} {w w' : World} (h : ClosT fid cap p w) (hb : Below w.heap.size w w') : ClosT fid cap p w' := fun x W hW => h x W (hb.trans (hW.mono hb.size))

set_option maxHeartbeats 2000000 in
theorem indexFuncTE (a : Addr) (p : List ByteArray × Int → Bool) (v : Value) (T : List (List ByteArray × Int)) (w : World) (h : TabHolds w v T) (hl : T.length ≤ 100000000) (hT : smT T) (hc : ClosT 86 #[.pointer (some a)] p w) :
    Calls Try.prog 85 #[v, .func (.func 86) #[] #[.pointer (some a)]] w fun e w' => e = .returned (.int .i64 (ixT p T)) ∧ Below w.heap.size w w' := by
  obtain ⟨L, rfl, h⟩ := h
  obtain ⟨x, n, cx, rfl, hn, hcx, hh⟩ := h.shapeN
  rw [strip_length, ← hn] at hl
  have HN := Lib.hid hn
  have HH := Lib.hid hh
  have HT := Lib.hid hT
  have HC := Lib.hid hc
  clear hn h hh hc hT
  go_enter Try.func85, Try.ntmps85
  go_wp2
  go_loopw [8] (fun iv wr => ∃ i : Nat, i ≤ n ∧ iv = .int .i64 i ∧ Hid (noP p (strip L) i) ∧ Hid (Below w.heap.size w wr)) (fun iv _ => n - (intOf iv).toNat)
  case atStart => exact ⟨0, Nat.zero_le _, rfl, Lib.hid (noP_zero _ _), Lib.hid (Below.refl _ _)⟩
  case round =>
    obtain ⟨k, hk, rfl, ha, hb⟩ := hrel
    by_cases hlt : k < n
    · have hlen := HN.out
      obtain ⟨b, off, rfl, hc1, hc2, hnm⟩ := (HH.out.on hb.out).at (k := k) (by omega)
      have HCL := Lib.hid (HC.out (nth L k) wr hb.out hnm (smT_psl HT.out (k := k) (by omega)))
      have HE := Lib.hid (strip_nth (L := L) (k := k) (by omega))
      clear hlen hnm
      go_wp2_with fail
      refine HCL.out.mono ?_
      rintro e w2 ⟨rfl, hb2⟩
      have HB2 := Lib.hid (hb.out.trans (hb2.mono hb.out.size))
      clear hb2 hc1 hc2
      by_cases he : p (nth L k).t = true
      · have HV := Lib.hid (ixT_at (T := strip L) (by have := HN.out; rw [strip_length]; omega) ha.out (by rw [HE.out]; exact he))
        rw [he]
        clear he
        go_wp2
        go_ret
        exact ⟨ret_int HV.out.symm, HB2.out⟩
      · have he : p (nth L k).t = false := by simpa using he
        have HA := Lib.hid (noP_succ ha.out (by rw [HE.out]; exact he))
        rw [he]
        clear he
        go_wp2
        go_roundw
        case rel => exact ⟨k + 1, by omega, by go_num, HA, HB2⟩
        case measure => simp [intOf]; omega
    · obtain rfl : k = n := by omega
      have HV := Lib.hid (ixT_none (T := strip L) (p := p) (by rw [strip_length, ← HN.out]; exact ha.out))
      clear hlt
      go_wp2
      go_ret
      exact ⟨ret_int HV.out.symm, hb.out⟩

set_option maxHeartbeats 2000000 in
theorem indexFuncTI (a : Addr) (p : List ByteArray × Int → Bool) (v : Value) (T : List (List ByteArray × Int)) (w : World) (h : TabHolds w v T) (hl : T.length ≤ 100000000) (hT : smT T) (hc : ClosT 87 #[.pointer (some a)] p w) :
    Calls Try.prog 85 #[v, .func (.func 87) #[] #[.pointer (some a)]] w fun e w' => e = .returned (.int .i64 (ixT p T)) ∧ Below w.heap.size w w' := by
  obtain ⟨L, rfl, h⟩ := h
  obtain ⟨x, n, cx, rfl, hn, hcx, hh⟩ := h.shapeN
  rw [strip_length, ← hn] at hl
  have HN := Lib.hid hn
  have HH := Lib.hid hh
  have HT := Lib.hid hT
  have HC := Lib.hid hc
  clear hn h hh hc hT
  go_enter Try.func85, Try.ntmps85
  go_wp2
  go_loopw [8] (fun iv wr => ∃ i : Nat, i ≤ n ∧ iv = .int .i64 i ∧ Hid (noP p (strip L) i) ∧ Hid (Below w.heap.size w wr)) (fun iv _ => n - (intOf iv).toNat)
  case atStart => exact ⟨0, Nat.zero_le _, rfl, Lib.hid (noP_zero _ _), Lib.hid (Below.refl _ _)⟩
  case round =>
    obtain ⟨k, hk, rfl, ha, hb⟩ := hrel
    by_cases hlt : k < n
    · have hlen := HN.out
      obtain ⟨b, off, rfl, hc1, hc2, hnm⟩ := (HH.out.on hb.out).at (k := k) (by omega)
      have HCL := Lib.hid (HC.out (nth L k) wr hb.out hnm (smT_psl HT.out (k := k) (by omega)))
      have HE := Lib.hid (strip_nth (L := L) (k := k) (by omega))
      clear hlen hnm
      go_wp2_with fail
      refine HCL.out.mono ?_
      rintro e w2 ⟨rfl, hb2⟩
      have HB2 := Lib.hid (hb.out.trans (hb2.mono hb.out.size))
      clear hb2 hc1 hc2
      by_cases he : p (nth L k).t = true
      · have HV := Lib.hid (ixT_at (T := strip L) (by have := HN.out; rw [strip_length]; omega) ha.out (by rw [HE.out]; exact he))
        rw [he]
        clear he
        go_wp2
        go_ret
        exact ⟨ret_int HV.out.symm, HB2.out⟩
      · have he : p (nth L k).t = false := by simpa using he
        have HA := Lib.hid (noP_succ ha.out (by rw [HE.out]; exact he))
        rw [he]
        clear he
        go_wp2
        go_roundw
        case rel => exact ⟨k + 1, by omega, by go_num, HA, HB2⟩
        case measure => simp [intOf]; omega
    · obtain rfl : k = n := by omega
      have HV := Lib.hid (ixT_none (T := strip L) (p := p) (by rw [strip_length, ← HN.out]; exact ha.out))
      clear hlt
      go_wp2
      go_ret
      exact ⟨ret_int HV.out.symm, hb.out⟩

set_option maxHeartbeats 2000000 in
theorem indexFuncTR (a : Addr) (p : List ByteArray × Int → Bool) (v : Value) (T : List (List ByteArray × Int)) (w : World) (h : TabHolds w v T) (hl : T.length ≤ 100000000) (hT : smT T) (hc : ClosT 61 #[.pointer (some a)] p w) :
    Calls Try.prog 85 #[v, .func (.func 61) #[] #[.pointer (some a)]] w fun e w' => e = .returned (.int .i64 (ixT p T)) ∧ Below w.heap.size w w' := by
  obtain ⟨L, rfl, h⟩ := h
  obtain ⟨x, n, cx, rfl, hn, hcx, hh⟩ := h.shapeN
  rw [strip_length, ← hn] at hl
  have HN := Lib.hid hn
  have HH := Lib.hid hh
  have HT := Lib.hid hT
  have HC := Lib.hid hc
  clear hn h hh hc hT
  go_enter Try.func85, Try.ntmps85
  go_wp2
  go_loopw [8] (fun iv wr => ∃ i : Nat, i ≤ n ∧ iv = .int .i64 i ∧ Hid (noP p (strip L) i) ∧ Hid (Below w.heap.size w wr)) (fun iv _ => n - (intOf iv).toNat)
  case atStart => exact ⟨0, Nat.zero_le _, rfl, Lib.hid (noP_zero _ _), Lib.hid (Below.refl _ _)⟩
  case round =>
    obtain ⟨k, hk, rfl, ha, hb⟩ := hrel
    by_cases hlt : k < n
    · have hlen := HN.out
      obtain ⟨b, off, rfl, hc1, hc2, hnm⟩ := (HH.out.on hb.out).at (k := k) (by omega)
      have HCL := Lib.hid (HC.out (nth L k) wr hb.out hnm (smT_psl HT.out (k := k) (by omega)))
      have HE := Lib.hid (strip_nth (L := L) (k := k) (by omega))
      clear hlen hnm
      go_wp2_with fail
      refine HCL.out.mono ?_
      rintro e w2 ⟨rfl, hb2⟩
      have HB2 := Lib.hid (hb.out.trans (hb2.mono hb.out.size))
      clear hb2 hc1 hc2
      by_cases he : p (nth L k).t = true
      · have HV := Lib.hid (ixT_at (T := strip L) (by have := HN.out; rw [strip_length]; omega) ha.out (by rw [HE.out]; exact he))
        rw [he]
        clear he
        go_wp2
        go_ret
        exact ⟨ret_int HV.out.symm, HB2.out⟩
      · have he : p (nth L k).t = false := by simpa using he
        have HA := Lib.hid (noP_succ ha.out (by rw [HE.out]; exact he))
        rw [he]
        clear he
        go_wp2
        go_roundw
        case rel => exact ⟨k + 1, by omega, by go_num, HA, HB2⟩
        case measure => simp [intOf]; omega
    · obtain rfl : k = n := by omega
      have HV := Lib.hid (ixT_none (T := strip L) (p := p) (by rw [strip_length, ← HN.out]; exact ha.out))
      clear hlt
      go_wp2
      go_ret
      exact ⟨ret_int HV.out.symm, hb.out⟩

set_option maxHeartbeats 2000000 in
theorem indexFuncTU (a : Addr) (p : List ByteArray × Int → Bool) (v : Value) (T : List (List ByteArray × Int)) (w : World) (h : TabHolds w v T) (hl : T.length ≤ 100000000) (hT : smT T) (hc : ClosT 64 #[.pointer (some a)] p w) :
    Calls Try.prog 85 #[v, .func (.func 64) #[] #[.pointer (some a)]] w fun e w' => e = .returned (.int .i64 (ixT p T)) ∧ Below w.heap.size w w' := by
  obtain ⟨L, rfl, h⟩ := h
  obtain ⟨x, n, cx, rfl, hn, hcx, hh⟩ := h.shapeN
  rw [strip_length, ← hn] at hl
  have HN := Lib.hid hn
  have HH := Lib.hid hh
  have HT := Lib.hid hT
  have HC := Lib.hid hc
  clear hn h hh hc hT
  go_enter Try.func85, Try.ntmps85
  go_wp2
  go_loopw [8] (fun iv wr => ∃ i : Nat, i ≤ n ∧ iv = .int .i64 i ∧ Hid (noP p (strip L) i) ∧ Hid (Below w.heap.size w wr)) (fun iv _ => n - (intOf iv).toNat)
  case atStart => exact ⟨0, Nat.zero_le _, rfl, Lib.hid (noP_zero _ _), Lib.hid (Below.refl _ _)⟩
  case round =>
    obtain ⟨k, hk, rfl, ha, hb⟩ := hrel
    by_cases hlt : k < n
    · have hlen := HN.out
      obtain ⟨b, off, rfl, hc1, hc2, hnm⟩ := (HH.out.on hb.out).at (k := k) (by omega)
      have HCL := Lib.hid (HC.out (nth L k) wr hb.out hnm (smT_psl HT.out (k := k) (by omega)))
      have HE := Lib.hid (strip_nth (L := L) (k := k) (by omega))
      clear hlen hnm
      go_wp2_with fail
      refine HCL.out.mono ?_
      rintro e w2 ⟨rfl, hb2⟩
      have HB2 := Lib.hid (hb.out.trans (hb2.mono hb.out.size))
      clear hb2 hc1 hc2
      by_cases he : p (nth L k).t = true
      · have HV := Lib.hid (ixT_at (T := strip L) (by have := HN.out; rw [strip_length]; omega) ha.out (by rw [HE.out]; exact he))
        rw [he]
        clear he
        go_wp2
        go_ret
        exact ⟨ret_int HV.out.symm, HB2.out⟩
      · have he : p (nth L k).t = false := by simpa using he
        have HA := Lib.hid (noP_succ ha.out (by rw [HE.out]; exact he))
        rw [he]
        clear he
        go_wp2
        go_roundw
        case rel => exact ⟨k + 1, by omega, by go_num, HA, HB2⟩
        case measure => simp [intOf]; omega
    · obtain rfl : k = n := by omega
      have HV := Lib.hid (ixT_none (T := strip L) (p := p) (by rw [strip_length, ← HN.out]; exact ha.out))
      clear hlt
      go_wp2
      go_ret
      exact ⟨ret_int HV.out.symm, hb.out⟩

set_option maxHeartbeats 4000000 in
theorem closEntryIndex (b : Nat) (y : Option Addr) (q cy : Nat) (m : List ByteArray) (w : World) (hc : w.cell? ⟨b, 0, none⟩ = some (.slice y q cy)) (hg : Holds Value.string w (.slice y q cy) m) (hm : m.length ≤ 9000000) : ClosT 86 #[.pointer (some ⟨b, 0, none⟩)] (isN m) w := by
  intro x W hW hx hxl
  obtain ⟨ad, n, cap, ps, val⟩ := x
  simp only [Ent.v, Ent.t] at hx hxl ⊢
  have hcW : W.cell? ⟨b, 0, none⟩ = some (.slice y q cy) := by rw [hW.cell (cell_lt hc)]; exact hc
  have hB := (Below.refl W.heap.size W).alloc (Nat.le_refl _) (.cells #[.slice ad n cap, .int .i64 val] 44)
  have hcA : (W.alloc (.cells #[.slice ad n cap, .int .i64 val] 44)).cell? ⟨b, 0, none⟩ = some (.slice y q cy) := by rw [World.cell?_alloc_past _ _ _ (cell_lt hcW)]; exact hcW
  have HB := Lib.hid hB
  have HX := Lib.hid (hx.on hB)
  have HG := Lib.hid ((hg.on hW).on hB)
  have HXL := Lib.hid hxl
  clear hcW hB hx hg hc hW hxl
  go_enter Try.func86, Try.ntmps86
  go_wp2_with fail
  refine (iEqV _ rfl HX.out HG.out HXL.out hm).mono ?_
  rintro e w1 ⟨rfl, hb⟩
  have HB2 := Lib.hid (HB.out.trans (hb.mono HB.out.size)); clear hb
  go_wp2_with fail
  go_ret
  exact ⟨rfl, HB2.out⟩

set_option maxHeartbeats 4000000 in
theorem entryIndex (v u : Value) (T : List (List ByteArray × Int)) (m : List ByteArray) (w : World) (h : TabHolds w v T) (g : Holds Value.string w u m) (hl : T.length ≤ 100000000) (hT : smT T) (hm : m.length ≤ 9000000) :
    Calls Try.prog 48 #[v, .agg #[u]] w fun e w' => e = .returned (.int .i64 (ixT (isN m) T)) ∧ Below w.heap.size w w' := by
  obtain ⟨y, q, cy, rfl, -, hcy, hg⟩ := g.shapeN
  have hb0 := (Below.refl w.heap.size w).alloc (Nat.le_refl _) (.cells #[.slice y q cy] 27)
  have HC := Lib.hid (indexFuncTE ⟨w.heap.size, 0, none⟩ _ v T _ (h.on hb0) hl hT (closEntryIndex w.heap.size y q cy m _ (Ret.cell_at rfl) (hg.on hb0) hm))
  have HB0 := Lib.hid hb0
  obtain ⟨x, n, cap, rfl, -, -, -⟩ := h.shapeN
  clear h hb0 g hg hT
  have hmf : ∀ (fn : Fn) (first cap : Array Value) (w : World), (Instr.makeFunc fn first cap).run Try.prog w = .ok (.func fn first cap) w := fun _ _ _ _ => rfl
  go_enter Try.func48, Try.ntmps48
  go_wp2_with fail
  refine HC.out.mono ?_
  rintro e w1 ⟨rfl, hb⟩
  have HB := Lib.hid (HB0.out.trans (hb.mono HB0.out.size))
  clear hb
  go_wp2_with fail
  go_ret
  exact ⟨rfl, HB.out⟩

set_option maxHeartbeats 4000000 in
theorem implLookupEntry (v u : Value) (T : List (List ByteArray × Int)) (m : List ByteArray) (w : World) (h : TabHolds w v T) (g : Holds Value.string w u m) (hl : T.length ≤ 100000000) (hT : smT T) (hm : m.length ≤ 9000000) :
    Calls Try.prog 20 #[v, .agg #[u]] w fun e w' => e = .returned (.tuple #[.int .i64 (lkN T m), .bool (lkOk T m)]) ∧ Below w.heap.size w w' := by
  obtain ⟨y, q, cy, rfl, -, hcy, hg⟩ := g.shapeN
  have hb0 := (Below.refl w.heap.size w).alloc (Nat.le_refl _) (.cells #[.slice y q cy] 27)
  have HC := Lib.hid (entryIndex v _ T m _ (h.on hb0) (hg.on hb0) hl hT hm)
  have HB0 := Lib.hid hb0
  obtain ⟨L, rfl, h⟩ := h
  obtain ⟨x, n, cap, rfl, hn, -, hh⟩ := h.shapeN
  have HH := Lib.hid (hh.on hb0)
  have HN := Lib.hid hn
  clear h hb0 g hg hT hh hn
  go_enter Try.func20, Try.ntmps20
  go_wp2_with fail
  refine HC.out.mono ?_
  rintro e w1 ⟨rfl, hb⟩
  have HH2 := Lib.hid (HH.out.on hb)
  have HB := Lib.hid (HB0.out.trans (hb.mono HB0.out.size))
  clear hb
  rcases ixT_cases (isN m) (strip L) with ⟨h1, h2, -⟩ | ⟨i, hi, h1, h2, -⟩
  · rw [h1]
    have HV : Hid (lkN (strip L) m = 0 ∧ lkOk (strip L) m = false) := Lib.hid ⟨by unfold lkN; rw [if_neg (by omega)], by unfold lkOk; exact decide_eq_false (by omega)⟩
    clear h1 h2
    go_wp2
    go_ret2
    exact ⟨ret_ib HV.out.1.symm HV.out.2.symm, HB.out⟩
  · rw [h1]
    have hi' : i < L.length := by rwa [strip_length] at hi
    have HV : Hid (lkN (strip L) m = (nth L i).val ∧ lkOk (strip L) m = true) := Lib.hid ⟨by unfold lkN; rw [if_pos (by omega), h2, strip_nth hi']; rfl, by unfold lkOk; exact decide_eq_true (by omega)⟩
    obtain ⟨b, off, rfl, -, hc2, -⟩ := HH2.out.at (k := i) hi'
    have hi2 : i < n := by have := HN.out; omega
    clear h1 h2 hi hi'
    go_wp2
    go_ret2
    exact ⟨ret_ib HV.out.1.symm HV.out.2.symm, HB.out⟩

set_option maxHeartbeats 4000000 in
theorem specLookupEntry (v u : Value) (T : List (List ByteArray × Int)) (m : List ByteArray) (w : World) (h : TabHolds w v T) (g : Holds Value.string w u m) (hl : T.length ≤ 100000000) (hT : smT T) (hm : m.length ≤ 9000000) :
    Calls Try.prog 21 #[v, .agg #[u]] w fun e w' => e = .returned (.tuple #[.int .i64 (lkN T m), .bool (lkOk T m)]) ∧ Below w.heap.size w w' := by
  obtain ⟨y, q, cy, rfl, -, hcy, hg⟩ := g.shapeN
  have hb0 := (Below.refl w.heap.size w).alloc (Nat.le_refl _) (.cells #[.slice y q cy] 27)
  have HC := Lib.hid (l6Find v _ T m _ (h.on hb0) (hg.on hb0) hl hT hm)
  have HB0 := Lib.hid hb0
  obtain ⟨L, rfl, h⟩ := h
  obtain ⟨x, n, cap, rfl, hn, -, hh⟩ := h.shapeN
  have HH := Lib.hid (hh.on hb0)
  have HN := Lib.hid hn
  clear h hb0 g hg hT hh hn
  go_enter Try.func21, Try.ntmps21
  go_wp2_with fail
  refine HC.out.mono ?_
  rintro e w1 ⟨rfl, hb⟩
  have HH2 := Lib.hid (HH.out.on hb)
  have HB := Lib.hid (HB0.out.trans (hb.mono HB0.out.size))
  clear hb
  rcases ixT_cases (isN m) (strip L) with ⟨h1, h2, -⟩ | ⟨i, hi, h1, h2, -⟩
  · rw [h1]
    have HV : Hid (lkN (strip L) m = 0 ∧ lkOk (strip L) m = false) := Lib.hid ⟨by unfold lkN; rw [if_neg (by omega)], by unfold lkOk; exact decide_eq_false (by omega)⟩
    clear h1 h2
    go_wp2
    go_ret2
    exact ⟨ret_ib HV.out.1.symm HV.out.2.symm, HB.out⟩
  · rw [h1]
    have hi' : i < L.length := by rwa [strip_length] at hi
    have HV : Hid (lkN (strip L) m = (nth L i).val ∧ lkOk (strip L) m = true) := Lib.hid ⟨by unfold lkN; rw [if_pos (by omega), h2, strip_nth hi']; rfl, by unfold lkOk; exact decide_eq_true (by omega)⟩
    obtain ⟨b, off, rfl, -, hc2, -⟩ := HH2.out.at (k := i) hi'
    have hi2 : i < n := by have := HN.out; omega
    clear h1 h2 hi hi'
    go_wp2
    go_ret2
    exact ⟨ret_ib HV.out.1.symm HV.out.2.symm, HB.out⟩
end Go.Proofs.Ytihcebjbkifbpaa.Row
