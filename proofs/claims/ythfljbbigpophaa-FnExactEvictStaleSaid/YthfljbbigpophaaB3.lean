/- Contracts and mathematics, joined: NameSK, CacheMath, CacheK, CacheS, CacheG, CacheI, MarkK, MarkF, CacheEntrySM, ContentStoreM, NameSM, NameSW, CacheF, Open, CacheC. No conditions but those that each states. -/
import Derived.Test.YthfljbbigpophaaB2
import Derived.WalkKit
import Derived.Deep.RegionHeld3
import Derived.Deep.RegionLaw
import Derived.Test.YthfljbbigpophaaB1
import Derived.SizedLaws
import Derived.ChangeSlices
import Derived.Lib.SmallJoins
/- Lists of names in the words of kinds: sz, to, eq. No conditions but that lengths fit. -/
namespace Go.Proofs.Ythfljbbigpophaa.Row
open Go.ChangeShapes Go.WideShapes Go.ChangeAt Go.RowKit Go.Instr
set_option linter.unusedVariables false
set_option maxRecDepth 100000
def kLNn : Kd (List Nnt) (Rw Nnm) := kNn.slice 44
theorem szNn_cells : Sz kNn.cells 1 := fun m => kNn.len m
theorem kindNn : Kind Try.prog 44 kNn.cells (.agg #[.slice none 0 0]) 1 24 where
  elem := by unfold ElemK; kernel_rfl
  zs := rfl
  pos := by decide
  size := szNn_cells
  one := fun m u hu => kNn.one m u hu
def okLNn (l : List Nnt) : Prop := l.length ≤ 9223372036854775807 ∧ ∀ x ∈ l, okNn x
section
variable {w : World} {V : Value} {l : List Nnt} {B E : Nat}
theorem kLNn_at (h : kLNn.At w V l) : ∃ ad n cap L, V = .slice ad n cap ∧ n = L.length ∧ L.map kNn.strip = l ∧ HoldsK kNn.cells 1 w (.slice ad n cap) L ∧ ∀ x ∈ L, kNn.holds w x := by
  obtain ⟨⟨ad, n, cap, L⟩, hV, hl, hh, hel⟩ := h
  exact ⟨ad, n, cap, L, hV, HoldsK.lenEq (show HoldsK kNn.cells 1 w (.slice ad n cap) L from hh), hl, hh, hel⟩
theorem kLNn_shape (h : kLNn.In B E w V l) : ∃ x n c, V = .slice x n c ∧ kLNn.In B E w (.slice x n c) l := by
  obtain ⟨ad, n, cap, L, rfl, -⟩ := kLNn_at h.at
  exact ⟨ad, n, cap, rfl, h⟩
theorem kLNn_elem {x : Option Addr} {n cap : Nat} {L : List Nnm} (h : HoldsK kNn.cells 1 w (.slice x n cap) L) (hel : ∀ y ∈ L, kNn.holds w y) {j : Nat} (hj : j < L.length) :
    ∃ (b off : Nat) (x0 : Option Addr) (n0 c0 : Nat), x = some ⟨b, off, none⟩ ∧ kNn.cells (nth L j) = [.slice x0 n0 c0] ∧ w.cell? ⟨b, off + j, none⟩ = some (.slice x0 n0 c0) ∧ kNn.At w (.agg #[.slice x0 n0 c0]) (kNn.strip (nth L j)) := by
  obtain ⟨b, off, hx, hc⟩ := h.at szNn_cells hj
  obtain ⟨x0, n0, c0, e, ha⟩ := kNn_shapeA (Kd.at_of (k := kNn) (hel _ (nth_mem hj)))
  have d : kNn.cells (nth L j) = [.slice x0 n0 c0] := by injection e with e; exact congrArg Array.toList e
  rw [d] at hc
  exact ⟨b, off, x0, n0, c0, hx, d, by have := hc 0 (by decide); simpa [Nat.add_assoc] using this, ha⟩
end
theorem eqNameSK_len (x y : Option Addr) (n m cx cy : Nat) (w : World) (h : (((n : Nat) : Int) != ((m : Nat) : Int)) = true) :
    Calls Try.prog 39 #[.slice x n cx, .slice y m cy] w fun e w' => e = .returned (.bool false) ∧ w = w' := by
  go_enter Try.func39, Try.ntmps39
  go_wp2
  go_ret
  exact ⟨rfl, rfl⟩
set_option maxHeartbeats 4000000 in
theorem eqNameSK (V U : Value) (l m : List Nnt) (w : World) (q : Bool) (hq : decide (l = m) = q) (h : kLNn.At w V l) (g : kLNn.At w U m) (hl : l.length ≤ 100000000) (hm : m.length ≤ 100000000) (hsl : ∀ x ∈ l, adNn x ≤ 100000000) (hsm : ∀ x ∈ m, adNn x ≤ 100000000) :
    Calls Try.prog 39 #[V, U] w fun e w' => e = .returned (.bool q) ∧ Below w.heap.size w w' := by
  obtain ⟨x, n, cx, L, rfl, hn, hL, hh, hel⟩ := kLNn_at h
  obtain ⟨y, n2, cy, M, rfl, hn2, hM, hg, hem⟩ := kLNn_at g
  have hnl : l.length = n := by rw [← hL, List.length_map]; exact hn.symm
  have hnm : m.length = n2 := by rw [← hM, List.length_map]; exact hn2.symm
  by_cases he : n = n2
  · subst he
    rw [hnl] at hl
    have HN := Lib.hid hn; have HM := Lib.hid hn2; have HNL := Lib.hid hnl; have HNM9 := Lib.hid hnm
    have HH := Lib.hid hh; have HG := Lib.hid hg; have HEL := Lib.hid hel; have HEM := Lib.hid hem
    have HTL := Lib.hid hL; have HTM := Lib.hid hM; have HQ := Lib.hid hq; have HSL := Lib.hid hsl; have HSM := Lib.hid hsm
    have htest : (((n : Nat) : Int) != ((n : Nat) : Int)) = false := by simp
    clear hn h hh g hg hn2 hL hM hq hsl hsm hel hem hnl hnm hm
    go_enter Try.func39, Try.ntmps39
    go_wp2
    go_loopw [5] (fun i wr => ∃ k : Nat, k ≤ n ∧ i = .int .i64 k ∧ Hid (agree l m k) ∧ Hid (Below w.heap.size w wr)) (fun i _ => n - (intOf i).toNat)
    case atStart => exact ⟨0, Nat.zero_le _, rfl, Lib.hid (agree_zero _ _), Lib.hid (Below.refl _ _)⟩
    case round =>
      obtain ⟨k, hk, rfl, ha, hb⟩ := hrel
      by_cases hlt : k < n
      · have hlen := HN.out
        have hlen2 := HM.out
        obtain ⟨b, off, x0, n0, c0, rfl, -, hc0, hnm⟩ := kLNn_elem (HH.out.on hb.out) (fun y hy => kNn.holds_on (HEL.out y hy) hb.out) (j := k) (by omega)
        obtain ⟨b', off', xy0, ny0, cy0, rfl, -, hd0, hnm'⟩ := kLNn_elem (HG.out.on hb.out) (fun y hy => kNn.holds_on (HEM.out y hy) hb.out) (j := k) (by omega)
        have e1 : nth l k = kNn.strip (nth L k) := by rw [← HTL.out, nth_map _ (by omega)]
        have e2 : nth m k = kNn.strip (nth M k) := by rw [← HTM.out, nth_map _ (by omega)]
        have hl1 := HSL.out (nth l k) (nth_mem (by have := HNL.out; omega)); rw [e1] at hl1
        have hl2 := HSM.out (nth m k) (nth_mem (by have := HNM9.out; omega)); rw [e2] at hl2
        have HL := Lib.hid hl1; have HL' := Lib.hid hl2
        have HC0 := Lib.hid hc0; have HD0 := Lib.hid hd0
        have HNM := Lib.hid hnm; have HNM' := Lib.hid hnm'
        by_cases hq : kNn.strip (nth L k) = kNn.strip (nth M k)
        · have HE1 : Hid (decide (kNn.strip (nth L k) = kNn.strip (nth M k)) = true) := Lib.hid (decide_eq_true hq)
          have HA := Lib.hid (agree_succ ha.out (by rw [e1, e2, hq]))
          clear hq hlen hlen2 e1 e2 hc0 hd0 hnm hnm' hl1 hl2
          go_wp2_with fail
          go_region_held3 (fun w' => w'.cell? ⟨b, off + k, none⟩ = some (.slice x0 n0 c0) ∧ w'.cell? ⟨b', off' + k, none⟩ = some (.slice xy0 ny0 cy0) ∧ Below w.heap.size w w') (first | exact ⟨kc HC0.out ((Below.refl _ _).drew), kc HD0.out ((Below.refl _ _).drew), hb.out.trans (Below.mono ((Below.refl _ _).drew) hb.out.size)⟩ | exact ⟨kc HC0.out (hb1.mono (Nat.le_refl _)), kc HD0.out (hb1.mono (Nat.le_refl _)), hb.out.trans (Below.mono (hb1.mono (Nat.le_refl _)) hb.out.size)⟩ | exact ⟨kc HC0.out ((Below.refl _ _).drew.trans (hb1.mono (Nat.le_refl _))), kc HD0.out ((Below.refl _ _).drew.trans (hb1.mono (Nat.le_refl _))), hb.out.trans (Below.mono ((Below.refl _ _).drew.trans (hb1.mono (Nat.le_refl _))) hb.out.size)⟩) ((go_at_call 30; refine (eqNameK _ _ _ _ _ _ HE1.out (HNM.out.on (Below.refl _ _).drew) (HNM'.out.on (Below.refl _ _).drew) HL.out HL'.out).mono ?_; rintro e w1 ⟨rfl, hb1⟩))
          all_goals
            have HB2 := Lib.hid (hb.out.drew.trans (hb1.mono hb.out.size))
            clear hb1
            go_wp2_with fail
            go_roundw
            case rel => exact ⟨k + 1, by omega, by go_num, HA, HB2⟩
            case measure => simp [intOf]; omega
        · have HE1 : Hid (decide (kNn.strip (nth L k) = kNn.strip (nth M k)) = false) := Lib.hid (decide_eq_false hq)
          have HA : Hid (q = false) := Lib.hid (by rw [← HQ.out]; exact decide_eq_false (differ_K (k := k) (by rw [e1, e2]; exact hq)))
          clear hq hlen hlen2 e1 e2 hc0 hd0 hnm hnm' hl1 hl2
          go_wp2_with fail
          go_region_held3 (fun w' => w'.cell? ⟨b, off + k, none⟩ = some (.slice x0 n0 c0) ∧ w'.cell? ⟨b', off' + k, none⟩ = some (.slice xy0 ny0 cy0) ∧ Below w.heap.size w w') (first | exact ⟨kc HC0.out ((Below.refl _ _).drew), kc HD0.out ((Below.refl _ _).drew), hb.out.trans (Below.mono ((Below.refl _ _).drew) hb.out.size)⟩ | exact ⟨kc HC0.out (hb1.mono (Nat.le_refl _)), kc HD0.out (hb1.mono (Nat.le_refl _)), hb.out.trans (Below.mono (hb1.mono (Nat.le_refl _)) hb.out.size)⟩ | exact ⟨kc HC0.out ((Below.refl _ _).drew.trans (hb1.mono (Nat.le_refl _))), kc HD0.out ((Below.refl _ _).drew.trans (hb1.mono (Nat.le_refl _))), hb.out.trans (Below.mono ((Below.refl _ _).drew.trans (hb1.mono (Nat.le_refl _))) hb.out.size)⟩) ((go_at_call 30; refine (eqNameK _ _ _ _ _ _ HE1.out (HNM.out.on (Below.refl _ _).drew) (HNM'.out.on (Below.refl _ _).drew) HL.out HL'.out).mono ?_; rintro e w1 ⟨rfl, hb1⟩))
          all_goals
            have HB2 := Lib.hid (hb.out.drew.trans (hb1.mono hb.out.size))
            clear hb1
            go_wp2_with fail
            go_ret
            exact ⟨ret_bool HA.out.symm, HB2.out⟩
      · obtain rfl : k = n := by omega
        have HD : Hid (q = true) := Lib.hid (by rw [← HQ.out]; exact decide_eq_true (agree_all (by rw [HNL.out, HNM9.out]) (by rw [HNL.out]; exact ha.out)))
        clear hlt
        go_wp2
        go_ret
        exact ⟨ret_bool HD.out.symm, hb.out⟩
  · have htest : (((n : Nat) : Int) != ((n2 : Nat) : Int)) = true := by
      rw [bne_iff_ne]; omega
    have hf : q = false := by rw [← hq]; exact decide_eq_false (fun e => he (by rw [← hnl, ← hnm, e]))
    rw [hf]
    exact (eqNameSK_len x y _ _ cx cy w htest).mono fun e w' ⟨h1, h2⟩ => ⟨h1, by subst h2; exact Below.refl _ _⟩
theorem sameLNnK (V U : Value) (l : List Nnt) (w : World) (h : kLNn.At w V l) (g : kLNn.At w U l) (hl : l.length ≤ 100000000) (hs : ∀ x ∈ l, adNn x ≤ 100000000) :
    Calls Try.prog 39 #[V, U] w fun e w' => e = .returned (.bool true) ∧ Below w.heap.size w w' := eqNameSK V U l l w true (by simp) h g hl hl hs hs
def inLNn (l : List Nnt) : Prop := l.length ≤ 9223372036854775807 ∧ ∀ x ∈ l, inNn x
theorem inLNn.ok {l : List Nnt} (h : inLNn l) : okLNn l := ⟨h.1, fun x hx => (h.2 x hx).ok⟩
def adLNn (l : List Nnt) : Nat := bulkK adNn l
theorem eqLNnK (V U : Value) (l : List Nnt) (w : World) (h : kLNn.At w V l) (g : kLNn.At w U l) (hl : adLNn l ≤ 100000000) :
    Calls Try.prog 39 #[V, U] w fun e w' => e = .returned (.bool true) ∧ Below w.heap.size w w' :=
  sameLNnK V U l w h g (Nat.le_trans (bulkK_len _ _) hl) (fun x hx => Nat.le_trans (bulkK_mem hx) hl)
end Go.Proofs.Ythfljbbigpophaa.Row
/- The content store: what chapter 12's functions answer, as functions of lists; lists that lie as rows of the call's own: a part of a row, an element more, an append within the room, a clearing behind the end. No conditions but that lengths fit. -/
namespace Go.Proofs.Ythfljbbigpophaa.Row
open Go.ChangeShapes Go.WideShapes Go.ChangeAt Go.RowKit Go.Instr
set_option linter.unusedVariables false
set_option linter.unusedSectionVars false
set_option maxRecDepth 100000
def isE (n : List ByteArray) (x : Cet) : Bool := decide (x.1.1 = n)
def frE (now : Int) (x : Cet) : Bool := decide (now ≤ x.1.2.2.2.1)
def newC (k : Int) : Cnt := (if Num.inB k 0 8 = true then k else 0, [])
def validE (l : List Cet) : Nat → Bool
  | 0 => true
  | k + 1 => validE l k && (validD (nth l k).1 && !(l.take k).any (isE (nth l k).1.1))
def validC (x : Cnt) : Bool := validE x.2 x.2.length && (Num.inB x.1 0 8 && decide ((x.2.length : Int) ≤ x.1))
def rmE (l : List Cet) (n : List ByteArray) : List Cet := l.filter fun x => !isE n x
def leastE (l : List Cet) : Nat → Nat
  | 0 => 0
  | k + 1 => if (nth l k).2 < (nth l (leastE l k)).2 then k else leastE l k
def roomE (cap : Int) (l : List Cet) : List Cet := if cap ≤ (l.length : Int) then l.eraseIdx (leastE l l.length) else l
def cacheC (x : Cnt) (d : Dzt) (now : Int) : Cnt := if x.1 < 1 then x else if validD d = true then (x.1, roomE x.1 (rmE x.2 d.1) ++ [(d, now)]) else x
def hitE (n : List ByteArray) (now : Int) (x : Cet) : Bool := isE n x && frE now x
def zeroD : Dzt := ([], [], [], 0, 0)
def lookC (x : Cnt) (n : List ByteArray) (now : Int) : Dzt := if 0 ≤ ixL (hitE n now) x.2 then (nth x.2 (ixL (hitE n now) x.2).toNat).1 else zeroD
def lookOk (x : Cnt) (n : List ByteArray) (now : Int) : Bool := decide (0 ≤ ixL (hitE n now) x.2)
def touchE (l : List Cet) (i : Int) (now : Int) : List Cet := if 0 ≤ i then l.set i.toNat ((nth l i.toNat).1, now) else l
def touchC (x : Cnt) (n : List ByteArray) (now : Int) : Cnt := (x.1, touchE x.2 (ixL (isE n) x.2) now)
def evictC (x : Cnt) (now : Int) : Cnt := (x.1, x.2.filter (frE now))
def namesC (x : Cnt) : List Nnt := x.2.map fun e => e.1.1
def eqC (x y : Cnt) : Bool := decide (x = y)
theorem validE_le {l : List Cet} {k n : Nat} (h : validE l k = false) (hk : k ≤ n) : validE l n = false := by
  induction n with
  | zero => obtain rfl : k = 0 := by omega
            exact h
  | succ n ih =>
    rcases Nat.lt_or_ge n k with h1 | h1
    · obtain rfl : k = n + 1 := by omega
      exact h
    · unfold validE; rw [ih h1]; rfl
theorem ixL_take {n : List ByteArray} {l : List Cet} {k : Nat} (hk : k < l.length) (hn : (nth l k).1.1 = n) : decide (ixL (isE n) l < (k : Int)) = (l.take k).any (isE n) := by
  have hself : isE n (nth l k) = true := by unfold isE; simp [hn]
  rcases ixL_cases (isE n) l with ⟨e, h⟩ | ⟨j, hj, e, hc, hno⟩
  · exact absurd (h k hk) (by rw [hself]; simp)
  · rw [e]
    by_cases hjk : j < k
    · have h1 : (l.take k).any (isE n) = true := List.any_eq_true.2 ⟨nth l j, by
        rw [nth_eq hj]
        exact List.mem_take_iff_getElem.2 ⟨j, by omega, rfl⟩, hc⟩
      rw [h1]; simp; omega
    · have h1 : (l.take k).any (isE n) = false := by
        rw [List.any_eq_false]
        intro x hx
        obtain ⟨i, hi, rfl⟩ := List.mem_take_iff_getElem.1 hx
        have h2 : i < l.length := by omega
        have := hno i (by omega)
        rw [nth_eq h2] at this
        simp [this]
      rw [h1]; simp; omega
theorem any_find {n : List ByteArray} {l : List Cet} : l.any (isE n) = decide (0 ≤ ixL (isE n) l) := any_ixL _ _
theorem leastE_lt (l : List Cet) : ∀ k, 0 < k → leastE l k < k
  | 0, h => absurd h (by omega)
  | k + 1, _ => by
    unfold leastE
    split
    · omega
    · by_cases h0 : 0 < k
      · have := leastE_lt l k h0; omega
      · obtain rfl : k = 0 := by omega
        unfold leastE; omega
theorem leastE_one (l : List Cet) : leastE l 1 = 0 := by
  unfold leastE leastE; simp
theorem rmE_erase {l : List Cet} {n : List ByteArray} {k : Nat} (hk : k < l.length) (h : isE n (nth l k) = true) : rmE (l.eraseIdx k) n = rmE l n := by
  unfold rmE
  rw [List.eraseIdx_eq_take_drop_succ]
  conv => rhs; rw [← List.take_append_drop k l, ← List.getElem_cons_drop hk]
  rw [List.filter_append, List.filter_append, List.filter_cons, ← nth_eq hk, h]
  simp
theorem rmE_none {l : List Cet} {n : List ByteArray} (h : noL (isE n) l l.length) : rmE l n = l := by
  unfold rmE
  rw [List.filter_eq_self]
  intro x hx
  obtain ⟨j, hj, rfl⟩ := List.getElem_of_mem hx
  have := h j hj
  rw [nth_eq hj] at this
  simp [this]
theorem erase_parts {α : Type} (l : List α) (k : Nat) : l.eraseIdx k = l.take k ++ l.drop (k + 1) := List.eraseIdx_eq_take_drop_succ l k
theorem take_nx {α : Type} [Inhabited α] {l : List α} {k : Nat} (h : k < l.length) : l.take (k + 1) = l.take k ++ [nth l k] := by rw [List.take_succ_eq_append_getElem h, nth_eq h]
theorem filter_nx {α : Type} [Inhabited α] {p : α → Bool} {l : List α} {k : Nat} (h : k < l.length) (hp : p (nth l k) = true) : (l.take (k + 1)).filter p = (l.take k).filter p ++ [nth l k] := by
  rw [take_nx h, List.filter_append]; simp [hp]
theorem filter_sk {α : Type} [Inhabited α] {p : α → Bool} {l : List α} {k : Nat} (h : k < l.length) (hp : p (nth l k) = false) : (l.take (k + 1)).filter p = (l.take k).filter p := by
  rw [take_nx h, List.filter_append]; simp [hp]
section
variable {α M : Type} {k : Kd α M} {B C E E' : Nat} {e : TypeId} {w w' : World} {m : M}
theorem Kd.Own.upto (h : k.Own B w.heap.size w m) (hb : Below w.heap.size w w') : k.Own B w'.heap.size w' m := (h.on hb).mono (Nat.le_refl _) hb.size
theorem sub_flat {γ δ : Type} (f : γ → List δ) {l l' : List γ} (h : l'.Sublist l) : (l'.flatMap f).Sublist (l.flatMap f) := by
  induction h with
  | slnil => exact List.Sublist.refl _
  | cons a _ ih => rw [List.flatMap_cons]; exact ih.trans (List.sublist_append_right _ _)
  | cons_cons a _ ih => rw [List.flatMap_cons, List.flatMap_cons]; exact (List.Sublist.refl _).append ih
theorem Kd.sub (hN : k.NoRow e) {r : Rw M} (h : (k.slice e).Own B C w r) {L' : List M} (hs : L'.Sublist r.els) {row : Option Nat} (hg : w.grownBy w' row) (hr : ∀ g, row = some g → r.v.ownBlock = some g)
    {ad : Option Addr} {n cap : Nat} (ho : OwnK e k.cells k.size B w' (.slice ad n cap) L') : (k.slice e).Own B w'.heap.size w' ⟨ad, n, cap, L'⟩ := by
  have hnd : (r.v.ownBlock.toList ++ r.els.flatMap k.blocks).Nodup := h.2.1
  have hnd2 := List.nodup_append.1 hnd
  have hel : ∀ y ∈ L', k.own B w' y := fun y hy => k.own_keep (h.1.2 y (hs.subset hy)) (fun g hgy => hg.block g (k.own_lt (h.1.2 y (hs.subset hy)) g hgy).2 (fun er => hnd2.2.2 g (by rw [hr g er.symm]; simp) g (List.mem_flatMap.2 ⟨y, hs.subset hy, hgy⟩) rfl))
  refine ⟨⟨ho, hel⟩, ?_, fun g hgm => ?_⟩
  · show ((Rw.v ⟨ad, n, cap, L'⟩).ownBlock.toList ++ L'.flatMap k.blocks).Nodup
    rw [List.nodup_append]
    refine ⟨by cases (Rw.v ⟨ad, n, cap, L'⟩).ownBlock <;> simp, hnd2.2.1.sublist (sub_flat k.blocks hs), fun a ha b hb eab => ?_⟩
    obtain ⟨y, hy, hyb⟩ := List.mem_flatMap.1 hb
    obtain ⟨cs, hc⟩ := ho.row (g := a) (show (Value.slice ad n cap).ownBlock = some a from Option.mem_toList.1 ha)
    rw [eab] at hc
    exact hN B w' y (hel y hy) b hyb cs hc
  · rcases List.mem_append.1 (show g ∈ (Rw.v ⟨ad, n, cap, L'⟩).ownBlock.toList ++ L'.flatMap k.blocks from hgm) with hgm | hgm
    · exact (ho.lt g (show (Value.slice ad n cap).ownBlock = some g from Option.mem_toList.1 hgm)).2
    · obtain ⟨y, hy, hyb⟩ := List.mem_flatMap.1 hgm
      exact (k.own_lt (hel y hy) g hyb).2
theorem Kd.Own.elOf {r : Rw M} (h : (k.slice e).Own B C w r) {y : M} (hy : y ∈ r.els) : k.holds w y := k.own_holds (h.1.2 y hy)
end
section
variable {P : Program} {α : Type} {enc : α → List Value} {sz : Nat} {e t : TypeId} {bytes : Nat} {z : Value}
theorem step_appFits (K : Kind P e enc z sz bytes) {ops : Array Oper} {o : Oper} {a : Act} {w : World} {K' : Act → World → Prop} {Q : Exit → Act → World → Prop} {E : Prop} (hg : o.guard = none) (s x : Operand)
    (hop : o.op = .call { callee := .builtin .append, args := #[s, x], argTypes := #[t, t] }) (ht : P.underlying t = some (.slice e)) {B g n cap : Nat} {vx : Value} {l m : List α} (hs : a.eval s = .slice (some ⟨g, 0, none⟩) n cap) (hx : a.eval x = vx) (hown : OwnK e enc sz B w (.slice (some ⟨g, 0, none⟩) n cap) l) (hsrc : HoldsK enc sz w vx m) (hroom : l.length + m.length ≤ cap)
    (hK : ∀ w' N, N = l.length + m.length → OwnK e enc sz B w' (.slice (some ⟨g, 0, none⟩) N cap) (l ++ m) → w.grownBy w' (some g) → K' (a.put o.dst (.slice (some ⟨g, 0, none⟩) N cap)) w') :
    if Region.wanted o (yielded ops a.tmps) = true then Oper.wp P o a w K' Q else E := by
  have hw : Region.wanted o (yielded ops a.tmps) = true := by simp [Region.wanted, hg]
  rw [if_pos hw]
  obtain ⟨i, h1, h2, h3, h4⟩ := info_parts K.elem
  obtain rfl : n = l.length := hown.holds.lenEq
  obtain ⟨ao, c, rfl, hcap, hc⟩ := hsrc
  have hsrc : HoldsK enc sz w (.slice ao m.length c) m := ⟨ao, c, rfl, hcap, hc⟩
  cases ao with
  | some ad =>
    obtain ⟨w', hrun, r1, r2⟩ := run_append_fits (P := P) w B t o.type e i sz ht h1 h3 g l.length cap (flat enc l) hown ad m.length c (flat enc m) (flat_length K.size m) (hsrc.cells K.size) (flat_one' K.one m) hroom
    unfold Oper.wp
    simp [execOp, hop, resolve, invoke, builtin, hs, hx, hrun, Result.andThen]
    refine hK _ _ rfl ?_ r2
    unfold OwnK
    rw [List.length_append, flat_append]; exact r1
  | none =>
    rcases hc with rfl | ⟨b, off, hc, _⟩
    · have hrun : (Builtin.append_ #[t, t] o.type #[.slice (some ⟨g, 0, none⟩) l.length cap, .slice none 0 c]).run P w = .ok (.slice (some ⟨g, 0, none⟩) l.length cap) w := by
        rcases hown.2 with ⟨hv, hn⟩ | ⟨g', cap', cur, hv, _, _, hnc, _⟩
        · cases hv
        · cases hv
          simp [Builtin.append_, run_underlying ht, sizeOf, typeInfo, h1, Builtin.lenOf, Builtin.firstCells, hnc, storeCells]
      have hx' : a.eval x = .slice none 0 c := by simpa using hx
      unfold Oper.wp
      simp [execOp, hop, resolve, invoke, builtin, hs, hx', hrun, Result.andThen]
      exact hK w l.length (by simp) (by simpa using hown) (World.grownBy.refl _ _)
    · cases hc
theorem wpList_clearPast [Inhabited α] (K : Kind P e enc z sz bytes) (hz : z.cells.toList = enc default) (hzv : ∀ w, (zeroValue e).run P w = .ok z w) {w : World} {ops : Array Oper} {rest : List Oper} {o : Oper} {a : Act} {Q : Exit → Act → World → Prop} (hgd : o.guard = none) (s : Operand)
    (ho : o.op = .call { callee := .builtin .clear, args := #[s], argTypes := #[t] }) (ht : P.underlying t = some (.slice e)) {B g n cap i k c : Nat} {l : List α} (hs : a.eval s = .slice (some ⟨g, i * sz, none⟩) k c) (hown : OwnK e enc sz B w (.slice (some ⟨g, 0, none⟩) n cap) l) (hi : i = l.length) (hk : i + k ≤ cap) (hk0 : 0 < k)
    (h : ∀ w', OwnK e enc sz B w' (.slice (some ⟨g, 0, none⟩) n cap) l → w.grownBy w' (some g) → wpList P ops Q rest (a.put o.dst (.tuple #[])) w') : wpList P ops Q (o :: rest) a w := by
  subst hi
  obtain rfl := hown.holds.lenEq
  have hown0 := hown
  rcases hown.2 with ⟨hv, _⟩ | ⟨g', cap', cur, hv, hB, hc, hnc, hmx, hks, h4⟩
  · cases hv
  cases hv
  have hzc : (Builtin.zeroCells z.cells k).toList = flat enc (List.replicate k default) := by
    rw [← madeK K.size K.pos hz k]
    unfold Builtin.zeroCells madeCells
    rw [K.zs]
  have hfl : (flat enc (List.replicate k (default : α))).length = k * sz := by rw [flat_length K.size, List.length_replicate]
  have hle : (l.length + k) * sz ≤ cap * sz := Nat.mul_le_mul_right _ hk
  rw [Nat.add_mul] at hle
  have hst := run_storeCells_at P g (l.length * sz) e (flat enc (List.replicate k default)) 0 cur w hc (by rw [hfl, hks]; omega) (flat_one' K.one _)
  rw [← hzc] at hst
  refine wpList_plain hgd fun K' hK' => ?_
  have hrun : (Builtin.clear_ #[t] o.type #[.slice (some ⟨g, l.length * sz, none⟩) k c]).run P w = .ok (.tuple #[]) (w.setRow g (cur.toList.take (l.length * sz) ++ flat enc (List.replicate k default) ++ cur.toList.drop (l.length * sz + (flat enc (List.replicate k (default : α))).length)).toArray) := by
    obtain ⟨k', rfl⟩ : ∃ k', k = k' + 1 := ⟨k - 1, by omega⟩
    rw [hzc] at hst
    simp only [Nat.add_zero] at hst
    simp [Builtin.clear_, run_underlying ht, hzv, hzc, hst]
  unfold Oper.wp
  simp [execOp, ho, resolve, invoke, builtin, hs, hrun, Result.andThen]
  refine hK' _ _ (h _ ?_ (grownBy_setRow _ _ _))
  refine ⟨hown0.1, Or.inr ⟨g, cap, _, rfl, hB, setRow_heap w g cur _ e _ hc, hnc, hmx, ?_, ?_⟩⟩
  · simp only [List.size_toArray, List.length_append, List.length_take, List.length_drop, Array.length_toList, hfl, hks]
    omega
  · show (cur.toList.take (l.length * sz) ++ (flat enc (List.replicate k default) ++ _)).take (l.length * sz) = _
    have hcl : cur.toList.length = cap * sz := by rw [Array.length_toList]; exact hks
    rw [List.take_append_of_le_length (by rw [List.length_take, hcl]; omega), List.take_take, Nat.min_self]
    exact h4
theorem holds_dropIf (hs : Sz enc sz) {w : World} {b off n cap i : Nat} {l : List α} (h : HoldsK enc sz w (.slice (some ⟨b, off, none⟩) n cap) l) (hi : i ≤ l.length) {ao : Addr} (hao : ao = ⟨b, off + i * sz, none⟩ ∨ i = l.length) : HoldsK enc sz w (.slice (some ao) (n - i) (cap - i)) (l.drop i) := by
  rcases hao with rfl | rfl
  · exact h.drop hs hi
  · obtain rfl := h.lenEq
    exact ⟨some ao, cap - l.length, by simp, by simp, Or.inl (by simp)⟩
end
end Go.Proofs.Ythfljbbigpophaa.Row
/- An entry of the content store and its parts; contracts of l1In in letters. No conditions. -/
namespace Go.Proofs.Ythfljbbigpophaa.Row
open Go.ChangeShapes Go.WideShapes Go.ChangeAt Go.RowKit Go.Instr
set_option linter.unusedVariables false
set_option maxRecDepth 100000
theorem kCe_parts {w : World} {x0 x1 x2 : Option Addr} {n0 c0 n1 c1 n2 c2 : Nat} {f s u : Int} {x : Cet} (h : kCe.At w (.agg #[.slice x0 n0 c0, .slice x1 n1 c1, .slice x2 n2 c2, .int .i64 f, .int .i64 s, .int .i64 u]) x) :
    kDz.At w (.agg #[.slice x0 n0 c0, .slice x1 n1 c1, .slice x2 n2 c2, .int .i64 f, .int .i64 s]) x.1 ∧ kN.At w (.agg #[.slice x0 n0 c0]) x.1.1 := by
  obtain ⟨a0, a1, a2, b0, b1, b2, d0, d1, d2, e, h0⟩ := kCe_at h
  simp only [Value.agg.injEq, Array.mk.injEq, List.cons.injEq, Value.slice.injEq, Value.int.injEq, and_true, true_and] at e
  obtain ⟨⟨rfl, rfl, rfl⟩, ⟨rfl, rfl, rfl⟩, ⟨rfl, rfl, rfl⟩, rfl, rfl, rfl⟩ := e
  obtain ⟨a0', a1', a2', b0', b1', b2', d0', d1', d2', e, g0, -, -⟩ := kDz_at h0
  simp only [Value.agg.injEq, Array.mk.injEq, List.cons.injEq, Value.slice.injEq, and_true] at e
  obtain ⟨⟨rfl, rfl, rfl⟩, -⟩ := e
  exact ⟨h0, g0⟩
theorem noRow_kDz (e : TypeId) (h1 : 9 ≠ e) (h2 : 5 ≠ e) : kDz.NoRow e :=
  (Kd.NoRow.slice (e' := 9) Kd.noRow_scalar h1).wrap.pair ((Kd.NoRow.slice (e' := 5) Kd.noRow_scalar h2).pair ((Kd.NoRow.slice (e' := 9) Kd.noRow_scalar h1).wrap.pair (Kd.noRow_scalar.pair Kd.noRow_scalar)))
theorem noRow_kCe : kCe.NoRow 72 := (noRow_kDz _ (by decide) (by decide)).pair Kd.noRow_scalar
theorem sInV {n a b : Int} (z : Bool) (hz : Num.inB n a b = z) {w : World} : Calls Try.prog 44 #[.int .i64 n, .int .i64 a, .int .i64 b] w fun e w' => e = .returned (.bool z) ∧ Below w.heap.size w w' := (Num.specIn n a b w).mono fun e w' ⟨p, q⟩ => ⟨by rw [p, hz], by subst q; exact Below.refl _ _⟩
theorem iInV {n a b : Int} (z : Bool) (hz : Num.inB n a b = z) {w : World} : Calls Try.prog 45 #[.int .i64 n, .int .i64 a, .int .i64 b] w fun e w' => e = .returned (.bool z) ∧ Below w.heap.size w w' := (Num.implInRange n a b w).mono fun e w' ⟨p, q⟩ => ⟨by rw [p, hz], by subst q; exact Below.refl _ _⟩
end Go.Proofs.Ythfljbbigpophaa.Row
/- The model's content store: l12Find, ValidContentStore, EqualContentStores. No conditions but that lengths fit. -/
namespace Go.Proofs.Ythfljbbigpophaa.Row
open Go.ChangeShapes Go.WideShapes Go.ChangeAt Go.RowKit Go.Instr
set_option linter.unusedVariables false
set_option maxRecDepth 100000
set_option maxRecDepth 100000 in
set_option maxHeartbeats 4000000 in
theorem rfe {Q : Exit → Act → World → Prop} {v1 v2 v4 v6 v7 v8 v9 v10 v11 v12 v13 v14 v15 v16 v17 v18 v19 v20 : Value} {w : World} {b off n c g k na ca : Nat} {xa : Option Addr} {a m : List ByteArray} {z : Bool} {xn : Option Addr} {nn cn : Nat} (hk : k < n) (hkc : k ≤ c) (hn : n ≤ 9000000) (HZ : Hid (decide (a = m) = z)) (H_a : Hid (kN.At w (.agg #[.slice xa na ca]) a)) (H_m : Hid (kN.At w (.agg #[.slice xn nn cn]) m)) (HAB : Hid (bulk a ≤ 1200000)) (HMB : Hid (bulk m ≤ 1200000)) (K0 : Hid (w.cell? ⟨g, 0, none⟩ = some (.slice xn nn cn))) (K1 : Hid (w.cell? ⟨b, off + k * 6, none⟩ = some (.slice xa na ca)))
  (hQ : ∀ (u12 u13 u14 u15 u16 u17 u18 : Value)  (wx : World), Below w.heap.size w wx → Q .normal ⟨#[.slice (some ⟨b, off, none⟩) n c, v1, v2, .pointer (some ⟨g, 0, none⟩), v4, .int .i64 k, v6, v7, v8, v9, v10, v11, u12, u13, u14, u15, u16, u17, u18, .bool z, v20], []⟩ wx) :
  (Code.region 4 #[⟨some 12, .move (.tmp 0), 22, "l12_cache.go:14", #[], none⟩,
   ⟨some 13, .move (.tmp 5), 3, "l12_cache.go:14", #[], none⟩,
   ⟨some 14, .indexAddr 22 (.tmp 12) (.tmp 13), 0, "l12_cache.go:14", #[⟨0, .data⟩, ⟨1, .data⟩], none⟩,
   ⟨some 15, .fieldAddr 72 (.tmp 14) 0, 0, "l12_cache.go:14", #[⟨2, .data⟩], none⟩,
   ⟨some 16, .fieldAddr 46 (.tmp 15) 0, 0, "l12_cache.go:14", #[⟨3, .data⟩], none⟩,
   ⟨some 17, .load 44 (.tmp 16), 44, "l12_cache.go:14", #[⟨4, .data⟩], none⟩,
   ⟨some 18, .load 44 (.tmp 3), 44, "l12_cache.go:14", #[], none⟩,
   ⟨some 19, .call ⟨.value (.func 69), #[.tmp 17, .tmp 18], #[44, 44]⟩, 4, "l12_cache.go:14", #[⟨5, .data⟩, ⟨6, .data⟩], none⟩] true).wp Try.prog Q ⟨#[.slice (some ⟨b, off, none⟩) n c, v1, v2, .pointer (some ⟨g, 0, none⟩), v4, .int .i64 k, v6, v7, v8, v9, v10, v11, v12, v13, v14, v15, v16, v17, v18, v19, v20], []⟩ w := by
 have HQ := Lib.hid hQ; clear hQ
 have hdr : Below w.heap.size w w.drew := (Below.refl _ _).drew
 have BB := Lib.hid hdr
 refine wp_region_noPanic ?_
 refine wp_region_held_drew (S := (fun w' => w'.cell? ⟨g, 0, none⟩ = some (.slice xn nn cn) ∧ w'.cell? ⟨b, off + k * 6, none⟩ = some (.slice xa na ca))) (by kernel_rfl) ?_ (fun hHeld => ?_)
 ·
  exact ⟨kc K0.out BB.out, kc K1.out BB.out⟩
 clear hdr
 generalize w.drew = wd at *
 refine wpAnyH_take (i := 0) (oi := ⟨some 12, .move (.tmp 0), 22, "l12_cache.go:14", #[], none⟩) (v := ?_) rfl (by kernel_rfl) (by kernel_rfl) (by kernel_rfl) (fun _ _ _ h => h) (Or.inl ⟨by rfl, ?_⟩) (by assumption) ?_
 rotate_left
 ·
  intro w' hSw; (try dsimp only at hSw); first | (go_simp; done) | (go_simp; with_reducible rfl)
 (try simp only [Act.put, Row.pB0, Row.pB1, Row.pB2])
 refine wpAnyH_take (i := 1) (oi := ⟨some 13, .move (.tmp 5), 3, "l12_cache.go:14", #[], none⟩) (v := ?_) rfl (by kernel_rfl) (by kernel_rfl) (by kernel_rfl) (fun _ _ _ h => h) (Or.inl ⟨by rfl, ?_⟩) (by assumption) ?_
 rotate_left
 ·
  intro w' hSw; (try dsimp only at hSw); first | (go_simp; done) | (go_simp; with_reducible rfl)
 (try simp only [Act.put, Row.pB0, Row.pB1, Row.pB2])
 refine wpAnyH_take (i := 2) (oi := ⟨some 14, .indexAddr 22 (.tmp 12) (.tmp 13), 0, "l12_cache.go:14", #[⟨0, .data⟩, ⟨1, .data⟩], none⟩) (v := ?_) rfl (by kernel_rfl) (by kernel_rfl) (by kernel_rfl) (fun _ _ _ h => h) (Or.inl ⟨by rfl, ?_⟩) (by assumption) ?_
 rotate_left
 ·
  intro w' hSw; (try dsimp only at hSw); first | (go_simp; done) | (go_simp; with_reducible rfl)
 (try simp only [Act.put, Row.pB0, Row.pB1, Row.pB2])
 refine wpAnyH_take (i := 3) (oi := ⟨some 15, .fieldAddr 72 (.tmp 14) 0, 0, "l12_cache.go:14", #[⟨2, .data⟩], none⟩) (v := ?_) rfl (by kernel_rfl) (by kernel_rfl) (by kernel_rfl) (fun _ _ _ h => h) (Or.inl ⟨by rfl, ?_⟩) (by assumption) ?_
 rotate_left
 ·
  intro w' hSw; (try dsimp only at hSw); first | (go_simp; done) | (go_simp; with_reducible rfl)
 (try simp only [Act.put, Row.pB0, Row.pB1, Row.pB2])
 refine wpAnyH_take (i := 4) (oi := ⟨some 16, .fieldAddr 46 (.tmp 15) 0, 0, "l12_cache.go:14", #[⟨3, .data⟩], none⟩) (v := ?_) rfl (by kernel_rfl) (by kernel_rfl) (by kernel_rfl) (fun _ _ _ h => h) (Or.inl ⟨by rfl, ?_⟩) (by assumption) ?_
 rotate_left
 ·
  intro w' hSw; (try dsimp only at hSw); first | (go_simp; done) | (go_simp; with_reducible rfl)
 (try simp only [Act.put, Row.pB0, Row.pB1, Row.pB2])
 refine wpAnyH_take (i := 5) (oi := ⟨some 17, .load 44 (.tmp 16), 44, "l12_cache.go:14", #[⟨4, .data⟩], none⟩) (v := ?_) rfl (by kernel_rfl) (by kernel_rfl) (by kernel_rfl) (fun _ _ _ h => h) (Or.inl ⟨by rfl, ?_⟩) (by assumption) ?_
 rotate_left
 ·
  intro w' hSw; (try dsimp only at hSw); first | (go_simp; done) | (go_simp; with_reducible rfl)
 (try simp only [Act.put, Row.pB0, Row.pB1, Row.pB2])
 refine wpAnyH_take (i := 6) (oi := ⟨some 18, .load 44 (.tmp 3), 44, "l12_cache.go:14", #[], none⟩) (v := ?_) rfl (by kernel_rfl) (by kernel_rfl) (by kernel_rfl) (fun _ _ _ h => h) (Or.inl ⟨by rfl, ?_⟩) (by assumption) ?_
 rotate_left
 ·
  intro w' hSw; (try dsimp only at hSw); first | (go_simp; done) | (go_simp; with_reducible rfl)
 (try simp only [Act.put, Row.pB0, Row.pB1, Row.pB2])
 refine wpAnyH_ready (rs := [7]) (by kernel_rfl) (by simp) ?_
 refine AllReadyH.cons (o := ⟨some 19, .call ⟨.value (.func 69), #[.tmp 17, .tmp 18], #[44, 44]⟩, 4, "l12_cache.go:14", #[⟨5, .data⟩, ⟨6, .data⟩], none⟩) rfl (fun K hK => ?_) AllReadyH.nil
 go_simp
 refine (sEqK z HZ.out (H_a.out.on BB.out) (H_m.out.on BB.out) (Nat.le_trans HAB.out (by decide)) (Nat.le_trans HMB.out (by decide))).mono ?_
 rintro e wn1 ⟨rfl, hb⟩
 replace BB := Lib.hid (BB.out.trans (hb.mono BB.out.size))
 clear hb
 (try go_wp2_with fail)
 clear hHeld
 refine hK.out _ _ ?_ (fun hHeld => ?_)
 ·
  (try dsimp only); exact ⟨kc K0.out BB.out, kc K1.out BB.out⟩
 clear hK K
 (try simp only [Act.put, Row.pB0, Row.pB1, Row.pB2])
 refine wpAnyH_done (by kernel_rfl) ?_ _
 exact NoPanic.normal (HQ.out _ _ _ _ _ _ _  _  BB.out)
set_option maxHeartbeats 4000000 in
theorem sFindE (V U : Value) (l : List Cet) (m : List ByteArray) (w : World) (z : Int) (hz : ixL (isE m) l = z) (h : kLCe.At w V l) (g : kN.At w U m) (hl : l.length ≤ 9000000) (hp : ∀ x ∈ l, wtCe x ≤ 1200000) (hm : bulk m ≤ 1200000) :
    Calls Try.prog 51 #[V, U] w fun e w' => e = .returned (.int .i64 z) ∧ Below w.heap.size w w' := by
  obtain ⟨x, n, cx, L, rfl, hn, ht, hh, hel⟩ := kLCe_at h
  have hlen : l.length = n := by rw [← ht, List.length_map]; exact hn.symm
  rw [hlen] at hl
  have hcap : n ≤ cx := by obtain ⟨x', n', cap', hv, hn', hc', -⟩ := hh.shapeN; cases hv; exact hc'
  obtain ⟨xn, nn, cn, rfl, g⟩ := kN_shapeA g
  have b1 := (Below.refl w.heap.size w).alloc (Nat.le_refl _) (.cells #[.slice xn nn cn] 44)
  have HX := Lib.hid (Ret.Blk.new w #[.slice xn nn cn] 44)
  have HG := Lib.hid (g.on b1); have HB := Lib.hid b1; have HZ := Lib.hid hz; have HM := Lib.hid hm
  have HN := Lib.hid hn; have HT := Lib.hid ht; have HH := Lib.hid hh; have HEL := Lib.hid hel; have HLEN := Lib.hid hlen; have HP := Lib.hid hp
  clear b1 g hz hm hn ht hh hel hlen hp h
  go_enter Try.func51, Try.ntmps51
  go_wp2
  go_loopw [5] (fun iv wr => ∃ i : Nat, i ≤ n ∧ iv = .int .i64 i ∧ Hid (noL (isE m) l i) ∧ Hid (Ret.Blk wr w.heap.size #[.slice xn nn cn] 44) ∧ Hid (kN.At wr (.agg #[.slice xn nn cn]) m) ∧ Hid (Below w.heap.size w wr)) (fun iv _ => n - (intOf iv).toNat)
  case atStart => exact ⟨0, Nat.zero_le _, rfl, Lib.hid (noL_zero _ _), HX, HG, HB⟩
  case round =>
    obtain ⟨k, hk, rfl, ha, hx, hg, hb⟩ := hrel
    by_cases hlt : k < n
    · have hlen := HN.out
      obtain ⟨b, off, y0, m0, d0, y1, m1, d1, y2, m2, d2, rfl, -, hc0, hc1, hc2, hc3, hc4, hc5, hA⟩ := kLCe_elem (HH.out.on hb.out) (fun y hy => kCe.holds_on (HEL.out y hy) hb.out) (j := k) (by omega)
      have hpt : nth l k = kCe.strip (nth L k) := by rw [← HT.out, nth_map _ (by omega)]
      have hps := HP.out (nth l k) (nth_mem (by have := HLEN.out; omega))
      rw [← hpt] at hA hc3 hc4 hc5
      obtain ⟨hD, hNM⟩ := kCe_parts hA
      have HA := Lib.hid hA; have HD := Lib.hid hD; have HNM := Lib.hid hNM; have HPS := Lib.hid hps; have HPD := Lib.hid (show wtDz (nth l k).1 ≤ 1200000 from hps); have HPN := Lib.hid (show bulk (nth l k).1.1 ≤ 1200000 from (wtDz_lens _ hps).1)
      have H0 := Lib.hid hc0; have H1 := Lib.hid hc1; have H2 := Lib.hid hc2; have H3 := Lib.hid hc3; have H4 := Lib.hid hc4; have H5 := Lib.hid hc5
      clear hlen hpt hps hA hD hNM
      obtain ⟨q, hq⟩ : ∃ q, decide ((nth l k).1.1 = m) = q := ⟨_, rfl⟩
      have HQ := Lib.hid hq; clear hq hc0 hc1 hc2 hc3 hc4 hc5
      go_wp2_with fail
      refine rfe hlt (by omega) hl HQ HNM hg HPN HM (Lib.hid (hx.out.cell 0)) H0 ?_
      intro u12 u13 u14 u15 u16 u17 u18 wx hbx
      have hx2 := Lib.hid (hx.out.on hbx); have hg2 := Lib.hid (hg.out.on hbx); have hb2 := Lib.hid (hb.out.trans (hbx.mono hb.out.size))
      clear hbx
      cases q with
      | true =>
        have HV := Lib.hid (show z = (k : Int) from HZ.out.symm.trans (ixL_at (by have := HLEN.out; omega) ha.out HQ.out))
        go_wp2
        go_ret
        exact ⟨ret_int HV.out.symm, hb2.out⟩
      | false =>
        have HA2 := Lib.hid (noL_succ ha.out HQ.out)
        go_wp2
        go_roundw
        case rel => exact ⟨k + 1, by omega, by go_num, HA2, hx2, hg2, hb2⟩
        case measure => simp [intOf]; omega
    · obtain rfl : k = n := by omega
      have HV := Lib.hid (show z = -1 from HZ.out.symm.trans (ixL_none (by rw [HLEN.out]; exact ha.out)))
      clear hlt
      go_wp2
      go_ret
      exact ⟨ret_int HV.out.symm, hb.out⟩
set_option maxRecDepth 100000 in
set_option maxHeartbeats 4000000 in
theorem rvc0 {Q : Exit → Act → World → Prop} {v0 v2 v4 v5 v6 v7 v8 v9 v10 v11 v12 v13 v14 v15 v16 v17 v18 v19 v20 v21 v22 v23 v24 v25 v26 v27 v28 v29 v30 v31 v32 v33 v34 v35 v36 v37 v38 v39 v40 v41 v42 v43 v44 : Value} {w : World} {b off n c g k na ca nb cb nc cc : Nat} {xa xb xc : Option Addr} {f s : Int} {d : Dzt}   (hk : k < n) (hkc : k ≤ c) (hn : n ≤ 9000000) (HV : Hid (validD d = false)) (H_d : Hid (kDz.At w (.agg #[.slice xa na ca, .slice xb nb cb, .slice xc nc cc, .int .i64 f, .int .i64 s]) d)) (HDB : Hid (wtDz d ≤ 1200000)) (K0 : Hid (w.cell? ⟨g, 1, none⟩ = some (.slice (some ⟨b, off, none⟩) n c))) (E0 : Hid (w.cell? ⟨b, off + k * 6, none⟩ = some (.slice xa na ca))) (E1 : Hid (w.cell? ⟨b, off + k * 6 + 1, none⟩ = some (.slice xb nb cb))) (E2 : Hid (w.cell? ⟨b, off + k * 6 + 2, none⟩ = some (.slice xc nc cc))) (E3 : Hid (w.cell? ⟨b, off + k * 6 + 3, none⟩ = some (.int .i64 f))) (E4 : Hid (w.cell? ⟨b, off + k * 6 + 4, none⟩ = some (.int .i64 s)))
  (hQ : ∀ (u11 u12 u13 u14 u15 u16 u17 u18 u19 u20 u21 u22 u23 u24 u25 u26 u27 u28 u29 u30 u31 u32 : Value)  (wx : World), Below w.heap.size w wx → Q .normal ⟨#[v0, .pointer (some ⟨g, 0, none⟩), v2, .int .i64 k, v4, v5, v6, v7, v8, v9, v10, u11, u12, u13, u14, u15, u16, u17, u18, u19, u20, u21, u22, u23, u24, u25, u26, u27, u28, u29, u30, u31, u32, .bool true, v34, v35, v36, v37, v38, v39, v40, v41, v42, v43, v44], []⟩ wx) :
  (Code.region 4 #[⟨some 11, .fieldAddr 24 (.tmp 1) 1, 0, "l12_cache.go:23", #[], none⟩,
   ⟨some 12, .load 22 (.tmp 11), 22, "l12_cache.go:23", #[⟨0, .data⟩], none⟩,
   ⟨some 13, .move (.tmp 3), 3, "l12_cache.go:23", #[], none⟩,
   ⟨some 14, .indexAddr 22 (.tmp 12) (.tmp 13), 0, "l12_cache.go:23", #[⟨1, .data⟩, ⟨2, .data⟩], none⟩,
   ⟨some 15, .fieldAddr 72 (.tmp 14) 0, 0, "l12_cache.go:23", #[⟨3, .data⟩], none⟩,
   ⟨some 16, .load 46 (.tmp 15), 46, "l12_cache.go:23", #[⟨4, .data⟩], none⟩,
   ⟨some 17, .call ⟨.value (.func 50), #[.tmp 16], #[46]⟩, 4, "l12_cache.go:23", #[⟨5, .data⟩], none⟩,
   ⟨some 18, .unOp UnOp.not 4 (.tmp 17), 4, "l12_cache.go:23", #[⟨6, .data⟩], none⟩,
   ⟨some 19, .move (.tmp 18), 4, "l12_cache.go:23", #[⟨7, .data⟩, ⟨6, .chain⟩], none⟩,
   ⟨some 20, .fieldAddr 24 (.tmp 1) 1, 0, "l12_cache.go:23", #[⟨8, .guard⟩], some (8, false)⟩,
   ⟨some 21, .load 22 (.tmp 20), 22, "l12_cache.go:23", #[⟨9, .data⟩, ⟨8, .guard⟩], some (8, false)⟩,
   ⟨some 22, .move (.tmp 3), 3, "l12_cache.go:23", #[⟨8, .guard⟩], some (8, false)⟩,
   ⟨some 23, .slice 22 (.tmp 21) none (some (.tmp 22)) none, 22, "l12_cache.go:23", #[⟨10, .data⟩, ⟨11, .data⟩, ⟨8, .guard⟩], some (8, false)⟩,
   ⟨some 24, .fieldAddr 24 (.tmp 1) 1, 0, "l12_cache.go:23", #[⟨8, .guard⟩], some (8, false)⟩,
   ⟨some 25, .load 22 (.tmp 24), 22, "l12_cache.go:23", #[⟨13, .data⟩, ⟨8, .guard⟩], some (8, false)⟩,
   ⟨some 26, .move (.tmp 3), 3, "l12_cache.go:23", #[⟨8, .guard⟩], some (8, false)⟩,
   ⟨some 27, .indexAddr 22 (.tmp 25) (.tmp 26), 0, "l12_cache.go:23", #[⟨14, .data⟩, ⟨15, .data⟩, ⟨8, .guard⟩], some (8, false)⟩,
   ⟨some 28, .fieldAddr 72 (.tmp 27) 0, 0, "l12_cache.go:23", #[⟨16, .data⟩, ⟨8, .guard⟩], some (8, false)⟩,
   ⟨some 29, .fieldAddr 46 (.tmp 28) 0, 0, "l12_cache.go:23", #[⟨17, .data⟩, ⟨8, .guard⟩], some (8, false)⟩,
   ⟨some 30, .load 44 (.tmp 29), 44, "l12_cache.go:23", #[⟨18, .data⟩, ⟨8, .guard⟩], some (8, false)⟩,
   ⟨some 31, .call ⟨.value (.func 51), #[.tmp 23, .tmp 30], #[22, 44]⟩, 3, "l12_cache.go:23", #[⟨12, .data⟩, ⟨19, .data⟩, ⟨8, .chain⟩, ⟨8, .guard⟩], some (8, false)⟩,
   ⟨some 32, .binOp BinOp.geq 3 (.tmp 31) (.const (Value.int IntKind.i64 0)) 3, 4, "l12_cache.go:23", #[⟨20, .data⟩, ⟨8, .guard⟩], some (8, false)⟩,
   ⟨some 33, .pick (.tmp 19) (.const (Value.bool true)) (.tmp 32), 4, "l12_cache.go:23", #[⟨8, .data⟩, ⟨21, .data⟩], none⟩] true).wp Try.prog Q ⟨#[v0, .pointer (some ⟨g, 0, none⟩), v2, .int .i64 k, v4, v5, v6, v7, v8, v9, v10, v11, v12, v13, v14, v15, v16, v17, v18, v19, v20, v21, v22, v23, v24, v25, v26, v27, v28, v29, v30, v31, v32, v33, v34, v35, v36, v37, v38, v39, v40, v41, v42, v43, v44], []⟩ w := by
 have HQ := Lib.hid hQ; clear hQ
 have hdr : Below w.heap.size w w.drew := (Below.refl _ _).drew
 have BB := Lib.hid hdr
 refine wp_region_noPanic ?_
 refine wp_region_held_drew (S := (fun w' => w'.cell? ⟨g, 1, none⟩ = some (.slice (some ⟨b, off, none⟩) n c) ∧ w'.cell? ⟨b, off + k * 6, none⟩ = some (.slice xa na ca) ∧ w'.cell? ⟨b, off + k * 6 + 1, none⟩ = some (.slice xb nb cb) ∧ w'.cell? ⟨b, off + k * 6 + 2, none⟩ = some (.slice xc nc cc) ∧ w'.cell? ⟨b, off + k * 6 + 3, none⟩ = some (.int .i64 f) ∧ w'.cell? ⟨b, off + k * 6 + 4, none⟩ = some (.int .i64 s))) (by kernel_rfl) ?_ (fun hHeld => ?_)
 ·
  exact ⟨kc K0.out BB.out, kc E0.out BB.out, kc E1.out BB.out, kc E2.out BB.out, kc E3.out BB.out, kc E4.out BB.out⟩
 clear hdr
 generalize w.drew = wd at *
 refine wpAnyH_take (i := 0) (oi := ⟨some 11, .fieldAddr 24 (.tmp 1) 1, 0, "l12_cache.go:23", #[], none⟩) (v := ?_) rfl (by kernel_rfl) (by kernel_rfl) (by kernel_rfl) (fun _ _ _ h => h) (Or.inl ⟨by rfl, ?_⟩) (by assumption) ?_
 rotate_left
 ·
  intro w' hSw; (try dsimp only at hSw); first | (go_simp; done) | (go_simp; with_reducible rfl)
 (try simp only [Act.put, Row.pB0, Row.pB1, Row.pB2])
 refine wpAnyH_take (i := 1) (oi := ⟨some 12, .load 22 (.tmp 11), 22, "l12_cache.go:23", #[⟨0, .data⟩], none⟩) (v := ?_) rfl (by kernel_rfl) (by kernel_rfl) (by kernel_rfl) (fun _ _ _ h => h) (Or.inl ⟨by rfl, ?_⟩) (by assumption) ?_
 rotate_left
 ·
  intro w' hSw; (try dsimp only at hSw); first | (go_simp; done) | (go_simp; with_reducible rfl)
 (try simp only [Act.put, Row.pB0, Row.pB1, Row.pB2])
 refine wpAnyH_take (i := 2) (oi := ⟨some 13, .move (.tmp 3), 3, "l12_cache.go:23", #[], none⟩) (v := ?_) rfl (by kernel_rfl) (by kernel_rfl) (by kernel_rfl) (fun _ _ _ h => h) (Or.inl ⟨by rfl, ?_⟩) (by assumption) ?_
 rotate_left
 ·
  intro w' hSw; (try dsimp only at hSw); first | (go_simp; done) | (go_simp; with_reducible rfl)
 (try simp only [Act.put, Row.pB0, Row.pB1, Row.pB2])
 refine wpAnyH_take (i := 3) (oi := ⟨some 14, .indexAddr 22 (.tmp 12) (.tmp 13), 0, "l12_cache.go:23", #[⟨1, .data⟩, ⟨2, .data⟩], none⟩) (v := ?_) rfl (by kernel_rfl) (by kernel_rfl) (by kernel_rfl) (fun _ _ _ h => h) (Or.inl ⟨by rfl, ?_⟩) (by assumption) ?_
 rotate_left
 ·
  intro w' hSw; (try dsimp only at hSw); first | (go_simp; done) | (go_simp; with_reducible rfl)
 (try simp only [Act.put, Row.pB0, Row.pB1, Row.pB2])
 refine wpAnyH_take (i := 4) (oi := ⟨some 15, .fieldAddr 72 (.tmp 14) 0, 0, "l12_cache.go:23", #[⟨3, .data⟩], none⟩) (v := ?_) rfl (by kernel_rfl) (by kernel_rfl) (by kernel_rfl) (fun _ _ _ h => h) (Or.inl ⟨by rfl, ?_⟩) (by assumption) ?_
 rotate_left
 ·
  intro w' hSw; (try dsimp only at hSw); first | (go_simp; done) | (go_simp; with_reducible rfl)
 (try simp only [Act.put, Row.pB0, Row.pB1, Row.pB2])
 refine wpAnyH_take (i := 5) (oi := ⟨some 16, .load 46 (.tmp 15), 46, "l12_cache.go:23", #[⟨4, .data⟩], none⟩) (v := ?_) rfl (by kernel_rfl) (by kernel_rfl) (by kernel_rfl) (fun _ _ _ h => h) (Or.inl ⟨by rfl, ?_⟩) (by assumption) ?_
 rotate_left
 ·
  intro w' hSw; (try dsimp only at hSw); first | (go_simp; done) | (go_simp; with_reducible rfl)
 (try simp only [Act.put, Row.pB0, Row.pB1, Row.pB2])
 refine wpAnyH_ready (rs := [6]) (by kernel_rfl) (by simp) ?_
 refine AllReadyH.cons (o := ⟨some 17, .call ⟨.value (.func 50), #[.tmp 16], #[46]⟩, 4, "l12_cache.go:23", #[⟨5, .data⟩], none⟩) rfl (fun K hK => ?_) AllReadyH.nil
 go_simp
 refine (sValZ false HV.out (H_d.out.on BB.out) (Nat.le_trans HDB.out (by decide))).mono ?_
 rintro e wn1 ⟨rfl, hb⟩
 replace BB := Lib.hid (BB.out.trans (hb.mono BB.out.size))
 clear hb
 (try go_wp2_with fail)
 clear hHeld
 refine hK.out _ _ ?_ (fun hHeld => ?_)
 ·
  (try dsimp only); exact ⟨kc K0.out BB.out, kc E0.out BB.out, kc E1.out BB.out, kc E2.out BB.out, kc E3.out BB.out, kc E4.out BB.out⟩
 clear hK K
 (try simp only [Act.put, Row.pB0, Row.pB1, Row.pB2])
 refine wpAnyH_take (i := 7) (oi := ⟨some 18, .unOp UnOp.not 4 (.tmp 17), 4, "l12_cache.go:23", #[⟨6, .data⟩], none⟩) (v := ?_) rfl (by kernel_rfl) (by kernel_rfl) (by kernel_rfl) (fun _ _ _ h => h) (Or.inl ⟨by rfl, ?_⟩) (by assumption) ?_
 rotate_left
 ·
  intro w' hSw; (try dsimp only at hSw); first | (go_simp; done) | (go_simp; with_reducible rfl)
 (try simp only [Act.put, Row.pB0, Row.pB1, Row.pB2])
 refine wpAnyH_take (i := 8) (oi := ⟨some 19, .move (.tmp 18), 4, "l12_cache.go:23", #[⟨7, .data⟩, ⟨6, .chain⟩], none⟩) (v := ?_) rfl (by kernel_rfl) (by kernel_rfl) (by kernel_rfl) (fun _ _ _ h => h) (Or.inl ⟨by rfl, ?_⟩) (by assumption) ?_
 rotate_left
 ·
  intro w' hSw; (try dsimp only at hSw); first | (go_simp; done) | (go_simp; with_reducible rfl)
 (try simp only [Act.put, Row.pB0, Row.pB1, Row.pB2])
 refine wpAnyH_take (i := 9) (oi := ⟨some 20, .fieldAddr 24 (.tmp 1) 1, 0, "l12_cache.go:23", #[⟨8, .guard⟩], some (8, false)⟩) (v := undef) rfl (by kernel_rfl) (by kernel_rfl) (by kernel_rfl) (fun _ _ _ h => h) (Or.inr ⟨by rfl, rfl⟩) (by assumption) ?_
 (try simp only [Act.put, Row.pB0, Row.pB1, Row.pB2])
 refine wpAnyH_take (i := 10) (oi := ⟨some 21, .load 22 (.tmp 20), 22, "l12_cache.go:23", #[⟨9, .data⟩, ⟨8, .guard⟩], some (8, false)⟩) (v := undef) rfl (by kernel_rfl) (by kernel_rfl) (by kernel_rfl) (fun _ _ _ h => h) (Or.inr ⟨by rfl, rfl⟩) (by assumption) ?_
 (try simp only [Act.put, Row.pB0, Row.pB1, Row.pB2])
 refine wpAnyH_take (i := 11) (oi := ⟨some 22, .move (.tmp 3), 3, "l12_cache.go:23", #[⟨8, .guard⟩], some (8, false)⟩) (v := undef) rfl (by kernel_rfl) (by kernel_rfl) (by kernel_rfl) (fun _ _ _ h => h) (Or.inr ⟨by rfl, rfl⟩) (by assumption) ?_
 (try simp only [Act.put, Row.pB0, Row.pB1, Row.pB2])
 refine wpAnyH_take (i := 12) (oi := ⟨some 23, .slice 22 (.tmp 21) none (some (.tmp 22)) none, 22, "l12_cache.go:23", #[⟨10, .data⟩, ⟨11, .data⟩, ⟨8, .guard⟩], some (8, false)⟩) (v := undef) rfl (by kernel_rfl) (by kernel_rfl) (by kernel_rfl) (fun _ _ _ h => h) (Or.inr ⟨by rfl, rfl⟩) (by assumption) ?_
 (try simp only [Act.put, Row.pB0, Row.pB1, Row.pB2])
 refine wpAnyH_take (i := 13) (oi := ⟨some 24, .fieldAddr 24 (.tmp 1) 1, 0, "l12_cache.go:23", #[⟨8, .guard⟩], some (8, false)⟩) (v := undef) rfl (by kernel_rfl) (by kernel_rfl) (by kernel_rfl) (fun _ _ _ h => h) (Or.inr ⟨by rfl, rfl⟩) (by assumption) ?_
 (try simp only [Act.put, Row.pB0, Row.pB1, Row.pB2])
 refine wpAnyH_take (i := 14) (oi := ⟨some 25, .load 22 (.tmp 24), 22, "l12_cache.go:23", #[⟨13, .data⟩, ⟨8, .guard⟩], some (8, false)⟩) (v := undef) rfl (by kernel_rfl) (by kernel_rfl) (by kernel_rfl) (fun _ _ _ h => h) (Or.inr ⟨by rfl, rfl⟩) (by assumption) ?_
 (try simp only [Act.put, Row.pB0, Row.pB1, Row.pB2])
 refine wpAnyH_take (i := 15) (oi := ⟨some 26, .move (.tmp 3), 3, "l12_cache.go:23", #[⟨8, .guard⟩], some (8, false)⟩) (v := undef) rfl (by kernel_rfl) (by kernel_rfl) (by kernel_rfl) (fun _ _ _ h => h) (Or.inr ⟨by rfl, rfl⟩) (by assumption) ?_
 (try simp only [Act.put, Row.pB0, Row.pB1, Row.pB2])
 refine wpAnyH_take (i := 16) (oi := ⟨some 27, .indexAddr 22 (.tmp 25) (.tmp 26), 0, "l12_cache.go:23", #[⟨14, .data⟩, ⟨15, .data⟩, ⟨8, .guard⟩], some (8, false)⟩) (v := undef) rfl (by kernel_rfl) (by kernel_rfl) (by kernel_rfl) (fun _ _ _ h => h) (Or.inr ⟨by rfl, rfl⟩) (by assumption) ?_
 (try simp only [Act.put, Row.pB0, Row.pB1, Row.pB2])
 refine wpAnyH_take (i := 17) (oi := ⟨some 28, .fieldAddr 72 (.tmp 27) 0, 0, "l12_cache.go:23", #[⟨16, .data⟩, ⟨8, .guard⟩], some (8, false)⟩) (v := undef) rfl (by kernel_rfl) (by kernel_rfl) (by kernel_rfl) (fun _ _ _ h => h) (Or.inr ⟨by rfl, rfl⟩) (by assumption) ?_
 (try simp only [Act.put, Row.pB0, Row.pB1, Row.pB2])
 refine wpAnyH_take (i := 18) (oi := ⟨some 29, .fieldAddr 46 (.tmp 28) 0, 0, "l12_cache.go:23", #[⟨17, .data⟩, ⟨8, .guard⟩], some (8, false)⟩) (v := undef) rfl (by kernel_rfl) (by kernel_rfl) (by kernel_rfl) (fun _ _ _ h => h) (Or.inr ⟨by rfl, rfl⟩) (by assumption) ?_
 (try simp only [Act.put, Row.pB0, Row.pB1, Row.pB2])
 refine wpAnyH_take (i := 19) (oi := ⟨some 30, .load 44 (.tmp 29), 44, "l12_cache.go:23", #[⟨18, .data⟩, ⟨8, .guard⟩], some (8, false)⟩) (v := undef) rfl (by kernel_rfl) (by kernel_rfl) (by kernel_rfl) (fun _ _ _ h => h) (Or.inr ⟨by rfl, rfl⟩) (by assumption) ?_
 (try simp only [Act.put, Row.pB0, Row.pB1, Row.pB2])
 refine wpAnyH_take (i := 20) (oi := ⟨some 31, .call ⟨.value (.func 51), #[.tmp 23, .tmp 30], #[22, 44]⟩, 3, "l12_cache.go:23", #[⟨12, .data⟩, ⟨19, .data⟩, ⟨8, .chain⟩, ⟨8, .guard⟩], some (8, false)⟩) (v := undef) rfl (by kernel_rfl) (by kernel_rfl) (by kernel_rfl) (fun _ _ _ h => h) (Or.inr ⟨by rfl, rfl⟩) (by assumption) ?_
 (try simp only [Act.put, Row.pB0, Row.pB1, Row.pB2])
 refine wpAnyH_take (i := 21) (oi := ⟨some 32, .binOp BinOp.geq 3 (.tmp 31) (.const (Value.int IntKind.i64 0)) 3, 4, "l12_cache.go:23", #[⟨20, .data⟩, ⟨8, .guard⟩], some (8, false)⟩) (v := undef) rfl (by kernel_rfl) (by kernel_rfl) (by kernel_rfl) (fun _ _ _ h => h) (Or.inr ⟨by rfl, rfl⟩) (by assumption) ?_
 (try simp only [Act.put, Row.pB0, Row.pB1, Row.pB2])
 refine wpAnyH_take (i := 22) (oi := ⟨some 33, .pick (.tmp 19) (.const (Value.bool true)) (.tmp 32), 4, "l12_cache.go:23", #[⟨8, .data⟩, ⟨21, .data⟩], none⟩) (v := ?_) rfl (by kernel_rfl) (by kernel_rfl) (by kernel_rfl) (fun _ _ _ h => h) (Or.inl ⟨by rfl, ?_⟩) (by assumption) ?_
 rotate_left
 ·
  intro w' hSw; (try dsimp only at hSw); first | (go_simp; done) | (go_simp; with_reducible rfl)
 (try simp only [Act.put, Row.pB0, Row.pB1, Row.pB2])
 refine wpAnyH_done (by kernel_rfl) ?_ _
 exact NoPanic.normal (HQ.out _ _ _ _ _ _ _ _ _ _ _ _ _ _ _ _ _ _ _ _ _ _  _  BB.out)
set_option maxRecDepth 100000 in
set_option maxHeartbeats 4000000 in
theorem rvc1 {Q : Exit → Act → World → Prop} {v0 v2 v4 v5 v6 v7 v8 v9 v10 v11 v12 v13 v14 v15 v16 v17 v18 v19 v20 v21 v22 v23 v24 v25 v26 v27 v28 v29 v30 v31 v32 v33 v34 v35 v36 v37 v38 v39 v40 v41 v42 v43 v44 : Value} {w : World} {b off n c g k na ca nb cb nc cc : Nat} {xa xb xc : Option Addr} {f s : Int} {d : Dzt} {l : List Cet} {r : Int} (hk : k < n) (hkc : k ≤ c) (hn : n ≤ 9000000) (HV : Hid (validD d = true)) (H_d : Hid (kDz.At w (.agg #[.slice xa na ca, .slice xb nb cb, .slice xc nc cc, .int .i64 f, .int .i64 s]) d)) (HDB : Hid (wtDz d ≤ 1200000)) (H_a : Hid (kN.At w (.agg #[.slice xa na ca]) d.1)) (HAB : Hid (bulk d.1 ≤ 1200000)) (HR : Hid (ixL (isE d.1) (l.take k) = r)) (H_l : Hid (kLCe.At w (.slice (some ⟨b, off, none⟩) k c) (l.take k))) (HLL : Hid ((l.take k).length ≤ 9000000)) (HLP : Hid (∀ x ∈ l.take k, wtCe x ≤ 1200000)) (K0 : Hid (w.cell? ⟨g, 1, none⟩ = some (.slice (some ⟨b, off, none⟩) n c))) (E0 : Hid (w.cell? ⟨b, off + k * 6, none⟩ = some (.slice xa na ca))) (E1 : Hid (w.cell? ⟨b, off + k * 6 + 1, none⟩ = some (.slice xb nb cb))) (E2 : Hid (w.cell? ⟨b, off + k * 6 + 2, none⟩ = some (.slice xc nc cc))) (E3 : Hid (w.cell? ⟨b, off + k * 6 + 3, none⟩ = some (.int .i64 f))) (E4 : Hid (w.cell? ⟨b, off + k * 6 + 4, none⟩ = some (.int .i64 s)))
  (hQ : ∀ (u11 u12 u13 u14 u15 u16 u17 u18 u19 u20 u21 u22 u23 u24 u25 u26 u27 u28 u29 u30 u31 u32 : Value)  (wx : World), Below w.heap.size w wx → Q .normal ⟨#[v0, .pointer (some ⟨g, 0, none⟩), v2, .int .i64 k, v4, v5, v6, v7, v8, v9, v10, u11, u12, u13, u14, u15, u16, u17, u18, u19, u20, u21, u22, u23, u24, u25, u26, u27, u28, u29, u30, u31, u32, .bool (decide (0 ≤ r)), v34, v35, v36, v37, v38, v39, v40, v41, v42, v43, v44], []⟩ wx) :
  (Code.region 4 #[⟨some 11, .fieldAddr 24 (.tmp 1) 1, 0, "l12_cache.go:23", #[], none⟩,
   ⟨some 12, .load 22 (.tmp 11), 22, "l12_cache.go:23", #[⟨0, .data⟩], none⟩,
   ⟨some 13, .move (.tmp 3), 3, "l12_cache.go:23", #[], none⟩,
   ⟨some 14, .indexAddr 22 (.tmp 12) (.tmp 13), 0, "l12_cache.go:23", #[⟨1, .data⟩, ⟨2, .data⟩], none⟩,
   ⟨some 15, .fieldAddr 72 (.tmp 14) 0, 0, "l12_cache.go:23", #[⟨3, .data⟩], none⟩,
   ⟨some 16, .load 46 (.tmp 15), 46, "l12_cache.go:23", #[⟨4, .data⟩], none⟩,
   ⟨some 17, .call ⟨.value (.func 50), #[.tmp 16], #[46]⟩, 4, "l12_cache.go:23", #[⟨5, .data⟩], none⟩,
   ⟨some 18, .unOp UnOp.not 4 (.tmp 17), 4, "l12_cache.go:23", #[⟨6, .data⟩], none⟩,
   ⟨some 19, .move (.tmp 18), 4, "l12_cache.go:23", #[⟨7, .data⟩, ⟨6, .chain⟩], none⟩,
   ⟨some 20, .fieldAddr 24 (.tmp 1) 1, 0, "l12_cache.go:23", #[⟨8, .guard⟩], some (8, false)⟩,
   ⟨some 21, .load 22 (.tmp 20), 22, "l12_cache.go:23", #[⟨9, .data⟩, ⟨8, .guard⟩], some (8, false)⟩,
   ⟨some 22, .move (.tmp 3), 3, "l12_cache.go:23", #[⟨8, .guard⟩], some (8, false)⟩,
   ⟨some 23, .slice 22 (.tmp 21) none (some (.tmp 22)) none, 22, "l12_cache.go:23", #[⟨10, .data⟩, ⟨11, .data⟩, ⟨8, .guard⟩], some (8, false)⟩,
   ⟨some 24, .fieldAddr 24 (.tmp 1) 1, 0, "l12_cache.go:23", #[⟨8, .guard⟩], some (8, false)⟩,
   ⟨some 25, .load 22 (.tmp 24), 22, "l12_cache.go:23", #[⟨13, .data⟩, ⟨8, .guard⟩], some (8, false)⟩,
   ⟨some 26, .move (.tmp 3), 3, "l12_cache.go:23", #[⟨8, .guard⟩], some (8, false)⟩,
   ⟨some 27, .indexAddr 22 (.tmp 25) (.tmp 26), 0, "l12_cache.go:23", #[⟨14, .data⟩, ⟨15, .data⟩, ⟨8, .guard⟩], some (8, false)⟩,
   ⟨some 28, .fieldAddr 72 (.tmp 27) 0, 0, "l12_cache.go:23", #[⟨16, .data⟩, ⟨8, .guard⟩], some (8, false)⟩,
   ⟨some 29, .fieldAddr 46 (.tmp 28) 0, 0, "l12_cache.go:23", #[⟨17, .data⟩, ⟨8, .guard⟩], some (8, false)⟩,
   ⟨some 30, .load 44 (.tmp 29), 44, "l12_cache.go:23", #[⟨18, .data⟩, ⟨8, .guard⟩], some (8, false)⟩,
   ⟨some 31, .call ⟨.value (.func 51), #[.tmp 23, .tmp 30], #[22, 44]⟩, 3, "l12_cache.go:23", #[⟨12, .data⟩, ⟨19, .data⟩, ⟨8, .chain⟩, ⟨8, .guard⟩], some (8, false)⟩,
   ⟨some 32, .binOp BinOp.geq 3 (.tmp 31) (.const (Value.int IntKind.i64 0)) 3, 4, "l12_cache.go:23", #[⟨20, .data⟩, ⟨8, .guard⟩], some (8, false)⟩,
   ⟨some 33, .pick (.tmp 19) (.const (Value.bool true)) (.tmp 32), 4, "l12_cache.go:23", #[⟨8, .data⟩, ⟨21, .data⟩], none⟩] true).wp Try.prog Q ⟨#[v0, .pointer (some ⟨g, 0, none⟩), v2, .int .i64 k, v4, v5, v6, v7, v8, v9, v10, v11, v12, v13, v14, v15, v16, v17, v18, v19, v20, v21, v22, v23, v24, v25, v26, v27, v28, v29, v30, v31, v32, v33, v34, v35, v36, v37, v38, v39, v40, v41, v42, v43, v44], []⟩ w := by
 have HQ := Lib.hid hQ; clear hQ
 have hdr : Below w.heap.size w w.drew := (Below.refl _ _).drew
 have BB := Lib.hid hdr
 refine wp_region_noPanic ?_
 refine wp_region_held_drew (S := (fun w' => w'.cell? ⟨g, 1, none⟩ = some (.slice (some ⟨b, off, none⟩) n c) ∧ w'.cell? ⟨b, off + k * 6, none⟩ = some (.slice xa na ca) ∧ w'.cell? ⟨b, off + k * 6 + 1, none⟩ = some (.slice xb nb cb) ∧ w'.cell? ⟨b, off + k * 6 + 2, none⟩ = some (.slice xc nc cc) ∧ w'.cell? ⟨b, off + k * 6 + 3, none⟩ = some (.int .i64 f) ∧ w'.cell? ⟨b, off + k * 6 + 4, none⟩ = some (.int .i64 s))) (by kernel_rfl) ?_ (fun hHeld => ?_)
 ·
  exact ⟨kc K0.out BB.out, kc E0.out BB.out, kc E1.out BB.out, kc E2.out BB.out, kc E3.out BB.out, kc E4.out BB.out⟩
 clear hdr
 generalize w.drew = wd at *
 refine wpAnyH_take (i := 0) (oi := ⟨some 11, .fieldAddr 24 (.tmp 1) 1, 0, "l12_cache.go:23", #[], none⟩) (v := ?_) rfl (by kernel_rfl) (by kernel_rfl) (by kernel_rfl) (fun _ _ _ h => h) (Or.inl ⟨by rfl, ?_⟩) (by assumption) ?_
 rotate_left
 ·
  intro w' hSw; (try dsimp only at hSw); first | (go_simp; done) | (go_simp; with_reducible rfl)
 (try simp only [Act.put, Row.pB0, Row.pB1, Row.pB2])
 refine wpAnyH_take (i := 1) (oi := ⟨some 12, .load 22 (.tmp 11), 22, "l12_cache.go:23", #[⟨0, .data⟩], none⟩) (v := ?_) rfl (by kernel_rfl) (by kernel_rfl) (by kernel_rfl) (fun _ _ _ h => h) (Or.inl ⟨by rfl, ?_⟩) (by assumption) ?_
 rotate_left
 ·
  intro w' hSw; (try dsimp only at hSw); first | (go_simp; done) | (go_simp; with_reducible rfl)
 (try simp only [Act.put, Row.pB0, Row.pB1, Row.pB2])
 refine wpAnyH_take (i := 2) (oi := ⟨some 13, .move (.tmp 3), 3, "l12_cache.go:23", #[], none⟩) (v := ?_) rfl (by kernel_rfl) (by kernel_rfl) (by kernel_rfl) (fun _ _ _ h => h) (Or.inl ⟨by rfl, ?_⟩) (by assumption) ?_
 rotate_left
 ·
  intro w' hSw; (try dsimp only at hSw); first | (go_simp; done) | (go_simp; with_reducible rfl)
 (try simp only [Act.put, Row.pB0, Row.pB1, Row.pB2])
 refine wpAnyH_take (i := 3) (oi := ⟨some 14, .indexAddr 22 (.tmp 12) (.tmp 13), 0, "l12_cache.go:23", #[⟨1, .data⟩, ⟨2, .data⟩], none⟩) (v := ?_) rfl (by kernel_rfl) (by kernel_rfl) (by kernel_rfl) (fun _ _ _ h => h) (Or.inl ⟨by rfl, ?_⟩) (by assumption) ?_
 rotate_left
 ·
  intro w' hSw; (try dsimp only at hSw); first | (go_simp; done) | (go_simp; with_reducible rfl)
 (try simp only [Act.put, Row.pB0, Row.pB1, Row.pB2])
 refine wpAnyH_take (i := 4) (oi := ⟨some 15, .fieldAddr 72 (.tmp 14) 0, 0, "l12_cache.go:23", #[⟨3, .data⟩], none⟩) (v := ?_) rfl (by kernel_rfl) (by kernel_rfl) (by kernel_rfl) (fun _ _ _ h => h) (Or.inl ⟨by rfl, ?_⟩) (by assumption) ?_
 rotate_left
 ·
  intro w' hSw; (try dsimp only at hSw); first | (go_simp; done) | (go_simp; with_reducible rfl)
 (try simp only [Act.put, Row.pB0, Row.pB1, Row.pB2])
 refine wpAnyH_take (i := 5) (oi := ⟨some 16, .load 46 (.tmp 15), 46, "l12_cache.go:23", #[⟨4, .data⟩], none⟩) (v := ?_) rfl (by kernel_rfl) (by kernel_rfl) (by kernel_rfl) (fun _ _ _ h => h) (Or.inl ⟨by rfl, ?_⟩) (by assumption) ?_
 rotate_left
 ·
  intro w' hSw; (try dsimp only at hSw); first | (go_simp; done) | (go_simp; with_reducible rfl)
 (try simp only [Act.put, Row.pB0, Row.pB1, Row.pB2])
 refine wpAnyH_ready (rs := [6]) (by kernel_rfl) (by simp) ?_
 refine AllReadyH.cons (o := ⟨some 17, .call ⟨.value (.func 50), #[.tmp 16], #[46]⟩, 4, "l12_cache.go:23", #[⟨5, .data⟩], none⟩) rfl (fun K hK => ?_) AllReadyH.nil
 go_simp
 refine (sValZ true HV.out (H_d.out.on BB.out) (Nat.le_trans HDB.out (by decide))).mono ?_
 rintro e wn1 ⟨rfl, hb⟩
 replace BB := Lib.hid (BB.out.trans (hb.mono BB.out.size))
 clear hb
 (try go_wp2_with fail)
 clear hHeld
 refine hK.out _ _ ?_ (fun hHeld => ?_)
 ·
  (try dsimp only); exact ⟨kc K0.out BB.out, kc E0.out BB.out, kc E1.out BB.out, kc E2.out BB.out, kc E3.out BB.out, kc E4.out BB.out⟩
 clear hK K
 (try simp only [Act.put, Row.pB0, Row.pB1, Row.pB2])
 refine wpAnyH_take (i := 7) (oi := ⟨some 18, .unOp UnOp.not 4 (.tmp 17), 4, "l12_cache.go:23", #[⟨6, .data⟩], none⟩) (v := ?_) rfl (by kernel_rfl) (by kernel_rfl) (by kernel_rfl) (fun _ _ _ h => h) (Or.inl ⟨by rfl, ?_⟩) (by assumption) ?_
 rotate_left
 ·
  intro w' hSw; (try dsimp only at hSw); first | (go_simp; done) | (go_simp; with_reducible rfl)
 (try simp only [Act.put, Row.pB0, Row.pB1, Row.pB2])
 refine wpAnyH_take (i := 8) (oi := ⟨some 19, .move (.tmp 18), 4, "l12_cache.go:23", #[⟨7, .data⟩, ⟨6, .chain⟩], none⟩) (v := ?_) rfl (by kernel_rfl) (by kernel_rfl) (by kernel_rfl) (fun _ _ _ h => h) (Or.inl ⟨by rfl, ?_⟩) (by assumption) ?_
 rotate_left
 ·
  intro w' hSw; (try dsimp only at hSw); first | (go_simp; done) | (go_simp; with_reducible rfl)
 (try simp only [Act.put, Row.pB0, Row.pB1, Row.pB2])
 refine wpAnyH_take (i := 9) (oi := ⟨some 20, .fieldAddr 24 (.tmp 1) 1, 0, "l12_cache.go:23", #[⟨8, .guard⟩], some (8, false)⟩) (v := ?_) rfl (by kernel_rfl) (by kernel_rfl) (by kernel_rfl) (fun _ _ _ h => h) (Or.inl ⟨by rfl, ?_⟩) (by assumption) ?_
 rotate_left
 ·
  intro w' hSw; (try dsimp only at hSw); first | (go_simp; done) | (go_simp; with_reducible rfl)
 (try simp only [Act.put, Row.pB0, Row.pB1, Row.pB2])
 refine wpAnyH_take (i := 10) (oi := ⟨some 21, .load 22 (.tmp 20), 22, "l12_cache.go:23", #[⟨9, .data⟩, ⟨8, .guard⟩], some (8, false)⟩) (v := ?_) rfl (by kernel_rfl) (by kernel_rfl) (by kernel_rfl) (fun _ _ _ h => h) (Or.inl ⟨by rfl, ?_⟩) (by assumption) ?_
 rotate_left
 ·
  intro w' hSw; (try dsimp only at hSw); first | (go_simp; done) | (go_simp; with_reducible rfl)
 (try simp only [Act.put, Row.pB0, Row.pB1, Row.pB2])
 refine wpAnyH_take (i := 11) (oi := ⟨some 22, .move (.tmp 3), 3, "l12_cache.go:23", #[⟨8, .guard⟩], some (8, false)⟩) (v := ?_) rfl (by kernel_rfl) (by kernel_rfl) (by kernel_rfl) (fun _ _ _ h => h) (Or.inl ⟨by rfl, ?_⟩) (by assumption) ?_
 rotate_left
 ·
  intro w' hSw; (try dsimp only at hSw); first | (go_simp; done) | (go_simp; with_reducible rfl)
 (try simp only [Act.put, Row.pB0, Row.pB1, Row.pB2])
 refine wpAnyH_take (i := 12) (oi := ⟨some 23, .slice 22 (.tmp 21) none (some (.tmp 22)) none, 22, "l12_cache.go:23", #[⟨10, .data⟩, ⟨11, .data⟩, ⟨8, .guard⟩], some (8, false)⟩) (v := ?_) rfl (by kernel_rfl) (by kernel_rfl) (by kernel_rfl) (fun _ _ _ h => h) (Or.inl ⟨by rfl, ?_⟩) (by assumption) ?_
 rotate_left
 ·
  intro w' hSw; (try dsimp only at hSw); first | (go_simp; done) | (go_simp; with_reducible rfl)
 (try simp only [Act.put, Row.pB0, Row.pB1, Row.pB2])
 refine wpAnyH_take (i := 13) (oi := ⟨some 24, .fieldAddr 24 (.tmp 1) 1, 0, "l12_cache.go:23", #[⟨8, .guard⟩], some (8, false)⟩) (v := ?_) rfl (by kernel_rfl) (by kernel_rfl) (by kernel_rfl) (fun _ _ _ h => h) (Or.inl ⟨by rfl, ?_⟩) (by assumption) ?_
 rotate_left
 ·
  intro w' hSw; (try dsimp only at hSw); first | (go_simp; done) | (go_simp; with_reducible rfl)
 (try simp only [Act.put, Row.pB0, Row.pB1, Row.pB2])
 refine wpAnyH_take (i := 14) (oi := ⟨some 25, .load 22 (.tmp 24), 22, "l12_cache.go:23", #[⟨13, .data⟩, ⟨8, .guard⟩], some (8, false)⟩) (v := ?_) rfl (by kernel_rfl) (by kernel_rfl) (by kernel_rfl) (fun _ _ _ h => h) (Or.inl ⟨by rfl, ?_⟩) (by assumption) ?_
 rotate_left
 ·
  intro w' hSw; (try dsimp only at hSw); first | (go_simp; done) | (go_simp; with_reducible rfl)
 (try simp only [Act.put, Row.pB0, Row.pB1, Row.pB2])
 refine wpAnyH_take (i := 15) (oi := ⟨some 26, .move (.tmp 3), 3, "l12_cache.go:23", #[⟨8, .guard⟩], some (8, false)⟩) (v := ?_) rfl (by kernel_rfl) (by kernel_rfl) (by kernel_rfl) (fun _ _ _ h => h) (Or.inl ⟨by rfl, ?_⟩) (by assumption) ?_
 rotate_left
 ·
  intro w' hSw; (try dsimp only at hSw); first | (go_simp; done) | (go_simp; with_reducible rfl)
 (try simp only [Act.put, Row.pB0, Row.pB1, Row.pB2])
 refine wpAnyH_take (i := 16) (oi := ⟨some 27, .indexAddr 22 (.tmp 25) (.tmp 26), 0, "l12_cache.go:23", #[⟨14, .data⟩, ⟨15, .data⟩, ⟨8, .guard⟩], some (8, false)⟩) (v := ?_) rfl (by kernel_rfl) (by kernel_rfl) (by kernel_rfl) (fun _ _ _ h => h) (Or.inl ⟨by rfl, ?_⟩) (by assumption) ?_
 rotate_left
 ·
  intro w' hSw; (try dsimp only at hSw); first | (go_simp; done) | (go_simp; with_reducible rfl)
 (try simp only [Act.put, Row.pB0, Row.pB1, Row.pB2])
 refine wpAnyH_take (i := 17) (oi := ⟨some 28, .fieldAddr 72 (.tmp 27) 0, 0, "l12_cache.go:23", #[⟨16, .data⟩, ⟨8, .guard⟩], some (8, false)⟩) (v := ?_) rfl (by kernel_rfl) (by kernel_rfl) (by kernel_rfl) (fun _ _ _ h => h) (Or.inl ⟨by rfl, ?_⟩) (by assumption) ?_
 rotate_left
 ·
  intro w' hSw; (try dsimp only at hSw); first | (go_simp; done) | (go_simp; with_reducible rfl)
 (try simp only [Act.put, Row.pB0, Row.pB1, Row.pB2])
 refine wpAnyH_take (i := 18) (oi := ⟨some 29, .fieldAddr 46 (.tmp 28) 0, 0, "l12_cache.go:23", #[⟨17, .data⟩, ⟨8, .guard⟩], some (8, false)⟩) (v := ?_) rfl (by kernel_rfl) (by kernel_rfl) (by kernel_rfl) (fun _ _ _ h => h) (Or.inl ⟨by rfl, ?_⟩) (by assumption) ?_
 rotate_left
 ·
  intro w' hSw; (try dsimp only at hSw); first | (go_simp; done) | (go_simp; with_reducible rfl)
 (try simp only [Act.put, Row.pB0, Row.pB1, Row.pB2])
 refine wpAnyH_take (i := 19) (oi := ⟨some 30, .load 44 (.tmp 29), 44, "l12_cache.go:23", #[⟨18, .data⟩, ⟨8, .guard⟩], some (8, false)⟩) (v := ?_) rfl (by kernel_rfl) (by kernel_rfl) (by kernel_rfl) (fun _ _ _ h => h) (Or.inl ⟨by rfl, ?_⟩) (by assumption) ?_
 rotate_left
 ·
  intro w' hSw; (try dsimp only at hSw); first | (go_simp; done) | (go_simp; with_reducible rfl)
 (try simp only [Act.put, Row.pB0, Row.pB1, Row.pB2])
 refine wpAnyH_ready (rs := [20]) (by kernel_rfl) (by simp) ?_
 refine AllReadyH.cons (o := ⟨some 31, .call ⟨.value (.func 51), #[.tmp 23, .tmp 30], #[22, 44]⟩, 3, "l12_cache.go:23", #[⟨12, .data⟩, ⟨19, .data⟩, ⟨8, .chain⟩, ⟨8, .guard⟩], some (8, false)⟩) rfl (fun K hK => ?_) AllReadyH.nil
 go_simp
 refine (sFindE _ _ (l.take k) d.1 _ r HR.out (H_l.out.on BB.out) (H_a.out.on BB.out) HLL.out HLP.out HAB.out).mono ?_
 rintro e wn2 ⟨rfl, hb⟩
 replace BB := Lib.hid (BB.out.trans (hb.mono BB.out.size))
 clear hb
 (try go_wp2_with fail)
 clear hHeld
 refine hK.out _ _ ?_ (fun hHeld => ?_)
 ·
  (try dsimp only); exact ⟨kc K0.out BB.out, kc E0.out BB.out, kc E1.out BB.out, kc E2.out BB.out, kc E3.out BB.out, kc E4.out BB.out⟩
 clear hK K
 (try simp only [Act.put, Row.pB0, Row.pB1, Row.pB2])
 refine wpAnyH_take (i := 21) (oi := ⟨some 32, .binOp BinOp.geq 3 (.tmp 31) (.const (Value.int IntKind.i64 0)) 3, 4, "l12_cache.go:23", #[⟨20, .data⟩, ⟨8, .guard⟩], some (8, false)⟩) (v := ?_) rfl (by kernel_rfl) (by kernel_rfl) (by kernel_rfl) (fun _ _ _ h => h) (Or.inl ⟨by rfl, ?_⟩) (by assumption) ?_
 rotate_left
 ·
  intro w' hSw; (try dsimp only at hSw); first | (go_simp; done) | (go_simp; with_reducible rfl)
 (try simp only [Act.put, Row.pB0, Row.pB1, Row.pB2])
 refine wpAnyH_take (i := 22) (oi := ⟨some 33, .pick (.tmp 19) (.const (Value.bool true)) (.tmp 32), 4, "l12_cache.go:23", #[⟨8, .data⟩, ⟨21, .data⟩], none⟩) (v := ?_) rfl (by kernel_rfl) (by kernel_rfl) (by kernel_rfl) (fun _ _ _ h => h) (Or.inl ⟨by rfl, ?_⟩) (by assumption) ?_
 rotate_left
 ·
  intro w' hSw; (try dsimp only at hSw); first | (go_simp; done) | (go_simp; with_reducible rfl)
 (try simp only [Act.put, Row.pB0, Row.pB1, Row.pB2])
 refine wpAnyH_done (by kernel_rfl) ?_ _
 exact NoPanic.normal (HQ.out _ _ _ _ _ _ _ _ _ _ _ _ _ _ _ _ _ _ _ _ _ _  _  BB.out)
theorem kLCe_take {w : World} {x : Option Addr} {n cap k : Nat} {l : List Cet} (h : kLCe.At w (.slice x n cap) l) (hk : k ≤ l.length) : kLCe.At w (.slice x k cap) (l.take k) := by
  obtain ⟨ad, n', cap', L, e, hn, rfl, hh, hel⟩ := kLCe_at h
  cases e
  rw [List.length_map] at hk
  exact ⟨⟨x, k, cap, L.take k⟩, rfl, by show (L.take k).map kCe.strip = _; rw [List.map_take], hh.take szCe_cells hk, fun y hy => hel y (List.mem_of_mem_take hy)⟩
def FitC (x : Cnt) : Prop := wtCn x ≤ 1100000
theorem FitC.len {x : Cnt} (h : FitC x) : x.2.length ≤ 9000000 := Nat.le_trans (bulkK_len wtCe x.2) (Nat.le_trans (show bulkK wtCe x.2 ≤ 1100000 from h) (by decide))
theorem FitC.len' {x : Cnt} (h : FitC x) : x.2.length ≤ 1100000 := Nat.le_trans (bulkK_len wtCe x.2) (show bulkK wtCe x.2 ≤ 1100000 from h)
theorem FitC.each {x : Cnt} (h : FitC x) : ∀ e ∈ x.2, wtCe e ≤ 1200000 := fun e he => Nat.le_trans (bulkK_mem he) (Nat.le_trans (show bulkK wtCe x.2 ≤ 1100000 from h) (by decide))
set_option maxHeartbeats 8000000 in
theorem specValidContentStore (V : Value) (x : Cnt) (w : World) (z : Bool) (hz : validC x = z) (h : kCn.At w V x) (hp : FitC x) :
    Calls Try.prog 17 #[V] w fun e w' => e = .returned (.bool z) ∧ Below w.heap.size w w' := by
  obtain ⟨x1_0, n1_0, c1_0, rfl, g1⟩ := kCn_at h
  have hp9 := hp.each; have hl := hp.len
  obtain ⟨cc, l⟩ := x
  dsimp only at g1 hp9 hl hz ⊢
  clear hp
  have hp := hp9; clear hp9 h
  have h := g1; clear g1
  have b1 := (Below.refl w.heap.size w).alloc (Nat.le_refl _) (.cells #[.int .i64 cc, .slice x1_0 n1_0 c1_0] 24)
  obtain ⟨x, n, cx, L, e9, hn, ht, hh, hel⟩ := kLCe_at h
  cases e9
  have hlen : l.length = n1_0 := by rw [← ht, List.length_map]; exact hn.symm
  rw [hlen] at hl
  have hcap : n1_0 ≤ c1_0 := by obtain ⟨x', n', cap', hv, hn', hc', -⟩ := hh.shapeN; cases hv; exact hc'
  have hz2 := hz
  unfold validC at hz2
  dsimp only at hz2
  rw [hlen] at hz2
  have HX := Lib.hid (Ret.Blk.new w #[.int .i64 cc, .slice x1_0 n1_0 c1_0] 24)
  have HAT := Lib.hid h; have HB := Lib.hid b1; have HZ := Lib.hid hz2
  have HN := Lib.hid hn; have HT := Lib.hid ht; have HH := Lib.hid hh; have HEL := Lib.hid hel; have HLEN := Lib.hid hlen; have HP := Lib.hid hp
  clear b1 hz hz2 hn ht hh hel hlen hp h
  go_enter Try.func17, Try.ntmps17
  go_wp2
  go_loopw [3] (fun iv wr => ∃ i : Nat, i ≤ n1_0 ∧ iv = .int .i64 i ∧ Hid (validE l i = true) ∧ Hid (Ret.Blk wr w.heap.size #[.int .i64 cc, .slice x1_0 n1_0 c1_0] 24) ∧ Hid (Below w.heap.size w wr)) (fun iv _ => n1_0 - (intOf iv).toNat)
  case atStart => exact ⟨0, Nat.zero_le _, rfl, Lib.hid rfl, HX, HB⟩
  case round =>
    obtain ⟨k, hk, rfl, ha, hx, hb⟩ := hrel
    have q0 : wr.cell? ⟨w.heap.size, 0, none⟩ = some (.int .i64 cc) := hx.out.cell 0
    have q1 : wr.cell? ⟨w.heap.size, 1, none⟩ = some (.slice x1_0 n1_0 c1_0) := hx.out.cell 1
    by_cases hlt : k < n1_0
    · have hlen := HN.out
      obtain ⟨b, off, y0, m0, d0, y1, m1, d1, y2, m2, d2, rfl, -, hc0, hc1, hc2, hc3, hc4, hc5, hA⟩ := kLCe_elem (HH.out.on hb.out) (fun y hy => kCe.holds_on (HEL.out y hy) hb.out) (j := k) (by omega)
      have hpt : nth l k = kCe.strip (nth L k) := by rw [← HT.out, nth_map _ (by omega)]
      have hps := HP.out (nth l k) (nth_mem (by have := HLEN.out; omega))
      rw [← hpt] at hA hc3 hc4 hc5
      obtain ⟨hD, hNM⟩ := kCe_parts hA
      have HA := Lib.hid hA; have HD := Lib.hid hD; have HNM := Lib.hid hNM; have HPS := Lib.hid hps; have HPD := Lib.hid (show wtDz (nth l k).1 ≤ 1200000 from hps); have HPN := Lib.hid (show bulk (nth l k).1.1 ≤ 1200000 from (wtDz_lens _ hps).1)
      have H0 := Lib.hid hc0; have H1 := Lib.hid hc1; have H2 := Lib.hid hc2; have H3 := Lib.hid hc3; have H4 := Lib.hid hc4; have H5 := Lib.hid hc5
      clear hlen hpt hps hA hD hNM
      have HTK := Lib.hid (kLCe_take (k := k) (HAT.out.on hb.out) (by have := HLEN.out; omega))
      have HTL := Lib.hid (show (l.take k).length ≤ 9000000 by rw [List.length_take]; omega)
      have HTP := Lib.hid (fun x hx => HP.out x (List.mem_of_mem_take hx) : ∀ x ∈ l.take k, wtCe x ≤ 1200000)
      obtain ⟨v, hv⟩ : ∃ v, validD (nth l k).1 = v := ⟨_, rfl⟩
      obtain ⟨r, hr⟩ : ∃ r, ixL (isE (nth l k).1.1) (l.take k) = r := ⟨_, rfl⟩
      have HV := Lib.hid hv; have HR := Lib.hid hr; clear hv hr hc0 hc1 hc2 hc3 hc4 hc5
      go_wp2_with fail
      clear q0 q1
      cases v with
      | false =>
        refine rvc0 hlt (by omega) hl HV HD HPD (Lib.hid (hx.out.cell 1)) H0 H1 H2 H3 H4 ?_
        intro u11 u12 u13 u14 u15 u16 u17 u18 u19 u20 u21 u22 u23 u24 u25 u26 u27 u28 u29 u30 u31 u32 wx hbx
        have hb2 := Lib.hid (hb.out.trans (hbx.mono hb.out.size))
        have HE : Hid (z = false) := Lib.hid (by
          rw [← HZ.out, validE_le (k := k + 1) (by unfold validE; rw [HV.out]; simp) (by omega)]; rfl)
        clear hbx
        go_wp2
        go_ret
        exact ⟨ret_bool HE.out.symm, hb2.out⟩
      | true =>
        refine rvc1 (l := l) hlt (by omega) hl HV HD HPD HNM HPN HR HTK HTL HTP (Lib.hid (hx.out.cell 1)) H0 H1 H2 H3 H4 ?_
        intro u11 u12 u13 u14 u15 u16 u17 u18 u19 u20 u21 u22 u23 u24 u25 u26 u27 u28 u29 u30 u31 u32 wx hbx
        have hb2 := Lib.hid (hb.out.trans (hbx.mono hb.out.size)); have hx2 := Lib.hid (hx.out.on hbx)
        clear hbx
        by_cases h0 : 0 ≤ r
        · have HE : Hid (z = false) := Lib.hid (by
            rw [← HZ.out, validE_le (k := k + 1) (by unfold validE; rw [any_find, HR.out, decide_eq_true h0]; simp) (by omega)]; rfl)
          have t0 : decide (0 ≤ r) = true := decide_eq_true h0
          go_wp2
          go_ret
          exact ⟨ret_bool HE.out.symm, hb2.out⟩
        · have t0 : decide (0 ≤ r) = false := decide_eq_false h0
          have HA2 : Hid (validE l (k + 1) = true) := Lib.hid (by unfold validE; rw [ha.out, any_find, HR.out, t0, HV.out]; rfl)
          go_wp2
          go_roundw
          case rel => exact ⟨k + 1, by omega, by go_num, HA2, hx2, hb2⟩
          case measure => simp [intOf]; omega
    · obtain rfl : k = n1_0 := by omega
      clear hlt
      have HZ2 : Hid ((Num.inB cc 0 8 && decide ((k : Int) ≤ cc)) = z) := Lib.hid (by rw [← HZ.out, ha.out]; rfl)
      obtain ⟨q, hq⟩ : ∃ q, Num.inB cc 0 8 = q := ⟨_, rfl⟩
      have HQ := Lib.hid hq; clear hq
      go_wp2_with fail
      refine (sInV q HQ.out).mono ?_
      rintro e w1 ⟨rfl, hb1⟩
      have hx2 := Lib.hid (hx.out.on hb1); have hb2 := Lib.hid (hb.out.trans (hb1.mono hb.out.size))
      clear hb1 q0 q1
      have q0 : w1.cell? ⟨w.heap.size, 0, none⟩ = some (.int .i64 cc) := hx2.out.cell 0
      have q1 : w1.cell? ⟨w.heap.size, 1, none⟩ = some (.slice x1_0 k c1_0) := hx2.out.cell 1
      have HZ3 : Hid ((q && decide ((k : Int) ≤ cc)) = z) := Lib.hid (by rw [← HZ2.out, HQ.out])
      cases q with
      | false =>
        go_wp2
        go_ret
        exact ⟨ret_bool HZ3.out, hb2.out⟩
      | true =>
        go_wp2
        go_ret
        exact ⟨ret_bool (by rw [← HZ3.out]; simp), hb2.out⟩
end Go.Proofs.Ythfljbbigpophaa.Row
/- Rows of entries that grow by one, stores as results. No conditions. -/
namespace Go.Proofs.Ythfljbbigpophaa.Row
open Go.ChangeShapes Go.WideShapes Go.ChangeAt Go.RowKit Go.Instr
set_option linter.unusedVariables false
set_option maxRecDepth 100000
theorem kCe_own {B E : Nat} {w : World} {m : Dzm} (h : kDz.Own B E w m) (u : Int) (hBE : B ≤ E) : kCe.Own B E w (m, u) := Kd.Own.pair h (Kd.own_scalar E E w u) hBE (Nat.le_refl _)
theorem ce_grow {B : Nat} {wr w1 W w4 : World} {r : Rw Cem} {m1 : Dzm} {u : Int} {x4 : Option Addr} {n4 c4 : Nat} (h : kLCe.Own B wr.heap.size wr r) (hb1 : Below wr.heap.size wr w1) (hm : kDz.Own wr.heap.size w1.heap.size w1 m1) (hbW : Below w1.heap.size w1 W)
    (ho : OwnK 72 kCe.cells 6 B w4 (.slice x4 n4 c4) (r.els ++ [((m1, u) : Cem)])) (hg : W.grownBy w4 r.v.ownBlock) (hB : B ≤ wr.heap.size) : kLCe.Own B w4.heap.size w4 ⟨x4, n4, c4, r.els ++ [((m1, u) : Cem)]⟩ :=
  Kd.push_later noRow_kCe ((h.on hb1).on (hbW.mono (Nat.le_refl _))) (kCe_own (hm.on hbW) u hb1.size) hB ho hg
theorem ce_grow2 {B : Nat} {wr w1 W w4 : World} {r : Rw Cem} {m1 : Cem} {x4 : Option Addr} {n4 c4 : Nat} (h : kLCe.Own B wr.heap.size wr r) (hb1 : Below wr.heap.size wr w1) (hm : kCe.Own wr.heap.size w1.heap.size w1 m1) (hbW : Below w1.heap.size w1 W)
    (ho : OwnK 72 kCe.cells 6 B w4 (.slice x4 n4 c4) (r.els ++ [m1])) (hg : W.grownBy w4 r.v.ownBlock) (hB : B ≤ wr.heap.size) : kLCe.Own B w4.heap.size w4 ⟨x4, n4, c4, r.els ++ [m1]⟩ :=
  Kd.push_later noRow_kCe ((h.on hb1).on hbW) (hm.on hbW) hB ho hg
theorem le_nil (B : Nat) (w : World) : kLCe.Own B w.heap.size w ⟨none, 0, 0, []⟩ := Kd.own_row (OwnK.nil _ _ _ _ _) rfl
theorem cn_own {B E : Nat} {w : World} {r : Rw Cem} {cc : Int} (h : kLCe.Own B E w r) (hBE : B ≤ E) : kCn.Own B E w (cc, r) := Kd.Own.pair (Kd.own_scalar B B w cc) h (Nat.le_refl _) hBE
theorem cn_in {B B' E : Nat} {w : World} {x : Option Addr} {n c : Nat} {L : List Cem} {cc : Int} {l : List Cet} (h : kLCe.Own B' E w ⟨x, n, c, L⟩) (hB : B ≤ B') (hl : L.map kCe.strip = l) (hBE : B ≤ E) : kCn.In B E w (.agg #[.int .i64 cc, .slice x n c]) (cc, l) := by
  subst hl
  exact (cn_own (cc := cc) (h.mono hB (Nat.le_refl _)) hBE).in
theorem cn_of {w : World} {V : Value} {cc : Int} {l : List Cet} (h : kLCe.At w V l) : kCn.At w (.agg #[.int .i64 cc, V]) (cc, l) := by
  obtain ⟨x, n, c, rfl, h⟩ := kLCe_shapeA h
  exact kCn_of (x := (cc, l)) h
theorem aggSt : Ret.AggOf Try.prog 76 2 := ⟨by kernel_rfl, by kernel_rfl⟩
theorem own_setS {α M : Type} {k : Kd α M} {B g i : Nat} {u : Value} {w : World} {m : M} (h : k.Own B w.heap.size w m) (hg : g < B) : k.Own B (w.setCell ⟨g, i, none⟩ u).heap.size (w.setCell ⟨g, i, none⟩ u) m := by
  rw [World.size_setCell]; exact h.set hg
theorem FitC.fields {cc : Int} {l : List Cet} (h : FitC (cc, l)) : l.length ≤ 1100000 ∧ ∀ e ∈ l, wtCe e ≤ 1200000 := ⟨h.len', h.each⟩
theorem one_ce {W : World} {m1 : Dzm} {u : Int} {g : Nat} {a b c : Value} {f s : Int} (hd : kDz.cells m1 = [a, b, c, .int .i64 f, .int .i64 s]) (hg : g = W.heap.size) : HoldsK kCe.cells 6 (W.alloc (.cells #[a, b, c, .int .i64 f, .int .i64 s, .int .i64 u] 72)) (.slice (some ⟨g, 0, none⟩) 1 1) [((m1, u) : Cem)] := by
  subst hg
  have h := holdsK_one szCe_cells 72 W ((m1, u) : Cem)
  have e : kCe.cells ((m1, u) : Cem) = [a, b, c, .int .i64 f, .int .i64 s, .int .i64 u] := by
    show kDz.cells m1 ++ kInt.cells u = _
    rw [hd]; rfl
  rw [e] at h
  exact h
theorem one_ce2 {W : World} {m1 : Cem} {g : Nat} {cs : List Value} (hd : kCe.cells m1 = cs) (hg : g = W.heap.size) : HoldsK kCe.cells 6 (W.alloc (.cells cs.toArray 72)) (.slice (some ⟨g, 0, none⟩) 1 1) [m1] := by
  subst hg
  subst hd
  exact holdsK_one szCe_cells 72 W m1
theorem kDz_split {B E : Nat} {w : World} {V : Value} {x : Dzt} (h : kDz.In B E w V x) : ∃ (m1 : Dzm) (ya : Option Addr) (ma da : Nat) (yb : Option Addr) (mb db : Nat) (yc : Option Addr) (mc dc_ : Nat), V = .agg #[.slice ya ma da, .slice yb mb db, .slice yc mc dc_, .int .i64 x.2.2.2.1, .int .i64 x.2.2.2.2] ∧ kDz.strip m1 = x ∧ kDz.cells m1 = [.slice ya ma da, .slice yb mb db, .slice yc mc dc_, .int .i64 x.2.2.2.1, .int .i64 x.2.2.2.2] ∧ kDz.Own B E w m1 := by
  obtain ⟨m1, rfl, rfl, ho⟩ := h.split
  obtain ⟨ya, ma, da, yb, mb, db, yc, mc, dc_, e, -⟩ := kDz_shapeA (Kd.at_of (k := kDz) ho.holds)
  exact ⟨m1, ya, ma, da, yb, mb, db, yc, mc, dc_, e, rfl, by injection e with e; exact congrArg Array.toList e, ho⟩
theorem kCe_split {B E : Nat} {w : World} {V : Value} {x : Cet} (h : kCe.In B E w V x) : ∃ (m1 : Cem) (ya : Option Addr) (ma da : Nat) (yb : Option Addr) (mb db : Nat) (yc : Option Addr) (mc dc_ : Nat), V = .agg #[.slice ya ma da, .slice yb mb db, .slice yc mc dc_, .int .i64 x.1.2.2.2.1, .int .i64 x.1.2.2.2.2, .int .i64 x.2] ∧ kCe.strip m1 = x ∧ kCe.cells m1 = [.slice ya ma da, .slice yb mb db, .slice yc mc dc_, .int .i64 x.1.2.2.2.1, .int .i64 x.1.2.2.2.2, .int .i64 x.2] ∧ kCe.Own B E w m1 := by
  obtain ⟨m1, rfl, rfl, ho⟩ := h.split
  obtain ⟨ya, ma, da, yb, mb, db, yc, mc, dc_, e, -⟩ := kCe_shapeA (Kd.at_of (k := kCe) ho.holds)
  exact ⟨m1, ya, ma, da, yb, mb, db, yc, mc, dc_, e, rfl, by injection e with e; exact congrArg Array.toList e, ho⟩
end Go.Proofs.Ythfljbbigpophaa.Row
/- The program's search in a content store, isNamed, ValidContentStore; NewContentStore, model and program. No conditions but that lengths fit. -/
namespace Go.Proofs.Ythfljbbigpophaa.Row
open Go.ChangeShapes Go.WideShapes Go.ChangeAt Go.RowKit Go.Instr
set_option linter.unusedVariables false
set_option maxRecDepth 100000
def ClosR {α M : Type} (P : Program) (k : Kd α M) (fid : FuncId) (cap : Array Value) (p : α → Bool) (ok : α → Prop) (w : World) (row : Option Nat) : Prop :=
  ∀ (x : α) (V : Value) (W : World), w.grownBy W row → k.At W V x → ok x → Calls P fid (#[V] ++ cap) W fun e w' => e = .returned (.bool (p x)) ∧ Below W.heap.size W w'
theorem ClosR.plain {α M : Type} {P : Program} {k : Kd α M} {fid : FuncId} {cap : Array Value} {p : α → Bool} {ok : α → Prop} {w : World} {row : Option Nat} (h : ClosR P k fid cap p ok w row) : ClosK P k fid cap p ok w := fun x V W hW => h x V W (Sl.grown_of_below hW row)
set_option maxHeartbeats 2000000 in
theorem closNd (b : Nat) (y : Option Addr) (q cy : Nat) (m : List ByteArray) (w : World) (row : Option Nat) (hr : some b ≠ row) (hc : Ret.Blk w b #[.slice y q cy] 44) (hg : ∀ W, w.grownBy W row → kN.At W (.agg #[.slice y q cy]) m) (hm : bulk m ≤ 1200000) :
    ClosR Try.prog kCe 95 #[.pointer (some ⟨b, 0, none⟩)] (isE m) (fun x => wtCe x ≤ 1200000) w row := by
  intro x V W hW hx hxl
  obtain ⟨x0, n0, c0, x1, n1, c1, x2, n2, c2, rfl, hx⟩ := kCe_shapeA hx
  have hcW := hc.grown hW hr
  have hB := (Below.refl W.heap.size W).alloc (Nat.le_refl _) (.cells #[.slice x0 n0 c0, .slice x1 n1 c1, .slice x2 n2 c2, .int .i64 x.1.2.2.2.1, .int .i64 x.1.2.2.2.2, .int .i64 x.2] 72)
  have hcA := hcW.on hB
  have hX := Ret.Blk.new W #[.slice x0 n0 c0, .slice x1 n1 c1, .slice x2 n2 c2, .int .i64 x.1.2.2.2.1, .int .i64 x.1.2.2.2.2, .int .i64 x.2] 72
  have q0 : (W.alloc (.cells #[.slice x0 n0 c0, .slice x1 n1 c1, .slice x2 n2 c2, .int .i64 x.1.2.2.2.1, .int .i64 x.1.2.2.2.2, .int .i64 x.2] 72)).cell? ⟨b, 0, none⟩ = some (.slice y q cy) := hcA.cell 0
  have q1 : (W.alloc (.cells #[.slice x0 n0 c0, .slice x1 n1 c1, .slice x2 n2 c2, .int .i64 x.1.2.2.2.1, .int .i64 x.1.2.2.2.2, .int .i64 x.2] 72)).cell? ⟨W.heap.size, 0, none⟩ = some (.slice x0 n0 c0) := hX.cell 0
  have HNM := Lib.hid ((kCe_parts hx).2.on hB)
  have HG := Lib.hid ((hg W hW).on hB)
  have HB := Lib.hid hB
  have HXL := Lib.hid (show bulk x.1.1 ≤ 9000000 from Nat.le_trans (wtDz_lens x.1 (show wtDz x.1 ≤ 1200000 from hxl)).1 (by decide))
  have HM := Lib.hid (Nat.le_trans hm (by decide) : bulk m ≤ 9000000)
  clear hcW hB hcA hX hx hg hc hW hxl hr hm
  go_enter Try.func95, Try.ntmps95
  go_wp2_with fail
  refine (iEqK _ rfl HNM.out HG.out HXL.out HM.out).mono ?_
  rintro e w1 ⟨rfl, hb⟩
  have HB2 := Lib.hid (HB.out.trans (hb.mono HB.out.size)); clear hb
  go_wp2_with fail
  go_ret
  exact ⟨rfl, HB2.out⟩
theorem iNamed (y : Option Addr) (q cy : Nat) (w : World) :
    Calls Try.prog 62 #[.agg #[.slice y q cy]] w fun e w' => ∃ g, e = .returned (.func (.func 95) #[] #[.pointer (some ⟨g, 0, none⟩)]) ∧ w.heap.size ≤ g ∧ Ret.Blk w' g #[.slice y q cy] 44 ∧ Below w.heap.size w w' := by
  have HX := Lib.hid (Ret.Blk.new w #[.slice y q cy] 44)
  have HB := Lib.hid ((Below.refl w.heap.size w).alloc (Nat.le_refl _) (.cells #[.slice y q cy] 44))
  have hmf : ∀ (fn : Fn) (first cap : Array Value) (w : World), (Instr.makeFunc fn first cap).run Try.prog w = .ok (.func fn first cap) w := fun _ _ _ _ => rfl
  go_enter Try.func62, Try.ntmps62
  go_wp2
  go_ret
  exact ⟨_, rfl, Nat.le_refl _, HX.out, HB.out⟩
set_option maxHeartbeats 2000000 in
theorem indexNd (b0 : Addr) (p : Cet → Bool) (ok : Cet → Prop) (v : Value) (l : List Cet) (w : World) (z : Int) (hz : ixL p l = z) (h : kLCe.At w v l) (hl : l.length ≤ 9000000) (hp : ∀ x ∈ l, ok x) (hc : ClosK Try.prog kCe 95 #[.pointer (some b0)] p ok w) :
    Calls Try.prog 100 #[v, .func (.func 95) #[] #[.pointer (some b0)]] w fun e w' => e = .returned (.int .i64 z) ∧ Below w.heap.size w w' := by
  obtain ⟨x, n, cx, L, rfl, hn, ht, hh, hel⟩ := kLCe_at h
  have hlen : l.length = n := by rw [← ht, List.length_map]; exact hn.symm
  rw [hlen] at hl
  have hcap : n ≤ cx := by obtain ⟨x', n', cap', hv, hn', hc', -⟩ := hh.shapeN; cases hv; exact hc'
  have HN := Lib.hid hn; have HT := Lib.hid ht; have HH := Lib.hid hh; have HEL := Lib.hid hel; have HLEN := Lib.hid hlen; have HP := Lib.hid hp; have HC := Lib.hid hc; have HZ := Lib.hid hz
  clear hn h hh hc hp ht hel hlen hz
  go_enter Try.func100, Try.ntmps100
  go_wp2
  go_loopw [8] (fun iv wr => ∃ i : Nat, i ≤ n ∧ iv = .int .i64 i ∧ Hid (noL p l i) ∧ Hid (Below w.heap.size w wr)) (fun iv _ => n - (intOf iv).toNat)
  case atStart => exact ⟨0, Nat.zero_le _, rfl, Lib.hid (noL_zero _ _), Lib.hid (Below.refl _ _)⟩
  case round =>
    obtain ⟨k, hk, rfl, ha, hb⟩ := hrel
    by_cases hlt : k < n
    · have hlen := HN.out
      obtain ⟨b, off, y0, m0, d0, y1, m1, d1, y2, m2, d2, rfl, -, hc0, hc1, hc2, hc3, hc4, hc5, hA⟩ := kLCe_elem (HH.out.on hb.out) (fun y hy => kCe.holds_on (HEL.out y hy) hb.out) (j := k) (by omega)
      have hpt : nth l k = kCe.strip (nth L k) := by rw [← HT.out, nth_map _ (by omega)]
      have hps := HP.out (nth l k) (nth_mem (by have := HLEN.out; omega))
      rw [hpt] at hps
      obtain ⟨q, hq⟩ : ∃ q, p (kCe.strip (nth L k)) = q := ⟨_, rfl⟩
      have HCL := HC.out _ _ wr hb.out hA hps
      rw [hq] at HCL
      rw [← hpt] at hq
      replace HCL := Lib.hid HCL
      have HQ := Lib.hid hq
      clear hlen hpt hps hA hq
      go_wp2_with fail
      refine HCL.out.mono ?_
      rintro e w2 ⟨rfl, hb2⟩
      have HB2 := Lib.hid (hb.out.trans (hb2.mono hb.out.size))
      clear hb2 hc0 hc1 hc2 hc3 hc4 hc5 HCL
      cases q with
      | true =>
        have HV := Lib.hid (show z = (k : Int) from HZ.out.symm.trans (ixL_at (by have := HLEN.out; omega) ha.out HQ.out))
        go_wp2
        go_ret
        exact ⟨ret_int HV.out.symm, HB2.out⟩
      | false =>
        have HA := Lib.hid (noL_succ ha.out HQ.out)
        go_wp2
        go_roundw
        case rel => exact ⟨k + 1, by omega, by go_num, HA, HB2⟩
        case measure => simp [intOf]; omega
    · obtain rfl : k = n := by omega
      have HV := Lib.hid (show z = -1 from HZ.out.symm.trans (ixL_none (by rw [HLEN.out]; exact ha.out)))
      clear hlt
      go_wp2
      go_ret
      exact ⟨ret_int HV.out.symm, hb.out⟩
set_option maxHeartbeats 2000000 in
theorem findNd (b0 : Addr) (p : Cet → Bool) (ok : Cet → Prop) (x : Option Addr) (n c : Nat) (cc : Int) (l : List Cet) (w : World) (z : Int) (hz : ixL p l = z) (h : kLCe.At w (.slice x n c) l) (hl : l.length ≤ 9000000) (hp : ∀ x ∈ l, ok x) (hc : ClosK Try.prog kCe 95 #[.pointer (some b0)] p ok w) :
    Calls Try.prog 72 #[.agg #[.int .i64 cc, .slice x n c], .func (.func 95) #[] #[.pointer (some b0)]] w fun e w' => e = .returned (.int .i64 z) ∧ Below w.heap.size w w' := by
  have hB := (Below.refl w.heap.size w).alloc (Nat.le_refl _) (.cells #[.int .i64 cc, .slice x n c] 76)
  have hX := Ret.Blk.new w #[.int .i64 cc, .slice x n c] 76
  have q1 : (w.alloc (.cells #[.int .i64 cc, .slice x n c] 76)).cell? ⟨w.heap.size, 1, none⟩ = some (.slice x n c) := hX.cell 1
  have HH := Lib.hid (h.on hB); have HC := Lib.hid (hc.on hB); have HP := Lib.hid hp; have HZ := Lib.hid hz; have HB := Lib.hid hB
  clear hB hX h hc hp hz
  go_enter Try.func72, Try.ntmps72
  go_wp2_with fail
  refine (indexNd b0 p ok _ l _ z HZ.out HH.out hl HP.out HC.out).mono ?_
  rintro e w1 ⟨rfl, hb⟩
  have HB2 := Lib.hid (HB.out.trans (hb.mono HB.out.size)); clear hb
  go_wp2
  go_ret
  exact ⟨rfl, HB2.out⟩
theorem iFindNd (gN : Nat) (y : Option Addr) (q cy : Nat) (m : List ByteArray) (x : Option Addr) (n c : Nat) (cc : Int) (l : List Cet) (w : World) (z : Int) (hz : ixL (isE m) l = z) (h : kLCe.At w (.slice x n c) l) (hx : Ret.Blk w gN #[.slice y q cy] 44) (hm : kN.At w (.agg #[.slice y q cy]) m) (hl : l.length ≤ 9000000) (hp : ∀ x ∈ l, wtCe x ≤ 1200000) (hmb : bulk m ≤ 1200000) :
    Calls Try.prog 72 #[.agg #[.int .i64 cc, .slice x n c], .func (.func 95) #[] #[.pointer (some ⟨gN, 0, none⟩)]] w fun e w' => e = .returned (.int .i64 z) ∧ Below w.heap.size w w' :=
  findNd ⟨gN, 0, none⟩ (isE m) (fun x => wtCe x ≤ 1200000) x n c cc l w z hz h hl hp (fun e V W hW => closNd gN y q cy m w none (by simp) hx (fun W hW => by
    have hb : Below w.heap.size w W := ⟨hW.os, hW.tape, hW.output, hW.size, fun i hi => hW.block i hi (by simp)⟩
    exact hm.on hb) hmb e V W (Sl.grown_of_below hW none))
set_option maxRecDepth 100000 in
set_option maxHeartbeats 4000000 in
theorem rhv0 {Q : Exit → Act → World → Prop} {v0 v2 v5 v6 v7 v8 v9 v10 v11 v12 v13 v14 v15 v16 v17 v18 v19 v20 v21 v22 v23 v24 v25 v26 v27 : Value} {w : World} {g p k na ca nb cb nc cc_ : Nat} {xa xb xc : Option Addr} {f s : Int} {d : Dzt}   (HV : Hid (validD d = false)) (H_d : Hid (kDz.At w (.agg #[.slice xa na ca, .slice xb nb cb, .slice xc nc cc_, .int .i64 f, .int .i64 s]) d)) (HDB : Hid (wtDz d ≤ 1200000)) (E0 : Hid (w.cell? ⟨p, 0, none⟩ = some (.slice xa na ca))) (E1 : Hid (w.cell? ⟨p, 1, none⟩ = some (.slice xb nb cb))) (E2 : Hid (w.cell? ⟨p, 2, none⟩ = some (.slice xc nc cc_))) (E3 : Hid (w.cell? ⟨p, 3, none⟩ = some (.int .i64 f))) (E4 : Hid (w.cell? ⟨p, 4, none⟩ = some (.int .i64 s)))
  (hQ : ∀ (u13 u14 u15 u16 u17 u18 u19 u20 u21 u22 u23 u24 u25 : Value)  (wx : World), Below w.heap.size w wx → Q .normal ⟨#[v0, .pointer (some ⟨g, 0, none⟩), v2, .int .i64 k, .pointer (some ⟨p, 0, none⟩), v5, v6, v7, v8, v9, v10, v11, v12, u13, u14, u15, u16, u17, u18, u19, u20, u21, u22, u23, u24, u25, .bool true, v27], []⟩ wx) :
  (Code.region 4 #[⟨some 13, .fieldAddr 72 (.tmp 4) 0, 0, "l12_cache.go:79", #[], none⟩,
   ⟨some 14, .load 46 (.tmp 13), 46, "l12_cache.go:79", #[⟨0, .data⟩], none⟩,
   ⟨some 15, .call ⟨.value (.func 60), #[.tmp 14], #[46]⟩, 4, "l12_cache.go:79", #[⟨1, .data⟩], none⟩,
   ⟨some 16, .unOp UnOp.not 4 (.tmp 15), 4, "l12_cache.go:79", #[⟨2, .data⟩], none⟩,
   ⟨some 17, .move (.tmp 16), 4, "l12_cache.go:79", #[⟨3, .data⟩, ⟨2, .chain⟩], none⟩,
   ⟨some 18, .load 76 (.tmp 1), 76, "l12_cache.go:79", #[⟨4, .guard⟩], some (4, false)⟩,
   ⟨some 19, .fieldAddr 72 (.tmp 4) 0, 0, "l12_cache.go:79", #[⟨4, .guard⟩], some (4, false)⟩,
   ⟨some 20, .fieldAddr 46 (.tmp 19) 0, 0, "l12_cache.go:79", #[⟨6, .data⟩, ⟨4, .guard⟩], some (4, false)⟩,
   ⟨some 21, .load 44 (.tmp 20), 44, "l12_cache.go:79", #[⟨7, .data⟩, ⟨4, .guard⟩], some (4, false)⟩,
   ⟨some 22, .call ⟨.value (.func 62), #[.tmp 21], #[44]⟩, 84, "l12_cache.go:79", #[⟨8, .data⟩, ⟨4, .chain⟩, ⟨4, .guard⟩], some (4, false)⟩,
   ⟨some 23, .call ⟨.value (.func 72), #[.tmp 18, .tmp 22], #[76, 84]⟩, 3, "l12_cache.go:79", #[⟨5, .data⟩, ⟨9, .data⟩, ⟨9, .chain⟩, ⟨4, .guard⟩], some (4, false)⟩,
   ⟨some 24, .move (.tmp 3), 3, "l12_cache.go:79", #[⟨4, .guard⟩], some (4, false)⟩,
   ⟨some 25, .binOp BinOp.lss 3 (.tmp 23) (.tmp 24) 3, 4, "l12_cache.go:79", #[⟨10, .data⟩, ⟨11, .data⟩, ⟨4, .guard⟩], some (4, false)⟩,
   ⟨some 26, .pick (.tmp 17) (.const (Value.bool true)) (.tmp 25), 4, "l12_cache.go:79", #[⟨4, .data⟩, ⟨12, .data⟩], none⟩] true).wp Try.prog Q ⟨#[v0, .pointer (some ⟨g, 0, none⟩), v2, .int .i64 k, .pointer (some ⟨p, 0, none⟩), v5, v6, v7, v8, v9, v10, v11, v12, v13, v14, v15, v16, v17, v18, v19, v20, v21, v22, v23, v24, v25, v26, v27], []⟩ w := by
 have HQ := Lib.hid hQ; clear hQ
 have hdr : Below w.heap.size w w.drew := (Below.refl _ _).drew
 have BB := Lib.hid hdr
 refine wp_region_noPanic ?_
 refine wp_region_held_drew (S := (fun w' => w'.cell? ⟨p, 0, none⟩ = some (.slice xa na ca) ∧ w'.cell? ⟨p, 1, none⟩ = some (.slice xb nb cb) ∧ w'.cell? ⟨p, 2, none⟩ = some (.slice xc nc cc_) ∧ w'.cell? ⟨p, 3, none⟩ = some (.int .i64 f) ∧ w'.cell? ⟨p, 4, none⟩ = some (.int .i64 s))) (by kernel_rfl) ?_ (fun hHeld => ?_)
 ·
  exact ⟨kc E0.out BB.out, kc E1.out BB.out, kc E2.out BB.out, kc E3.out BB.out, kc E4.out BB.out⟩
 clear hdr
 generalize w.drew = wd at *
 refine wpAnyH_take (i := 0) (oi := ⟨some 13, .fieldAddr 72 (.tmp 4) 0, 0, "l12_cache.go:79", #[], none⟩) (v := ?_) rfl (by kernel_rfl) (by kernel_rfl) (by kernel_rfl) (fun _ _ _ h => h) (Or.inl ⟨by rfl, ?_⟩) (by assumption) ?_
 rotate_left
 ·
  intro w' hSw; (try dsimp only at hSw); first | (go_simp; done) | (go_simp; with_reducible rfl)
 (try simp only [Act.put, Row.pB0, Row.pB1, Row.pB2])
 refine wpAnyH_take (i := 1) (oi := ⟨some 14, .load 46 (.tmp 13), 46, "l12_cache.go:79", #[⟨0, .data⟩], none⟩) (v := ?_) rfl (by kernel_rfl) (by kernel_rfl) (by kernel_rfl) (fun _ _ _ h => h) (Or.inl ⟨by rfl, ?_⟩) (by assumption) ?_
 rotate_left
 ·
  intro w' hSw; (try dsimp only at hSw); first | (go_simp; done) | (go_simp; with_reducible rfl)
 (try simp only [Act.put, Row.pB0, Row.pB1, Row.pB2])
 refine wpAnyH_ready (rs := [2]) (by kernel_rfl) (by simp) ?_
 refine AllReadyH.cons (o := ⟨some 15, .call ⟨.value (.func 60), #[.tmp 14], #[46]⟩, 4, "l12_cache.go:79", #[⟨1, .data⟩], none⟩) rfl (fun K hK => ?_) AllReadyH.nil
 go_simp
 refine (iValZ false HV.out (H_d.out.on BB.out) (Nat.le_trans HDB.out (by decide))).mono ?_
 rintro e wn1 ⟨rfl, hb⟩
 replace BB := Lib.hid (BB.out.trans (hb.mono BB.out.size))
 clear hb
 (try go_wp2_with fail)
 clear hHeld
 refine hK.out _ _ ?_ (fun hHeld => ?_)
 ·
  (try dsimp only); exact ⟨kc E0.out BB.out, kc E1.out BB.out, kc E2.out BB.out, kc E3.out BB.out, kc E4.out BB.out⟩
 clear hK K
 (try simp only [Act.put, Row.pB0, Row.pB1, Row.pB2])
 refine wpAnyH_take (i := 3) (oi := ⟨some 16, .unOp UnOp.not 4 (.tmp 15), 4, "l12_cache.go:79", #[⟨2, .data⟩], none⟩) (v := ?_) rfl (by kernel_rfl) (by kernel_rfl) (by kernel_rfl) (fun _ _ _ h => h) (Or.inl ⟨by rfl, ?_⟩) (by assumption) ?_
 rotate_left
 ·
  intro w' hSw; (try dsimp only at hSw); first | (go_simp; done) | (go_simp; with_reducible rfl)
 (try simp only [Act.put, Row.pB0, Row.pB1, Row.pB2])
 refine wpAnyH_take (i := 4) (oi := ⟨some 17, .move (.tmp 16), 4, "l12_cache.go:79", #[⟨3, .data⟩, ⟨2, .chain⟩], none⟩) (v := ?_) rfl (by kernel_rfl) (by kernel_rfl) (by kernel_rfl) (fun _ _ _ h => h) (Or.inl ⟨by rfl, ?_⟩) (by assumption) ?_
 rotate_left
 ·
  intro w' hSw; (try dsimp only at hSw); first | (go_simp; done) | (go_simp; with_reducible rfl)
 (try simp only [Act.put, Row.pB0, Row.pB1, Row.pB2])
 refine wpAnyH_take (i := 5) (oi := ⟨some 18, .load 76 (.tmp 1), 76, "l12_cache.go:79", #[⟨4, .guard⟩], some (4, false)⟩) (v := undef) rfl (by kernel_rfl) (by kernel_rfl) (by kernel_rfl) (fun _ _ _ h => h) (Or.inr ⟨by rfl, rfl⟩) (by assumption) ?_
 (try simp only [Act.put, Row.pB0, Row.pB1, Row.pB2])
 refine wpAnyH_take (i := 6) (oi := ⟨some 19, .fieldAddr 72 (.tmp 4) 0, 0, "l12_cache.go:79", #[⟨4, .guard⟩], some (4, false)⟩) (v := undef) rfl (by kernel_rfl) (by kernel_rfl) (by kernel_rfl) (fun _ _ _ h => h) (Or.inr ⟨by rfl, rfl⟩) (by assumption) ?_
 (try simp only [Act.put, Row.pB0, Row.pB1, Row.pB2])
 refine wpAnyH_take (i := 7) (oi := ⟨some 20, .fieldAddr 46 (.tmp 19) 0, 0, "l12_cache.go:79", #[⟨6, .data⟩, ⟨4, .guard⟩], some (4, false)⟩) (v := undef) rfl (by kernel_rfl) (by kernel_rfl) (by kernel_rfl) (fun _ _ _ h => h) (Or.inr ⟨by rfl, rfl⟩) (by assumption) ?_
 (try simp only [Act.put, Row.pB0, Row.pB1, Row.pB2])
 refine wpAnyH_take (i := 8) (oi := ⟨some 21, .load 44 (.tmp 20), 44, "l12_cache.go:79", #[⟨7, .data⟩, ⟨4, .guard⟩], some (4, false)⟩) (v := undef) rfl (by kernel_rfl) (by kernel_rfl) (by kernel_rfl) (fun _ _ _ h => h) (Or.inr ⟨by rfl, rfl⟩) (by assumption) ?_
 (try simp only [Act.put, Row.pB0, Row.pB1, Row.pB2])
 refine wpAnyH_take (i := 9) (oi := ⟨some 22, .call ⟨.value (.func 62), #[.tmp 21], #[44]⟩, 84, "l12_cache.go:79", #[⟨8, .data⟩, ⟨4, .chain⟩, ⟨4, .guard⟩], some (4, false)⟩) (v := undef) rfl (by kernel_rfl) (by kernel_rfl) (by kernel_rfl) (fun _ _ _ h => h) (Or.inr ⟨by rfl, rfl⟩) (by assumption) ?_
 (try simp only [Act.put, Row.pB0, Row.pB1, Row.pB2])
 refine wpAnyH_take (i := 10) (oi := ⟨some 23, .call ⟨.value (.func 72), #[.tmp 18, .tmp 22], #[76, 84]⟩, 3, "l12_cache.go:79", #[⟨5, .data⟩, ⟨9, .data⟩, ⟨9, .chain⟩, ⟨4, .guard⟩], some (4, false)⟩) (v := undef) rfl (by kernel_rfl) (by kernel_rfl) (by kernel_rfl) (fun _ _ _ h => h) (Or.inr ⟨by rfl, rfl⟩) (by assumption) ?_
 (try simp only [Act.put, Row.pB0, Row.pB1, Row.pB2])
 refine wpAnyH_take (i := 11) (oi := ⟨some 24, .move (.tmp 3), 3, "l12_cache.go:79", #[⟨4, .guard⟩], some (4, false)⟩) (v := undef) rfl (by kernel_rfl) (by kernel_rfl) (by kernel_rfl) (fun _ _ _ h => h) (Or.inr ⟨by rfl, rfl⟩) (by assumption) ?_
 (try simp only [Act.put, Row.pB0, Row.pB1, Row.pB2])
 refine wpAnyH_take (i := 12) (oi := ⟨some 25, .binOp BinOp.lss 3 (.tmp 23) (.tmp 24) 3, 4, "l12_cache.go:79", #[⟨10, .data⟩, ⟨11, .data⟩, ⟨4, .guard⟩], some (4, false)⟩) (v := undef) rfl (by kernel_rfl) (by kernel_rfl) (by kernel_rfl) (fun _ _ _ h => h) (Or.inr ⟨by rfl, rfl⟩) (by assumption) ?_
 (try simp only [Act.put, Row.pB0, Row.pB1, Row.pB2])
 refine wpAnyH_take (i := 13) (oi := ⟨some 26, .pick (.tmp 17) (.const (Value.bool true)) (.tmp 25), 4, "l12_cache.go:79", #[⟨4, .data⟩, ⟨12, .data⟩], none⟩) (v := ?_) rfl (by kernel_rfl) (by kernel_rfl) (by kernel_rfl) (fun _ _ _ h => h) (Or.inl ⟨by rfl, ?_⟩) (by assumption) ?_
 rotate_left
 ·
  intro w' hSw; (try dsimp only at hSw); first | (go_simp; done) | (go_simp; with_reducible rfl)
 (try simp only [Act.put, Row.pB0, Row.pB1, Row.pB2])
 refine wpAnyH_done (by kernel_rfl) ?_ _
 exact NoPanic.normal (HQ.out _ _ _ _ _ _ _ _ _ _ _ _ _  _  BB.out)
set_option maxRecDepth 100000 in
set_option maxHeartbeats 4000000 in
theorem rhv1 {Q : Exit → Act → World → Prop} {v0 v2 v5 v6 v7 v8 v9 v10 v11 v12 v13 v14 v15 v16 v17 v18 v19 v20 v21 v22 v23 v24 v25 v26 v27 : Value} {w : World} {b off n c g p k na ca nb cb nc cc_ : Nat} {xa xb xc : Option Addr} {f s cc : Int} {d : Dzt} {l : List Cet} {r : Int} (HV : Hid (validD d = true)) (H_d : Hid (kDz.At w (.agg #[.slice xa na ca, .slice xb nb cb, .slice xc nc cc_, .int .i64 f, .int .i64 s]) d)) (HDB : Hid (wtDz d ≤ 1200000)) (H_a : Hid (kN.At w (.agg #[.slice xa na ca]) d.1)) (HAB : Hid (bulk d.1 ≤ 1200000)) (HR : Hid (ixL (isE d.1) l = r)) (H_l : Hid (kLCe.At w (.slice (some ⟨b, off, none⟩) n c) l)) (HLL : Hid (l.length ≤ 9000000)) (HLP : Hid (∀ x ∈ l, wtCe x ≤ 1200000)) (K0 : Hid (w.cell? ⟨g, 0, none⟩ = some (.int .i64 cc))) (K1 : Hid (w.cell? ⟨g, 1, none⟩ = some (.slice (some ⟨b, off, none⟩) n c))) (E0 : Hid (w.cell? ⟨p, 0, none⟩ = some (.slice xa na ca))) (E1 : Hid (w.cell? ⟨p, 1, none⟩ = some (.slice xb nb cb))) (E2 : Hid (w.cell? ⟨p, 2, none⟩ = some (.slice xc nc cc_))) (E3 : Hid (w.cell? ⟨p, 3, none⟩ = some (.int .i64 f))) (E4 : Hid (w.cell? ⟨p, 4, none⟩ = some (.int .i64 s)))
  (hQ : ∀ (u13 u14 u15 u16 u17 u18 u19 u20 u21 u22 u23 u24 u25 : Value)  (wx : World), Below w.heap.size w wx → Q .normal ⟨#[v0, .pointer (some ⟨g, 0, none⟩), v2, .int .i64 k, .pointer (some ⟨p, 0, none⟩), v5, v6, v7, v8, v9, v10, v11, v12, u13, u14, u15, u16, u17, u18, u19, u20, u21, u22, u23, u24, u25, .bool (decide (r < (k : Int))), v27], []⟩ wx) :
  (Code.region 4 #[⟨some 13, .fieldAddr 72 (.tmp 4) 0, 0, "l12_cache.go:79", #[], none⟩,
   ⟨some 14, .load 46 (.tmp 13), 46, "l12_cache.go:79", #[⟨0, .data⟩], none⟩,
   ⟨some 15, .call ⟨.value (.func 60), #[.tmp 14], #[46]⟩, 4, "l12_cache.go:79", #[⟨1, .data⟩], none⟩,
   ⟨some 16, .unOp UnOp.not 4 (.tmp 15), 4, "l12_cache.go:79", #[⟨2, .data⟩], none⟩,
   ⟨some 17, .move (.tmp 16), 4, "l12_cache.go:79", #[⟨3, .data⟩, ⟨2, .chain⟩], none⟩,
   ⟨some 18, .load 76 (.tmp 1), 76, "l12_cache.go:79", #[⟨4, .guard⟩], some (4, false)⟩,
   ⟨some 19, .fieldAddr 72 (.tmp 4) 0, 0, "l12_cache.go:79", #[⟨4, .guard⟩], some (4, false)⟩,
   ⟨some 20, .fieldAddr 46 (.tmp 19) 0, 0, "l12_cache.go:79", #[⟨6, .data⟩, ⟨4, .guard⟩], some (4, false)⟩,
   ⟨some 21, .load 44 (.tmp 20), 44, "l12_cache.go:79", #[⟨7, .data⟩, ⟨4, .guard⟩], some (4, false)⟩,
   ⟨some 22, .call ⟨.value (.func 62), #[.tmp 21], #[44]⟩, 84, "l12_cache.go:79", #[⟨8, .data⟩, ⟨4, .chain⟩, ⟨4, .guard⟩], some (4, false)⟩,
   ⟨some 23, .call ⟨.value (.func 72), #[.tmp 18, .tmp 22], #[76, 84]⟩, 3, "l12_cache.go:79", #[⟨5, .data⟩, ⟨9, .data⟩, ⟨9, .chain⟩, ⟨4, .guard⟩], some (4, false)⟩,
   ⟨some 24, .move (.tmp 3), 3, "l12_cache.go:79", #[⟨4, .guard⟩], some (4, false)⟩,
   ⟨some 25, .binOp BinOp.lss 3 (.tmp 23) (.tmp 24) 3, 4, "l12_cache.go:79", #[⟨10, .data⟩, ⟨11, .data⟩, ⟨4, .guard⟩], some (4, false)⟩,
   ⟨some 26, .pick (.tmp 17) (.const (Value.bool true)) (.tmp 25), 4, "l12_cache.go:79", #[⟨4, .data⟩, ⟨12, .data⟩], none⟩] true).wp Try.prog Q ⟨#[v0, .pointer (some ⟨g, 0, none⟩), v2, .int .i64 k, .pointer (some ⟨p, 0, none⟩), v5, v6, v7, v8, v9, v10, v11, v12, v13, v14, v15, v16, v17, v18, v19, v20, v21, v22, v23, v24, v25, v26, v27], []⟩ w := by
 have HQ := Lib.hid hQ; clear hQ
 have hdr : Below w.heap.size w w.drew := (Below.refl _ _).drew
 have BB := Lib.hid hdr
 refine wp_region_noPanic ?_
 refine wp_region_held_drew (S := (fun w' => w'.cell? ⟨g, 0, none⟩ = some (.int .i64 cc) ∧ w'.cell? ⟨g, 1, none⟩ = some (.slice (some ⟨b, off, none⟩) n c) ∧ w'.cell? ⟨p, 0, none⟩ = some (.slice xa na ca) ∧ w'.cell? ⟨p, 1, none⟩ = some (.slice xb nb cb) ∧ w'.cell? ⟨p, 2, none⟩ = some (.slice xc nc cc_) ∧ w'.cell? ⟨p, 3, none⟩ = some (.int .i64 f) ∧ w'.cell? ⟨p, 4, none⟩ = some (.int .i64 s))) (by kernel_rfl) ?_ (fun hHeld => ?_)
 ·
  exact ⟨kc K0.out BB.out, kc K1.out BB.out, kc E0.out BB.out, kc E1.out BB.out, kc E2.out BB.out, kc E3.out BB.out, kc E4.out BB.out⟩
 clear hdr
 generalize w.drew = wd at *
 refine wpAnyH_take (i := 0) (oi := ⟨some 13, .fieldAddr 72 (.tmp 4) 0, 0, "l12_cache.go:79", #[], none⟩) (v := ?_) rfl (by kernel_rfl) (by kernel_rfl) (by kernel_rfl) (fun _ _ _ h => h) (Or.inl ⟨by rfl, ?_⟩) (by assumption) ?_
 rotate_left
 ·
  intro w' hSw; (try dsimp only at hSw); first | (go_simp; done) | (go_simp; with_reducible rfl)
 (try simp only [Act.put, Row.pB0, Row.pB1, Row.pB2])
 refine wpAnyH_take (i := 1) (oi := ⟨some 14, .load 46 (.tmp 13), 46, "l12_cache.go:79", #[⟨0, .data⟩], none⟩) (v := ?_) rfl (by kernel_rfl) (by kernel_rfl) (by kernel_rfl) (fun _ _ _ h => h) (Or.inl ⟨by rfl, ?_⟩) (by assumption) ?_
 rotate_left
 ·
  intro w' hSw; (try dsimp only at hSw); first | (go_simp; done) | (go_simp; with_reducible rfl)
 (try simp only [Act.put, Row.pB0, Row.pB1, Row.pB2])
 refine wpAnyH_ready (rs := [2]) (by kernel_rfl) (by simp) ?_
 refine AllReadyH.cons (o := ⟨some 15, .call ⟨.value (.func 60), #[.tmp 14], #[46]⟩, 4, "l12_cache.go:79", #[⟨1, .data⟩], none⟩) rfl (fun K hK => ?_) AllReadyH.nil
 go_simp
 refine (iValZ true HV.out (H_d.out.on BB.out) (Nat.le_trans HDB.out (by decide))).mono ?_
 rintro e wn1 ⟨rfl, hb⟩
 replace BB := Lib.hid (BB.out.trans (hb.mono BB.out.size))
 clear hb
 (try go_wp2_with fail)
 clear hHeld
 refine hK.out _ _ ?_ (fun hHeld => ?_)
 ·
  (try dsimp only); exact ⟨kc K0.out BB.out, kc K1.out BB.out, kc E0.out BB.out, kc E1.out BB.out, kc E2.out BB.out, kc E3.out BB.out, kc E4.out BB.out⟩
 clear hK K
 (try simp only [Act.put, Row.pB0, Row.pB1, Row.pB2])
 refine wpAnyH_take (i := 3) (oi := ⟨some 16, .unOp UnOp.not 4 (.tmp 15), 4, "l12_cache.go:79", #[⟨2, .data⟩], none⟩) (v := ?_) rfl (by kernel_rfl) (by kernel_rfl) (by kernel_rfl) (fun _ _ _ h => h) (Or.inl ⟨by rfl, ?_⟩) (by assumption) ?_
 rotate_left
 ·
  intro w' hSw; (try dsimp only at hSw); first | (go_simp; done) | (go_simp; with_reducible rfl)
 (try simp only [Act.put, Row.pB0, Row.pB1, Row.pB2])
 refine wpAnyH_take (i := 4) (oi := ⟨some 17, .move (.tmp 16), 4, "l12_cache.go:79", #[⟨3, .data⟩, ⟨2, .chain⟩], none⟩) (v := ?_) rfl (by kernel_rfl) (by kernel_rfl) (by kernel_rfl) (fun _ _ _ h => h) (Or.inl ⟨by rfl, ?_⟩) (by assumption) ?_
 rotate_left
 ·
  intro w' hSw; (try dsimp only at hSw); first | (go_simp; done) | (go_simp; with_reducible rfl)
 (try simp only [Act.put, Row.pB0, Row.pB1, Row.pB2])
 refine wpAnyH_take (i := 5) (oi := ⟨some 18, .load 76 (.tmp 1), 76, "l12_cache.go:79", #[⟨4, .guard⟩], some (4, false)⟩) (v := ?_) rfl (by kernel_rfl) (by kernel_rfl) (by kernel_rfl) (fun _ _ _ h => h) (Or.inl ⟨by rfl, ?_⟩) (by assumption) ?_
 rotate_left
 ·
  intro w' hSw; (try dsimp only at hSw); first | (go_simp; done) | (go_simp; with_reducible rfl)
 (try simp only [Act.put, Row.pB0, Row.pB1, Row.pB2])
 refine wpAnyH_take (i := 6) (oi := ⟨some 19, .fieldAddr 72 (.tmp 4) 0, 0, "l12_cache.go:79", #[⟨4, .guard⟩], some (4, false)⟩) (v := ?_) rfl (by kernel_rfl) (by kernel_rfl) (by kernel_rfl) (fun _ _ _ h => h) (Or.inl ⟨by rfl, ?_⟩) (by assumption) ?_
 rotate_left
 ·
  intro w' hSw; (try dsimp only at hSw); first | (go_simp; done) | (go_simp; with_reducible rfl)
 (try simp only [Act.put, Row.pB0, Row.pB1, Row.pB2])
 refine wpAnyH_take (i := 7) (oi := ⟨some 20, .fieldAddr 46 (.tmp 19) 0, 0, "l12_cache.go:79", #[⟨6, .data⟩, ⟨4, .guard⟩], some (4, false)⟩) (v := ?_) rfl (by kernel_rfl) (by kernel_rfl) (by kernel_rfl) (fun _ _ _ h => h) (Or.inl ⟨by rfl, ?_⟩) (by assumption) ?_
 rotate_left
 ·
  intro w' hSw; (try dsimp only at hSw); first | (go_simp; done) | (go_simp; with_reducible rfl)
 (try simp only [Act.put, Row.pB0, Row.pB1, Row.pB2])
 refine wpAnyH_take (i := 8) (oi := ⟨some 21, .load 44 (.tmp 20), 44, "l12_cache.go:79", #[⟨7, .data⟩, ⟨4, .guard⟩], some (4, false)⟩) (v := ?_) rfl (by kernel_rfl) (by kernel_rfl) (by kernel_rfl) (fun _ _ _ h => h) (Or.inl ⟨by rfl, ?_⟩) (by assumption) ?_
 rotate_left
 ·
  intro w' hSw; (try dsimp only at hSw); first | (go_simp; done) | (go_simp; with_reducible rfl)
 (try simp only [Act.put, Row.pB0, Row.pB1, Row.pB2])
 refine wpAnyH_take (i := 11) (oi := ⟨some 24, .move (.tmp 3), 3, "l12_cache.go:79", #[⟨4, .guard⟩], some (4, false)⟩) (v := ?_) rfl (by kernel_rfl) (by kernel_rfl) (by kernel_rfl) (fun _ _ _ h => h) (Or.inl ⟨by rfl, ?_⟩) (by assumption) ?_
 rotate_left
 ·
  intro w' hSw; (try dsimp only at hSw); first | (go_simp; done) | (go_simp; with_reducible rfl)
 (try simp only [Act.put, Row.pB0, Row.pB1, Row.pB2])
 refine wpAnyH_ready (rs := [9]) (by kernel_rfl) (by simp) ?_
 refine AllReadyH.cons (o := ⟨some 22, .call ⟨.value (.func 62), #[.tmp 21], #[44]⟩, 84, "l12_cache.go:79", #[⟨8, .data⟩, ⟨4, .chain⟩, ⟨4, .guard⟩], some (4, false)⟩) rfl (fun K hK => ?_) AllReadyH.nil
 go_simp
 refine (iNamed _ _ _ _).mono ?_
 rintro e wn2 ⟨gN, rfl, hgN, hXN, hb⟩
 have HXN := Lib.hid hXN; clear hXN hgN
 replace BB := Lib.hid (BB.out.trans (hb.mono BB.out.size))
 clear hb
 (try go_wp2_with fail)
 clear hHeld
 refine hK.out _ _ ?_ (fun hHeld => ?_)
 ·
  (try dsimp only); exact ⟨kc K0.out BB.out, kc K1.out BB.out, kc E0.out BB.out, kc E1.out BB.out, kc E2.out BB.out, kc E3.out BB.out, kc E4.out BB.out⟩
 clear hK K
 (try simp only [Act.put, Row.pB0, Row.pB1, Row.pB2])
 refine wpAnyH_ready (rs := [10]) (by kernel_rfl) (by simp) ?_
 refine AllReadyH.cons (o := ⟨some 23, .call ⟨.value (.func 72), #[.tmp 18, .tmp 22], #[76, 84]⟩, 3, "l12_cache.go:79", #[⟨5, .data⟩, ⟨9, .data⟩, ⟨9, .chain⟩, ⟨4, .guard⟩], some (4, false)⟩) rfl (fun K hK => ?_) AllReadyH.nil
 go_simp
 refine (iFindNd gN _ _ _ d.1 _ _ _ cc l _ r HR.out (H_l.out.on BB.out) HXN.out (H_a.out.on BB.out) HLL.out HLP.out HAB.out).mono ?_
 rintro e wn3 ⟨rfl, hb⟩
 replace HXN := Lib.hid (HXN.out.on hb)
 replace BB := Lib.hid (BB.out.trans (hb.mono BB.out.size))
 clear hb
 (try go_wp2_with fail)
 clear hHeld
 refine hK.out _ _ ?_ (fun hHeld => ?_)
 ·
  (try dsimp only); exact ⟨kc K0.out BB.out, kc K1.out BB.out, kc E0.out BB.out, kc E1.out BB.out, kc E2.out BB.out, kc E3.out BB.out, kc E4.out BB.out⟩
 clear hK K
 (try simp only [Act.put, Row.pB0, Row.pB1, Row.pB2])
 refine wpAnyH_take (i := 12) (oi := ⟨some 25, .binOp BinOp.lss 3 (.tmp 23) (.tmp 24) 3, 4, "l12_cache.go:79", #[⟨10, .data⟩, ⟨11, .data⟩, ⟨4, .guard⟩], some (4, false)⟩) (v := ?_) rfl (by kernel_rfl) (by kernel_rfl) (by kernel_rfl) (fun _ _ _ h => h) (Or.inl ⟨by rfl, ?_⟩) (by assumption) ?_
 rotate_left
 ·
  intro w' hSw; (try dsimp only at hSw); first | (go_simp; done) | (go_simp; with_reducible rfl)
 (try simp only [Act.put, Row.pB0, Row.pB1, Row.pB2])
 refine wpAnyH_take (i := 13) (oi := ⟨some 26, .pick (.tmp 17) (.const (Value.bool true)) (.tmp 25), 4, "l12_cache.go:79", #[⟨4, .data⟩, ⟨12, .data⟩], none⟩) (v := ?_) rfl (by kernel_rfl) (by kernel_rfl) (by kernel_rfl) (fun _ _ _ h => h) (Or.inl ⟨by rfl, ?_⟩) (by assumption) ?_
 rotate_left
 ·
  intro w' hSw; (try dsimp only at hSw); first | (go_simp; done) | (go_simp; with_reducible rfl)
 (try simp only [Act.put, Row.pB0, Row.pB1, Row.pB2])
 refine wpAnyH_done (by kernel_rfl) ?_ _
 exact NoPanic.normal (HQ.out _ _ _ _ _ _ _ _ _ _ _ _ _  _  BB.out)
set_option maxHeartbeats 8000000 in
theorem implHasValid (x : Option Addr) (n c : Nat) (cc : Int) (l : List Cet) (w : World) (z : Bool) (hz : validE l l.length = z) (h : kLCe.At w (.slice x n c) l) (hl : l.length ≤ 9000000) (hp : ∀ x ∈ l, wtCe x ≤ 1200000) :
    Calls Try.prog 53 #[.agg #[.int .i64 cc, .slice x n c]] w fun e w' => e = .returned (.bool z) ∧ Below w.heap.size w w' := by
  have HAT := Lib.hid h
  obtain ⟨x', n', c', L, e9, hn, ht, hh, hel⟩ := kLCe_at h
  cases e9
  have hlen : l.length = n := by rw [← ht, List.length_map]; exact hn.symm
  rw [hlen] at hl hz
  have hcap : n ≤ c := by obtain ⟨x', n', cap', hv, hn', hc', -⟩ := hh.shapeN; cases hv; exact hc'
  have b1 := (Below.refl w.heap.size w).alloc (Nat.le_refl _) (.cells #[.int .i64 cc, .slice x n c] 76)
  have HX := Lib.hid (Ret.Blk.new w #[.int .i64 cc, .slice x n c] 76)
  have HB := Lib.hid b1; have HZ := Lib.hid hz
  have HN := Lib.hid hn; have HT := Lib.hid ht; have HH := Lib.hid hh; have HEL := Lib.hid hel; have HLEN := Lib.hid hlen; have HP := Lib.hid hp
  clear b1 hz hn ht hh hel hlen hp h
  go_enter Try.func53, Try.ntmps53
  go_wp2
  go_loopw [8] (fun iv wr => ∃ i : Nat, i ≤ n ∧ iv = .int .i64 i ∧ Hid (validE l i = true) ∧ Hid (Ret.Blk wr w.heap.size #[.int .i64 cc, .slice x n c] 76) ∧ Hid (Below w.heap.size w wr)) (fun iv _ => n - (intOf iv).toNat)
  case atStart => exact ⟨0, Nat.zero_le _, rfl, Lib.hid rfl, HX, HB⟩
  case round =>
    obtain ⟨k, hk, rfl, ha, hx, hb⟩ := hrel
    by_cases hlt : k < n
    · have hlen := HN.out
      obtain ⟨b, off, y0, m0, d0, y1, m1, d1, y2, m2, d2, rfl, -, hc0, hc1, hc2, hc3, hc4, hc5, hA⟩ := kLCe_elem (HH.out.on hb.out) (fun y hy => kCe.holds_on (HEL.out y hy) hb.out) (j := k) (by omega)
      have hpt : nth l k = kCe.strip (nth L k) := by rw [← HT.out, nth_map _ (by omega)]
      have hps := HP.out (nth l k) (nth_mem (by have := HLEN.out; omega))
      rw [← hpt] at hA hc3 hc4 hc5
      obtain ⟨hD, hNM⟩ := kCe_parts hA
      have HA := Lib.hid hA; have HD := Lib.hid hD; have HNM := Lib.hid hNM; have HPS := Lib.hid hps; have HPD := Lib.hid (show wtDz (nth l k).1 ≤ 1200000 from hps); have HPN := Lib.hid (show bulk (nth l k).1.1 ≤ 1200000 from (wtDz_lens _ hps).1)
      have H0 := Lib.hid hc0; have H1 := Lib.hid hc1; have H2 := Lib.hid hc2; have H3 := Lib.hid hc3; have H4 := Lib.hid hc4; have H5 := Lib.hid hc5
      clear hlen hpt hps hA hD hNM
      have hal := (Below.refl wr.heap.size wr).alloc (Nat.le_refl _) (.cells #[.slice y0 m0 d0, .slice y1 m1 d1, .slice y2 m2 d2, .int .i64 (nth l k).1.2.2.2.1, .int .i64 (nth l k).1.2.2.2.2, .int .i64 (nth l k).2] 72)
      have hXE := Ret.Blk.new wr #[.slice y0 m0 d0, .slice y1 m1 d1, .slice y2 m2 d2, .int .i64 (nth l k).1.2.2.2.1, .int .i64 (nth l k).1.2.2.2.2, .int .i64 (nth l k).2] 72
      have hx2 := Lib.hid (hx.out.on hal); have hb2 := Lib.hid (hb.out.trans (hal.mono hb.out.size))
      have HD2 := Lib.hid (HD.out.on hal); have HN2 := Lib.hid (HNM.out.on hal); have HL2 := Lib.hid (HAT.out.on (hb.out.trans (hal.mono hb.out.size)))
      have F0 := Lib.hid (hXE.cell 0); have F1 := Lib.hid (hXE.cell 1); have F2 := Lib.hid (hXE.cell 2); have F3 := Lib.hid (hXE.cell 3); have F4 := Lib.hid (hXE.cell 4)
      have G0 := Lib.hid (hx2.out.cell 0); have G1 := Lib.hid (hx2.out.cell 1)
      have HLL := Lib.hid (show l.length ≤ 9000000 by have := HLEN.out; omega)
      obtain ⟨v, hv⟩ : ∃ v, validD (nth l k).1 = v := ⟨_, rfl⟩
      obtain ⟨r, hr⟩ : ∃ r, ixL (isE (nth l k).1.1) l = r := ⟨_, rfl⟩
      have HV := Lib.hid hv; have HR := Lib.hid hr; clear hv hr hal hXE
      go_wp2_with fail
      clear hc0 hc1 hc2 hc3 hc4 hc5
      cases v with
      | false =>
        refine rhv0 HV HD2 HPD F0 F1 F2 F3 F4 ?_
        intro u13 u14 u15 u16 u17 u18 u19 u20 u21 u22 u23 u24 u25 wx hbx
        have hb3 := Lib.hid (hb2.out.trans (hbx.mono hb2.out.size))
        have HE : Hid (z = false) := Lib.hid (by
          rw [← HZ.out]; exact validE_le (k := k + 1) (by unfold validE; rw [HV.out]; simp) (by omega))
        clear hbx
        go_wp2
        go_ret
        exact ⟨ret_bool HE.out.symm, hb3.out⟩
      | true =>
        refine rhv1 (l := l) HV HD2 HPD HN2 HPN HR HL2 HLL HP G0 G1 F0 F1 F2 F3 F4 ?_
        intro u13 u14 u15 u16 u17 u18 u19 u20 u21 u22 u23 u24 u25 wx hbx
        have hb3 := Lib.hid (hb2.out.trans (hbx.mono hb2.out.size)); have hx3 := Lib.hid (hx2.out.on hbx)
        have HTK : Hid (decide (r < (k : Int)) = (l.take k).any (isE (nth l k).1.1)) := Lib.hid (by rw [← HR.out]; exact ixL_take (by have := HLEN.out; omega) rfl)
        clear hbx
        by_cases h0 : r < (k : Int)
        · have t0 : decide (r < (k : Int)) = true := decide_eq_true h0
          have HE : Hid (z = false) := Lib.hid (by
            rw [← HZ.out]; exact validE_le (k := k + 1) (by unfold validE; rw [← HTK.out, t0]; simp) (by omega))
          go_wp2
          go_ret
          exact ⟨ret_bool HE.out.symm, hb3.out⟩
        · have t0 : decide (r < (k : Int)) = false := decide_eq_false h0
          have HA2 : Hid (validE l (k + 1) = true) := Lib.hid (by unfold validE; rw [ha.out, ← HTK.out, t0, HV.out]; rfl)
          go_wp2
          go_roundw
          case rel => exact ⟨k + 1, by omega, by go_num, HA2, hx3, hb3⟩
          case measure => simp [intOf]; omega
    · obtain rfl : k = n := by omega
      clear hlt
      have HE : Hid (z = true) := Lib.hid (by rw [← HZ.out]; exact ha.out)
      go_wp2
      go_ret
      exact ⟨ret_bool HE.out.symm, hb.out⟩
set_option maxHeartbeats 4000000 in
theorem implValidContentStore (V : Value) (x : Cnt) (w : World) (z : Bool) (hz : validC x = z) (h : kCn.At w V x) (hp : FitC x) :
    Calls Try.prog 19 #[V] w fun e w' => e = .returned (.bool z) ∧ Below w.heap.size w w' := by
  obtain ⟨x1_0, n1_0, c1_0, rfl, g1⟩ := kCn_at h
  clear h
  have hp9 := hp.each; have hl := hp.len
  obtain ⟨cc, l⟩ := x
  dsimp only at g1 hp9 hl hz ⊢
  have hlen : n1_0 = l.length := by obtain ⟨x', n', c', L, e9, hn, ht, -, -⟩ := kLCe_at g1; cases e9; rw [← ht, List.length_map]; exact hn
  have b1 := (Below.refl w.heap.size w).alloc (Nat.le_refl _) (.cells #[.int .i64 cc, .slice x1_0 n1_0 c1_0] 24)
  have hX := Ret.Blk.new w #[.int .i64 cc, .slice x1_0 n1_0 c1_0] 24
  obtain ⟨q, hq⟩ : ∃ q, Num.inB cc 0 8 = q := ⟨_, rfl⟩
  obtain ⟨v, hv⟩ : ∃ v, validE l l.length = v := ⟨_, rfl⟩
  unfold validC at hz
  dsimp only at hz
  rw [hq, hv, ← hlen] at hz
  have HAT := Lib.hid (g1.on b1); have HX := Lib.hid hX; have HB := Lib.hid b1; have HZ := Lib.hid hz; have HQ := Lib.hid hq; have HV := Lib.hid hv; have HL := Lib.hid hl; have HP := Lib.hid hp9
  have q0 : (w.alloc (.cells #[.int .i64 cc, .slice x1_0 n1_0 c1_0] 24)).cell? ⟨w.heap.size, 0, none⟩ = some (.int .i64 cc) := hX.cell 0
  clear g1 hX b1 hz hq hv hl hp9 hp hlen
  go_enter Try.func19, Try.ntmps19
  go_wp2_with fail
  refine (iInV q HQ.out).mono ?_
  rintro e w1 ⟨rfl, hb1⟩
  have hx2 := Lib.hid (HX.out.on hb1); have hb2 := Lib.hid (HB.out.trans (hb1.mono HB.out.size)); have HAT2 := Lib.hid (HAT.out.on hb1)
  clear hb1 q0
  have q0 : w1.cell? ⟨w.heap.size, 0, none⟩ = some (.int .i64 cc) := hx2.out.cell 0
  have q1 : w1.cell? ⟨w.heap.size, 1, none⟩ = some (.slice x1_0 n1_0 c1_0) := hx2.out.cell 1
  cases q with
  | false =>
    have HE : Hid (z = false) := Lib.hid (by rw [← HZ.out]; simp)
    go_wp2
    go_ret
    exact ⟨ret_bool HE.out.symm, hb2.out⟩
  | true =>
    by_cases h1 : (n1_0 : Int) ≤ cc
    · have HE : Hid (z = v) := Lib.hid (by rw [← HZ.out]; simp [h1])
      go_wp2_with fail
      refine (implHasValid _ _ _ cc l _ v HV.out HAT2.out HL.out HP.out).mono ?_
      rintro e w2 ⟨rfl, hb3⟩
      have hb4 := Lib.hid (hb2.out.trans (hb3.mono hb2.out.size)); clear hb3
      go_wp2
      go_ret
      exact ⟨ret_bool HE.out.symm, hb4.out⟩
    · have HE : Hid (z = false) := Lib.hid (by rw [← HZ.out]; simp [h1])
      go_wp2
      go_ret
      exact ⟨ret_bool HE.out.symm, hb2.out⟩
set_option maxHeartbeats 2000000 in
theorem specNewContentStore (k : Int) (w : World) :
    Calls Try.prog 11 #[.int .i64 k] w fun e w' => ∃ U, e = .returned U ∧ kCn.In w.heap.size w'.heap.size w' U (newC k) ∧ Below w.heap.size w w' := by
  obtain ⟨q, hq⟩ : ∃ q, Num.inB k 0 8 = q := ⟨_, rfl⟩
  have hB := (Below.refl w.heap.size w).alloc (Nat.le_refl _) (.cells #[.int .i64 0, .slice none 0 0] 24)
  have HX := Lib.hid (Ret.Blk.new w #[.int .i64 0, .slice none 0 0] 24); have HB := Lib.hid hB; have HQ := Lib.hid hq
  have HK : Hid (newC k = (if q = true then k else 0, [])) := Lib.hid (by unfold newC; rw [hq])
  clear hB hq
  go_enter Try.func11, Try.ntmps11
  go_wp2_with fail
  refine (sInV q HQ.out).mono ?_
  rintro e w1 ⟨rfl, hb⟩
  have HX2 := Lib.hid (HX.out.on hb); have HB2 := Lib.hid (HB.out.trans (hb.mono HB.out.size)); clear hb
  have q0 := HX2.out.cell 0; have q1 := HX2.out.cell 1; have t0 := HX2.out.frozen 0; have t1 := HX2.out.frozen 1
  cases q with
  | true =>
    have Z := Lib.hid ((HX2.out.set 0 (.int .i64 k)).set 1 (.slice none 0 0))
    have ZB := Lib.hid ((HB2.out.setCell (p := ⟨w.heap.size, 0, none⟩) (Nat.le_refl _) (.int .i64 k)).setCell (p := ⟨w.heap.size, 1, none⟩) (Nat.le_refl _) (.slice none 0 0))
    go_wp2_with fail
    refine bodyPost_ret (Ret.results_c rfl _ _ w.heap.size [.int .i64 k, .slice none 0 0] rfl aggCn Z.out.cells) rfl ?_
    rw [HK.out]
    exact ⟨_, rfl, cn_in (le_nil w.heap.size _) (Nat.le_refl _) rfl ZB.out.size, ZB.out⟩
  | false =>
    have Z := Lib.hid ((HX2.out.set 0 (.int .i64 0)).set 1 (.slice none 0 0))
    have ZB := Lib.hid ((HB2.out.setCell (p := ⟨w.heap.size, 0, none⟩) (Nat.le_refl _) (.int .i64 0)).setCell (p := ⟨w.heap.size, 1, none⟩) (Nat.le_refl _) (.slice none 0 0))
    go_wp2_with fail
    refine bodyPost_ret (Ret.results_c rfl _ _ w.heap.size [.int .i64 0, .slice none 0 0] rfl aggCn Z.out.cells) rfl ?_
    rw [HK.out]
    exact ⟨_, rfl, cn_in (le_nil w.heap.size _) (Nat.le_refl _) rfl ZB.out.size, ZB.out⟩
set_option maxHeartbeats 2000000 in
theorem implNewContentStore (k : Int) (w : World) :
    Calls Try.prog 12 #[.int .i64 k] w fun e w' => ∃ U, e = .returned U ∧ kCn.In w.heap.size w'.heap.size w' U (newC k) ∧ Below w.heap.size w w' := by
  obtain ⟨q, hq⟩ : ∃ q, Num.inB k 0 8 = q := ⟨_, rfl⟩
  have hB := (Below.refl w.heap.size w).alloc (Nat.le_refl _) (.cells #[.int .i64 0, .slice none 0 0] 24)
  have HX := Lib.hid (Ret.Blk.new w #[.int .i64 0, .slice none 0 0] 24); have HB := Lib.hid hB; have HQ := Lib.hid hq
  have HK : Hid (newC k = (if q = true then k else 0, [])) := Lib.hid (by unfold newC; rw [hq])
  clear hB hq
  go_enter Try.func12, Try.ntmps12
  go_wp2_with fail
  refine (iInV q HQ.out).mono ?_
  rintro e w1 ⟨rfl, hb⟩
  have HX2 := Lib.hid (HX.out.on hb); have HB2 := Lib.hid (HB.out.trans (hb.mono HB.out.size)); clear hb
  have q0 := HX2.out.cell 0; have q1 := HX2.out.cell 1; have t0 := HX2.out.frozen 0; have t1 := HX2.out.frozen 1
  cases q with
  | true =>
    have Z := Lib.hid ((HX2.out.set 0 (.int .i64 k)).set 1 (.slice none 0 0))
    have ZB := Lib.hid ((HB2.out.setCell (p := ⟨w.heap.size, 0, none⟩) (Nat.le_refl _) (.int .i64 k)).setCell (p := ⟨w.heap.size, 1, none⟩) (Nat.le_refl _) (.slice none 0 0))
    go_wp2_with fail
    refine bodyPost_ret (Ret.results_c rfl _ _ w.heap.size [.int .i64 k, .slice none 0 0] rfl aggCn Z.out.cells) rfl ?_
    rw [HK.out]
    exact ⟨_, rfl, cn_in (le_nil w.heap.size _) (Nat.le_refl _) rfl ZB.out.size, ZB.out⟩
  | false =>
    have Z := Lib.hid ((HX2.out.set 0 (.int .i64 0)).set 1 (.slice none 0 0))
    have ZB := Lib.hid ((HB2.out.setCell (p := ⟨w.heap.size, 0, none⟩) (Nat.le_refl _) (.int .i64 0)).setCell (p := ⟨w.heap.size, 1, none⟩) (Nat.le_refl _) (.slice none 0 0))
    go_wp2_with fail
    refine bodyPost_ret (Ret.results_c rfl _ _ w.heap.size [.int .i64 0, .slice none 0 0] rfl aggCn Z.out.cells) rfl ?_
    rw [HK.out]
    exact ⟨_, rfl, cn_in (le_nil w.heap.size _) (Nat.le_refl _) rfl ZB.out.size, ZB.out⟩
end Go.Proofs.Ythfljbbigpophaa.Row
/- Lists of elements of a kind, marked part by part: what a part's marking leaves of the list. For any kind and any program. No conditions. -/
namespace Go.Proofs.Ythfljbbigpophaa.Row
open Go.ChangeShapes Go.WideShapes Go.ChangeAt Go.RowKit Go.Instr
set_option linter.unusedVariables false
set_option linter.unusedSectionVars false
set_option maxRecDepth 100000
section
variable {α M β N : Type} [Inhabited M] {k : Kd α M} {l : Kd β N} {B E : Nat} {w w' : World} {P : Program}
def MarkF (P : Program) (k : Kd α M) (fn : FuncId) (arg : M → Value) (adv : α → Nat) (mk : Int → α → α) : Prop :=
  ∀ (B E : Nat) (x : M) (w : World) (q : Int), k.Own B E w x → adv (k.strip x) ≤ 100000000 → 0 ≤ q → q + (adv (k.strip x) : Int) ≤ 100000000000 →
    Calls P fn #[arg x, .int .i64 q] w fun e w' => e = .returned (.int .i64 (q + (adv (k.strip x) : Int))) ∧ ∃ x', k.cells x' = k.cells x ∧ k.blocks x' = k.blocks x ∧ k.strip x' = mk q (k.strip x) ∧ k.Own B E w' x' ∧ WroteBy (k.blocks x) w w'
theorem MarkF.fst {fn : FuncId} {arg : M → Value} {adv : α → Nat} {mk : Int → α → α} (h : MarkF P k fn arg adv mk) (l : Kd β N) : MarkF P (k.pair l) fn (fun x => arg x.1) (fun a => adv a.1) (fun q a => (mk q a.1, a.2)) := by
  intro B E x w q ho hl h0 h1
  obtain ⟨m, n⟩ := x
  obtain ⟨o1, o2, hd⟩ := ho.parts
  refine (h B E m w q o1 hl h0 h1).mono ?_
  rintro e w' ⟨rfl, m', c, b, s, o, hw⟩
  refine ⟨rfl, (m', n), ?_, ?_, ?_, ?_, ?_⟩
  · show k.cells m' ++ l.cells n = k.cells m ++ l.cells n
    rw [c]
  · show k.blocks m' ++ l.blocks n = k.blocks m ++ l.blocks n
    rw [b]
  · show (k.strip m', l.strip n) = (mk q (k.strip m), l.strip n)
    rw [s]
  · exact Kd.Own.join o (hw.own o2 (fun g hg hg2 => hd g hg2 hg)) (by rw [b]; exact hd)
  · exact hw.more (fun g hg => List.mem_append_left _ hg)
theorem MarkF.snd {fn : FuncId} {arg : N → Value} {adv : β → Nat} {mk : Int → β → β} (h : MarkF P l fn arg adv mk) (k : Kd α M) : MarkF P (k.pair l) fn (fun x => arg x.2) (fun a => adv a.2) (fun q a => (a.1, mk q a.2)) := by
  intro B E x w q ho hl h0 h1
  obtain ⟨m, n⟩ := x
  obtain ⟨o1, o2, hd⟩ := ho.parts
  refine (h B E n w q o2 hl h0 h1).mono ?_
  rintro e w' ⟨rfl, n', c, b, s, o, hw⟩
  refine ⟨rfl, (m, n'), ?_, ?_, ?_, ?_, ?_⟩
  · show k.cells m ++ l.cells n' = k.cells m ++ l.cells n
    rw [c]
  · show k.blocks m ++ l.blocks n' = k.blocks m ++ l.blocks n
    rw [b]
  · show (k.strip m, l.strip n') = (k.strip m, mk q (l.strip n))
    rw [s]
  · exact Kd.Own.join (hw.own o1 (fun g hg hg2 => hd g hg hg2)) o (by rw [b]; exact hd)
  · exact hw.more (fun g hg => List.mem_append_right _ hg)
theorem flat_disj {γ : Type} {f : γ → List Nat} {L : List γ} (h : (L.flatMap f).Nodup) {i j : Nat} (hi : i < L.length) (hj : j < L.length) (hne : i ≠ j) : ∀ q ∈ f L[i], q ∉ f L[j] := by
  have h2 := (List.pairwise_flatMap.1 h).2
  have h3 := List.pairwise_iff_getElem.1 h2
  intro q hq hq2
  rcases Nat.lt_or_gt_of_ne hne with hl | hl
  · exact h3 i j hi hj hl q hq q hq2 rfl
  · exact h3 j i hj hi hl q hq2 q hq rfl
theorem flatB_one {γ : Type} {f : γ → List Nat} {L : List γ} (h : (L.flatMap f).Nodup) {j : Nat} (hj : j < L.length) : (f L[j]).Nodup :=
  (List.pairwise_flatMap.1 h).1 _ (List.getElem_mem hj)
theorem flatMap_set {γ δ : Type} {f : γ → List δ} {L : List γ} {j : Nat} (hj : j < L.length) {y : γ} (e : f y = f L[j]) : (L.set j y).flatMap f = L.flatMap f := by
  rw [List.flatMap_def, List.flatMap_def, List.map_set]
  congr 1
  have : f y = (L.map f)[j]'(by simpa using hj) := by simp [e]
  rw [this, List.set_getElem_self]
variable {e : TypeId} {ad : Option Addr} {n cap j : Nat} {L : List M}
theorem Kd.Own.row (h : (k.slice e).Own B E w ⟨ad, n, cap, L⟩) : OwnK e k.cells k.size B w (.slice ad n cap) L := h.1.1
theorem Kd.Own.apart (h : (k.slice e).Own B E w ⟨ad, n, cap, L⟩) : (L.flatMap k.blocks).Nodup ∧ ∀ g, (Value.slice ad n cap).ownBlock = some g → g ∉ L.flatMap k.blocks := by
  have h2 : ((Value.slice ad n cap).ownBlock.toList ++ L.flatMap k.blocks).Nodup := h.2.1
  have h3 := List.nodup_append.1 h2
  exact ⟨h3.2.1, fun g hg hg2 => h3.2.2 g (by simp [hg]) g hg2 rfl⟩
theorem Kd.Own.elem (h : (k.slice e).Own B E w ⟨ad, n, cap, L⟩) (hj : j < L.length) : k.Own B E w (nth L j) := by
  rw [nth_eq hj]
  refine ⟨h.1.2 _ (List.getElem_mem hj), flatB_one h.apart.1 hj, fun g hg => h.2.2 g ?_⟩
  exact List.mem_append_right _ (List.mem_flatMap.2 ⟨_, List.getElem_mem hj, hg⟩)
theorem Kd.Own.part (h : (k.slice e).Own B E w ⟨ad, n, cap, L⟩) (hj : j < L.length) {x' : M} (hc : k.cells x' = k.cells (nth L j)) (hb : k.blocks x' = k.blocks (nth L j)) (ho : k.Own B E w' x') (hw : WroteBy (k.blocks (nth L j)) w w') :
    (k.slice e).Own B E w' ⟨ad, n, cap, L.set j x'⟩ ∧ WroteBy (L.flatMap k.blocks) w w' := by
  rw [nth_eq hj] at hc hb hw
  obtain ⟨hnd, hrow⟩ := h.apart
  have hfb := flatMap_set hj hb
  have hfc : Row.flat k.cells (L.set j x') = Row.flat k.cells L := by
    unfold Row.flat
    exact flatMap_set hj hc
  refine ⟨⟨⟨?_, fun y hy => ?_⟩, ?_, ?_⟩, hw.more (fun g hg => List.mem_flatMap.2 ⟨_, List.getElem_mem hj, hg⟩)⟩
  · have hk : OwnK e k.cells k.size B w' (.slice ad n cap) L := ownK_keep h.row (fun g hg => hw.block g (h.row.lt g hg).2 (fun hg2 => hrow g hg (List.mem_flatMap.2 ⟨_, List.getElem_mem hj, hg2⟩)))
    show OwnK e k.cells k.size B w' (.slice ad n cap) (L.set j x')
    unfold OwnK at hk ⊢
    rw [List.length_set, hfc]
    exact hk
  · obtain ⟨i, hi, rfl⟩ := List.getElem_of_mem (show y ∈ L.set j x' from hy)
    have hi2 : i < L.length := by simpa using hi
    by_cases e1 : j = i
    · subst e1
      rw [List.getElem_set_self]
      exact ho.1
    · rw [List.getElem_set_ne e1]
      refine k.own_keep (h.1.2 _ (List.getElem_mem hi2)) (fun g hg => hw.block g (k.own_lt (h.1.2 _ (List.getElem_mem hi2)) g hg).2 (fun hg2 => flat_disj hnd hi2 hj (fun e2 => e1 e2.symm) g hg hg2))
  · show ((Value.slice ad n cap).ownBlock.toList ++ (L.set j x').flatMap k.blocks).Nodup
    rw [hfb]
    exact h.2.1
  · intro g hg
    have hg2 : g ∈ (Value.slice ad n cap).ownBlock.toList ++ (L.set j x').flatMap k.blocks := hg
    rw [hfb] at hg2
    exact h.2.2 g hg2
theorem Kd.Own.put {g : Nat} (h : (k.slice e).Own B E w ⟨some ⟨g, 0, none⟩, n, cap, L⟩) (hn : n = L.length) (hj : j < L.length) {i : Nat} (hi : i < k.size) {u : Value} {x' : M} (hc : k.cells x' = (k.cells (nth L j)).set i u) (hb : k.blocks x' = k.blocks (nth L j)) (ho : ∀ {W : World}, k.own B W (nth L j) → k.own B W x') :
    (k.slice e).Own B E (w.setCell ⟨g, j * k.size + i, none⟩ u) ⟨some ⟨g, 0, none⟩, n, cap, L.set j x'⟩ ∧ w.grownBy (w.setCell ⟨g, j * k.size + i, none⟩ u) (some g) := by
  obtain ⟨a1, a2⟩ := ownK_store (fun m => k.len m) h.row hn hj hi hc
  obtain ⟨hnd, hrow⟩ := h.apart
  have hg0 := hrow g rfl
  have hfb := flatMap_set (f := k.blocks) hj (by rw [hb, nth_eq hj])
  have keep : ∀ {y : M}, y ∈ L → k.own B (w.setCell ⟨g, j * k.size + i, none⟩ u) y := fun {y} hy => k.own_keep (h.1.2 y hy) (fun q hq => a2.block q (k.own_lt (h.1.2 y hy) q hq).2 (fun e1 => hg0 (by cases e1; exact List.mem_flatMap.2 ⟨y, hy, hq⟩)))
  refine ⟨⟨⟨a1, fun y hy => ?_⟩, ?_, ?_⟩, a2⟩
  · rcases List.mem_or_eq_of_mem_set (show y ∈ L.set j x' from hy) with hy | rfl
    · exact keep hy
    · exact ho (keep (nth_mem hj))
  · show ((Value.slice (some ⟨g, 0, none⟩) n cap).ownBlock.toList ++ (L.set j x').flatMap k.blocks).Nodup
    rw [hfb]
    exact h.2.1
  · intro q hq
    have hg2 : q ∈ (Value.slice (some ⟨g, 0, none⟩) n cap).ownBlock.toList ++ (L.set j x').flatMap k.blocks := hq
    rw [hfb] at hg2
    exact h.2.2 q hg2
end
section
variable {α : Type} [Inhabited α] (a : α → Nat) (f : Int → α → α)
def advK : List α → Nat
  | [] => 0
  | x :: r => a x + advK r
def mkLK (q : Int) : List α → List α
  | [] => []
  | x :: r => f q x :: mkLK (q + (a x : Int)) r
theorem advK_append : ∀ (l m : List α), advK a (l ++ m) = advK a l + advK a m
  | [], m => by simp [advK]
  | x :: l, m => by simp [advK, advK_append l m]; omega
theorem advK_take {l : List α} {j : Nat} (h : j < l.length) : advK a (l.take (j + 1)) = advK a (l.take j) + a (nth l j) := by
  rw [List.take_succ_eq_append_getElem h, advK_append, nth_eq h]; simp [advK]
theorem advK_take_le (l : List α) (j : Nat) : advK a (l.take j) ≤ advK a l := by
  have := advK_append a (l.take j) (l.drop j)
  rw [List.take_append_drop] at this; omega
theorem mkLK_append (q : Int) : ∀ (l m : List α), mkLK a f q (l ++ m) = mkLK a f q l ++ mkLK a f (q + (advK a l : Int)) m
  | [], m => by simp [mkLK, advK]
  | x :: l, m => by
    simp only [List.cons_append, mkLK, advK, mkLK_append _ l m]
    congr 3
    simp; omega
theorem mkLK_length (q : Int) : ∀ l : List α, (mkLK a f q l).length = l.length
  | [] => rfl
  | x :: r => by simp [mkLK, mkLK_length _ r]
theorem mkLK_take (q : Int) {l : List α} {j : Nat} (h : j < l.length) : mkLK a f q (l.take (j + 1)) = mkLK a f q (l.take j) ++ [f (q + (advK a (l.take j) : Int)) (nth l j)] := by
  rw [List.take_succ_eq_append_getElem h, mkLK_append, nth_eq h]; rfl
theorem mkLK_at (q : Int) {l : List α} {j : Nat} (h : j < l.length) : nth (mkLK a f q l) j = f (q + (advK a (l.take j) : Int)) (nth l j) := by
  have e := mkLK_append a f q (l.take (j + 1)) (l.drop (j + 1))
  rw [List.take_append_drop, mkLK_take a f q h] at e
  have h2 : (mkLK a f q (l.take j)).length = j := by rw [mkLK_length, List.length_take]; omega
  rw [e]
  simp only [nth, List.getD]
  rw [List.append_assoc, List.getElem?_append_right (by omega), h2]
  simp
end
end Go.Proofs.Ythfljbbigpophaa.Row
/- Names and bytes as parts that are marked; an element of a list, step by step. No conditions but that lengths fit. -/
namespace Go.Proofs.Ythfljbbigpophaa.Row
open Go.ChangeShapes Go.WideShapes Go.ChangeAt Go.RowKit Go.Instr
set_option linter.unusedVariables false
set_option linter.unusedSectionVars false
set_option maxRecDepth 100000
theorem markF_N : MarkF Try.prog kN 77 (fun m => m.v) (fun l => l.length) (fun q l => marks markT q l.length) := by
  intro B E m w k h hl h0 h1
  have ho := kN_own1 h.1
  rw [kN_strip] at hl h1 ⊢
  refine (markStringS B m.v m.els w k ho hl h0 (by omega)).mono ?_
  rintro e w' ⟨a, b, c⟩
  refine ⟨a, ⟨m.ad, m.n, m.cap, marks markT k m.els.length⟩, rfl, by rw [kN_blocks, kN_blocks]; rfl, by rw [kN_strip], ⟨kN_own2 b, ?_, ?_⟩, WroteBy.of c (fun g hg => by rw [kN_blocks]; simp [hg])⟩
  · have := h.2.1
    rw [kN_blocks] at this ⊢
    exact this
  · have := h.2.2
    rw [kN_blocks] at this ⊢
    exact this
theorem markF_B : MarkF Try.prog kB 67 (fun m => m.v) (fun l => l.length) (fun q l => Sl.marks .u8 q l.length) := by
  intro B E m w k h hl h0 h1
  have ho := kB_own1 h.1
  rw [kB_strip] at hl h1 ⊢
  refine (Sl.markByteS B m.v m.els w k ho hl h0 (by omega)).mono ?_
  rintro e w' ⟨a, b, c⟩
  refine ⟨a, ⟨m.ad, m.n, m.cap, Sl.marks .u8 k m.els.length⟩, rfl, by rw [kB_blocks, kB_blocks]; rfl, by rw [kB_strip], ⟨kB_own2 b, ?_, ?_⟩, WroteBy.of c (fun g hg => by rw [kB_blocks]; simp [hg])⟩
  · have := h.2.1
    rw [kB_blocks] at this ⊢
    exact this
  · have := h.2.2
    rw [kB_blocks] at this ⊢
    exact this
section
variable {α M : Type} [Inhabited M] {k : Kd α M} {B E : Nat} {w w' : World} {e : TypeId} {ad : Option Addr} {n cap j g : Nat} {Z : List M} {x x' : M}
theorem nth_set9 {γ : Type} [Inhabited γ] {Z : List γ} {j : Nat} (hj : j < Z.length) (x : γ) : nth (Z.set j x) j = x := by
  rw [nth_eq (by simpa using hj), List.getElem_set_self]
theorem set_nth9 {γ : Type} [Inhabited γ] {Z : List γ} {j : Nat} (hj : j < Z.length) : Z.set j (nth Z j) = Z := by
  rw [nth_eq hj, List.set_getElem_self]
theorem Kd.Own.elem9 (h : (k.slice e).Own B E w ⟨ad, n, cap, Z.set j x⟩) (hj : j < Z.length) : k.Own B E w x := by
  have := Kd.Own.elem h (j := j) (by simpa using hj)
  rwa [nth_set9 hj] at this
theorem Kd.Own.part9 (h : (k.slice e).Own B E w ⟨ad, n, cap, Z.set j x⟩) (hj : j < Z.length) (hc : k.cells x' = k.cells x) (hb : k.blocks x' = k.blocks x) (ho : k.Own B E w' x') (hw : WroteBy (k.blocks x) w w') :
    (k.slice e).Own B E w' ⟨ad, n, cap, Z.set j x'⟩ := by
  have := (Kd.Own.part h (j := j) (by simpa using hj) (x' := x') (by rw [nth_set9 hj]; exact hc) (by rw [nth_set9 hj]; exact hb) ho (by rw [nth_set9 hj]; exact hw)).1
  rwa [List.set_set] at this
theorem Kd.Own.put9 (h : (k.slice e).Own B E w ⟨some ⟨g, 0, none⟩, n, cap, Z.set j x⟩) (hn : n = Z.length) (hj : j < Z.length) {i : Nat} (hi : i < k.size) {u : Value} (hc : k.cells x' = (k.cells x).set i u) (hb : k.blocks x' = k.blocks x) (ho : ∀ {W : World}, k.own B W x → k.own B W x') :
    (k.slice e).Own B E (w.setCell ⟨g, j * k.size + i, none⟩ u) ⟨some ⟨g, 0, none⟩, n, cap, Z.set j x'⟩ := by
  have := (Kd.Own.put h (j := j) (by simpa using hn) (by simpa using hj) hi (u := u) (x' := x') (by rw [nth_set9 hj]; exact hc) (by rw [nth_set9 hj]; exact hb) (by rw [nth_set9 hj]; exact ho)).1
  rwa [List.set_set] at this
theorem Kd.Own.cell9 (h : (k.slice e).Own B E w ⟨some ⟨g, 0, none⟩, n, cap, Z.set j x⟩) (hn : n = Z.length) (hj : j < Z.length) {i : Nat} (hi : i < k.size) : w.cell? ⟨g, j * k.size + i, none⟩ = (k.cells x)[i]? ∧ w.frozen? ⟨g, j * k.size + i, none⟩ = false := by
  have := ownK_cell (fun m => k.len m) h.row (by simpa using hn) (j := j) (by simpa using hj) hi
  rwa [nth_set9 hj] at this
theorem nth_over {γ : Type} [Inhabited γ] {M L : List γ} {j : Nat} (hm : M.length = j) (hj : j < L.length) : nth (M ++ L.drop j) j = nth L j := by
  simp only [nth, List.getD]
  rw [List.getElem?_append_right (by rw [hm]; exact Nat.le_refl _), hm]
  simp
theorem set_over {γ : Type} [Inhabited γ] {M L : List γ} {j : Nat} (hm : M.length = j) (hj : j < L.length) (x : γ) : (M ++ L.drop j).set j x = M ++ [x] ++ L.drop (j + 1) := by
  have hd : L.drop j = nth L j :: L.drop (j + 1) := by rw [nth_eq hj, List.getElem_cons_drop]
  rw [List.set_append_right _ _ (by rw [hm]; exact Nat.le_refl _), hm, Nat.sub_self, hd, List.set_cons_zero, List.append_assoc]
  rfl
end
end Go.Proofs.Ythfljbbigpophaa.Row
/- Lists of CacheEntry: marked and looked at. No conditions but that lengths fit. -/
namespace Go.Proofs.Ythfljbbigpophaa.Row
open Go.ChangeShapes Go.WideShapes Go.ChangeAt Go.RowKit Go.Instr
set_option linter.unusedVariables false
set_option maxRecDepth 100000
def mvCe (z : Cet) : Nat := z.1.1.length + z.1.2.1.length + z.1.2.2.1.length + 3
def meCe (q : Int) (z : Cet) : Cet := ((marks markT (q) z.1.1.length, Sl.marks .u8 (q + (z.1.1.length : Int)) z.1.2.1.length, marks markT (q + (z.1.1.length : Int) + (z.1.2.1.length : Int)) z.1.2.2.1.length, q + (z.1.1.length : Int) + (z.1.2.1.length : Int) + (z.1.2.2.1.length : Int), q + (z.1.1.length : Int) + (z.1.2.1.length : Int) + (z.1.2.2.1.length : Int) + 1), q + (z.1.1.length : Int) + (z.1.2.1.length : Int) + (z.1.2.2.1.length : Int) + 1 + 1)
theorem mfCe0 (B E : Nat) (x : Cem) (w : World) (q : Int) (a : Nat) (ha : (kCe.strip x).1.1.length = a) (ho : kCe.Own B E w x) (hl : a ≤ 100000000) (h0 : 0 ≤ q) (h1 : q + (a : Int) ≤ 100000000000) :
    Calls Try.prog 77 #[x.1.1.v, .int .i64 q] w fun e w' => e = .returned (.int .i64 (q + (a : Int))) ∧ ∃ x', kCe.cells x' = kCe.cells x ∧ kCe.blocks x' = kCe.blocks x ∧ kCe.strip x' = ((marks markT (q) (kCe.strip x).1.1.length, (kCe.strip x).1.2.1, (kCe.strip x).1.2.2.1, (kCe.strip x).1.2.2.2.1, (kCe.strip x).1.2.2.2.2), (kCe.strip x).2) ∧ kCe.Own B E w' x' ∧ WroteBy (kCe.blocks x) w w' := by
  subst ha
  exact ((markF_N.fst _).fst _) B E x w q ho hl h0 h1
theorem mfCe1 (B E : Nat) (x : Cem) (w : World) (q : Int) (a : Nat) (ha : (kCe.strip x).1.2.1.length = a) (ho : kCe.Own B E w x) (hl : a ≤ 100000000) (h0 : 0 ≤ q) (h1 : q + (a : Int) ≤ 100000000000) :
    Calls Try.prog 67 #[x.1.2.1.v, .int .i64 q] w fun e w' => e = .returned (.int .i64 (q + (a : Int))) ∧ ∃ x', kCe.cells x' = kCe.cells x ∧ kCe.blocks x' = kCe.blocks x ∧ kCe.strip x' = (((kCe.strip x).1.1, Sl.marks .u8 (q) (kCe.strip x).1.2.1.length, (kCe.strip x).1.2.2.1, (kCe.strip x).1.2.2.2.1, (kCe.strip x).1.2.2.2.2), (kCe.strip x).2) ∧ kCe.Own B E w' x' ∧ WroteBy (kCe.blocks x) w w' := by
  subst ha
  exact (((markF_B.fst _).snd _).fst _) B E x w q ho hl h0 h1
theorem mfCe2 (B E : Nat) (x : Cem) (w : World) (q : Int) (a : Nat) (ha : (kCe.strip x).1.2.2.1.length = a) (ho : kCe.Own B E w x) (hl : a ≤ 100000000) (h0 : 0 ≤ q) (h1 : q + (a : Int) ≤ 100000000000) :
    Calls Try.prog 77 #[x.1.2.2.1.v, .int .i64 q] w fun e w' => e = .returned (.int .i64 (q + (a : Int))) ∧ ∃ x', kCe.cells x' = kCe.cells x ∧ kCe.blocks x' = kCe.blocks x ∧ kCe.strip x' = (((kCe.strip x).1.1, (kCe.strip x).1.2.1, marks markT (q) (kCe.strip x).1.2.2.1.length, (kCe.strip x).1.2.2.2.1, (kCe.strip x).1.2.2.2.2), (kCe.strip x).2) ∧ kCe.Own B E w' x' ∧ WroteBy (kCe.blocks x) w w' := by
  subst ha
  exact ((((markF_N.fst _).snd _).snd _).fst _) B E x w q ho hl h0 h1
set_option maxHeartbeats 4000000 in
theorem markCacheEntrySK (B E : Nat) (m : Rw Cem) (w : World) (k : Int) (h : kLCe.Own B E w m) (hl : advK mvCe (kLCe.strip m) ≤ 100000000) (h0 : 0 ≤ k) (h1 : k + (advK mvCe (kLCe.strip m) : Int) ≤ 100000000000) :
    Calls Try.prog 47 #[kLCe.val m, .int .i64 k] w fun e w' => e = .returned (.int .i64 (k + (advK mvCe (kLCe.strip m) : Int))) ∧ ∃ m', kLCe.val m' = kLCe.val m ∧ kLCe.blocks m' = kLCe.blocks m ∧ kLCe.strip m' = mkLK mvCe meCe k (kLCe.strip m) ∧ kLCe.Own B E w' m' ∧ WroteBy (kLCe.blocks m) w w' := by
  obtain ⟨ad, n, cap, L⟩ := m
  replace h : (kCe.slice 72).Own B E w ⟨ad, n, cap, L⟩ := h
  replace hl : advK mvCe (L.map kCe.strip) ≤ 100000000 := hl
  replace h1 : k + (advK mvCe (L.map kCe.strip) : Int) ≤ 100000000000 := h1
  show Calls Try.prog 47 #[.slice ad n cap, .int .i64 k] w fun e w' => e = .returned (.int .i64 (k + (advK mvCe (L.map kCe.strip) : Int))) ∧ ∃ m' : Rw Cem, Rw.v m' = .slice ad n cap ∧ (kCe.slice 72).blocks m' = (kCe.slice 72).blocks ⟨ad, n, cap, L⟩ ∧ m'.els.map kCe.strip = mkLK mvCe meCe k (L.map kCe.strip) ∧ (kCe.slice 72).Own B E w' m' ∧ WroteBy ((kCe.slice 72).blocks ⟨ad, n, cap, L⟩) w w'
  rcases h.row.form with ⟨hv, hL⟩ | ⟨g, cap', hv, g1, g2, g3, g4⟩
  · cases hv
    subst hL
    have H := Lib.hid h; clear h
    go_enter Try.func47, Try.ntmps47
    go_wp2
    refine wp_loop_rounds 1 ?_
    rw [rounds_succ]
    go_wp2
    go_ret
    exact ⟨ret_int (by simp [advK]), ⟨⟨none, 0, 0, []⟩, rfl, rfl, rfl, H.out, WroteBy.refl _ _⟩⟩
  · cases hv
    have HROWLT := g2
    obtain ⟨n, hn⟩ : ∃ n, n = L.length := ⟨_, rfl⟩
    rw [← hn] at h g3 ⊢
    obtain ⟨l, hl9⟩ : ∃ l, L.map kCe.strip = l := ⟨_, rfl⟩
    rw [hl9] at hl h1 ⊢
    have hll : l.length = n := by rw [← hl9, List.length_map, hn]
    obtain ⟨bs, hbs⟩ : ∃ bs, (kCe.slice 72).blocks ⟨some ⟨g, 0, none⟩, n, cap, L⟩ = bs := ⟨_, rfl⟩
    have hgb : g ∈ bs := by rw [← hbs]; exact List.mem_append_left _ (by simp [Value.ownBlock, Rw.v])
    have heb : ∀ x ∈ L, ∀ q ∈ kCe.blocks x, q ∈ bs := fun x hx q hq => by rw [← hbs]; exact List.mem_append_right _ (List.mem_flatMap.2 ⟨x, hx, hq⟩)
    have hmaxl : n ≤ 140737488351232 ∨ True := Or.inr trivial
    have hn2 : n ≤ maxLen := by rw [hn]; exact h.row.len
    unfold maxLen at hn2
    rw [hbs]
    have HN := Lib.hid hn; have HT := Lib.hid hl9; have HLL := Lib.hid hll; have HBS := Lib.hid hbs; have HGB := Lib.hid hgb; have HEB := Lib.hid heb
    have HST := Lib.hid (fun j (hj : j < n) => advK_take mvCe (l := l) (j := j) (by rw [hll]; exact hj))
    have HLE := Lib.hid (fun j => advK_take_le mvCe l j)
    have HB : Hid ((kCe.slice 72).Own B E w ⟨some ⟨g, 0, none⟩, n, cap, [] ++ L.drop 0⟩) := Lib.hid (by simpa using h)
    clear hn h hl9 hll hbs hgb heb hmaxl
    go_enter Try.func47, Try.ntmps47
    go_wp2
    go_loopw [1, 5] (fun kv i wr => ∃ j : Nat, j ≤ n ∧ i = .int .i64 j ∧ ∃ p : Int, kv = .int .i64 p ∧ 0 ≤ p ∧ p ≤ 100000000000 ∧ Hid (p = k + (advK mvCe (l.take j) : Int)) ∧ ∃ M : List Cem, Hid (M.length = j) ∧ Hid (M.map kCe.strip = mkLK mvCe meCe k (l.take j)) ∧ Hid (M.map kCe.blocks = (L.take j).map kCe.blocks) ∧ Hid ((kCe.slice 72).Own B E wr ⟨some ⟨g, 0, none⟩, n, cap, M ++ L.drop j⟩) ∧ Hid (WroteBy bs w wr)) (fun _ i _ => n - (intOf i).toNat)
    case atStart => exact ⟨0, Nat.zero_le _, rfl, k, rfl, h0, by omega, Lib.hid (by simp [advK]), [], Lib.hid rfl, Lib.hid (by simp [mkLK]), Lib.hid rfl, HB, Lib.hid (WroteBy.refl _ _)⟩
    case round =>
      obtain ⟨j, hj, rfl, p, rfl, hp0, hp1, HP, M, HM1, HM2, HM3, HO, HW⟩ := hrel
      by_cases hlt : j < n
      · have hjL : j < L.length := by have := HN.out; omega
        obtain ⟨x0, hx0⟩ : ∃ x, nth L j = x := ⟨_, rfl⟩
        obtain ⟨Z, hZ⟩ : ∃ Z, M ++ L.drop j = Z := ⟨_, rfl⟩
        have hZl : n = Z.length := by rw [← hZ, List.length_append, HM1.out, List.length_drop]; have := HN.out; omega
        have hjZ : j < Z.length := by omega
        have hx9 : nth Z j = x0 := by rw [← hZ, nth_over HM1.out hjL, hx0]
        have ho := HO.out
        rw [hZ, ← set_nth9 hjZ, hx9] at ho
        have hst := HST.out j hlt
        rw [show nth l j = kCe.strip x0 by rw [← HT.out, nth_map _ hjL, hx0]] at hst
        have hle := HLE.out (j + 1)
        have hxb := HEB.out x0 (by rw [← hx0]; exact nth_mem hjL)
        obtain ⟨a0, ha0⟩ : ∃ a, (kCe.strip x0).1.1.length = a := ⟨_, rfl⟩
        obtain ⟨a1, ha1⟩ : ∃ a, (kCe.strip x0).1.2.1.length = a := ⟨_, rfl⟩
        obtain ⟨a2, ha2⟩ : ∃ a, (kCe.strip x0).1.2.2.1.length = a := ⟨_, rfl⟩
        have hmv : mvCe (kCe.strip x0) = a0 + a1 + a2 + 3 := by unfold mvCe; rw [ha0, ha1, ha2]
        rw [hmv] at hst
        have hp := HP.out
        have ba0 : a0 ≤ 100000000 := by omega
        have ba1 : a1 ≤ 100000000 := by omega
        have ba2 : a2 ≤ 100000000 := by omega
        have btot : p + ((a0 + a1 + a2 + 3 : Nat) : Int) ≤ 100000000000 := by omega
        have HX0 := Lib.hid hx0; have HZ := Lib.hid hZ; have HZL := Lib.hid hZl; have HJZ := Lib.hid hjZ; have HO0 := Lib.hid ho; have HSTP := Lib.hid hst; have HXB := Lib.hid hxb; have HJL := Lib.hid hjL; have HMV := Lib.hid hmv
        have HA0_0 := Lib.hid ha0
        have HA1_0 := Lib.hid ha1
        have HA2_0 := Lib.hid ha2
        have HW0 := HW
        clear hx0 hZ hZl hjZ hx9 ho hst hle hxb hp hjL hmv ha0 ha1 ha2
        have c : wr.cell? ⟨g, j * 6, none⟩ = some x0.1.1.v := (HO0.out.cell9 HZL.out HJZ.out (i := 0) (by decide)).1
        go_wp2_with fail
        clear c
        refine (mfCe0 B E x0 wr (p) a0 HA0_0.out (HO0.out.elem9 HJZ.out) ba0 (by omega) (by omega)).mono ?_
        rintro e w1 ⟨rfl, x1, hc, hb, hs, ho, hw⟩
        have HO1 := Lib.hid (HO0.out.part9 HJZ.out hc hb ho hw); have HB1 := Lib.hid hb; have HS1 := Lib.hid hs
        have HW1 := Lib.hid (HW0.out.trans (hw.more (fun q hq => HXB.out q hq)))
        have HA1_1 : Hid ((kCe.strip x1).1.2.1.length = a1) := Lib.hid (by rw [hs]; exact HA1_0.out)
        have HA2_1 : Hid ((kCe.strip x1).1.2.2.1.length = a2) := Lib.hid (by rw [hs]; exact HA2_0.out)
        clear hc hb hs ho hw
        have c : w1.cell? ⟨g, j * 6 + 1, none⟩ = some x1.1.2.1.v := (HO1.out.cell9 HZL.out HJZ.out (i := 1) (by decide)).1
        go_wp2_with fail
        clear c
        refine (mfCe1 B E x1 w1 (p + (a0 : Int)) a1 HA1_1.out (HO1.out.elem9 HJZ.out) ba1 (by omega) (by omega)).mono ?_
        rintro e w2 ⟨rfl, x2, hc, hb, hs, ho, hw⟩
        have HO2 := Lib.hid (HO1.out.part9 HJZ.out hc hb ho hw); have HB2 := Lib.hid (hb.trans HB1.out); have HS2 := Lib.hid hs
        have HW2 := Lib.hid (HW1.out.trans (hw.more (fun q hq => HXB.out q (by rw [HB1.out] at hq; exact hq))))
        have HA2_2 : Hid ((kCe.strip x2).1.2.2.1.length = a2) := Lib.hid (by rw [hs]; exact HA2_1.out)
        clear hc hb hs ho hw
        have c : w2.cell? ⟨g, j * 6 + 2, none⟩ = some x2.1.2.2.1.v := (HO2.out.cell9 HZL.out HJZ.out (i := 2) (by decide)).1
        go_wp2_with fail
        clear c
        refine (mfCe2 B E x2 w2 (p + (a0 : Int) + (a1 : Int)) a2 HA2_2.out (HO2.out.elem9 HJZ.out) ba2 (by omega) (by omega)).mono ?_
        rintro e w3 ⟨rfl, x3, hc, hb, hs, ho, hw⟩
        have HO3 := Lib.hid (HO2.out.part9 HJZ.out hc hb ho hw); have HB3 := Lib.hid (hb.trans HB2.out); have HS3 := Lib.hid hs
        have HW3 := Lib.hid (HW2.out.trans (hw.more (fun q hq => HXB.out q (by rw [HB2.out] at hq; exact hq))))
        clear hc hb hs ho hw
        have c3 : w3.cell? ⟨g, j * 6 + 3, none⟩ = some (.int .i64 x3.1.2.2.2.1) := (HO3.out.cell9 HZL.out HJZ.out (i := 3) (by decide)).1; have t3 : w3.frozen? ⟨g, j * 6 + 3, none⟩ = false := (HO3.out.cell9 HZL.out HJZ.out (i := 3) (by decide)).2
        have c4 : w3.cell? ⟨g, j * 6 + 4, none⟩ = some (.int .i64 x3.1.2.2.2.2) := (HO3.out.cell9 HZL.out HJZ.out (i := 4) (by decide)).1; have t4 : w3.frozen? ⟨g, j * 6 + 4, none⟩ = false := (HO3.out.cell9 HZL.out HJZ.out (i := 4) (by decide)).2
        have c5 : w3.cell? ⟨g, j * 6 + 5, none⟩ = some (.int .i64 x3.2) := (HO3.out.cell9 HZL.out HJZ.out (i := 5) (by decide)).1; have t5 : w3.frozen? ⟨g, j * 6 + 5, none⟩ = false := (HO3.out.cell9 HZL.out HJZ.out (i := 5) (by decide)).2
        have HOF : Hid ((kCe.slice 72).Own B E (((w3.setCell ⟨g, j * 6 + 3, none⟩ (.int .i64 (p + (a0 : Int) + (a1 : Int) + (a2 : Int)))).setCell ⟨g, j * 6 + 4, none⟩ (.int .i64 (p + (a0 : Int) + (a1 : Int) + (a2 : Int) + 1))).setCell ⟨g, j * 6 + 5, none⟩ (.int .i64 (p + (a0 : Int) + (a1 : Int) + (a2 : Int) + 1 + 1))) ⟨some ⟨g, 0, none⟩, n, cap, Z.set j ((x3.1.1, x3.1.2.1, x3.1.2.2.1, p + (a0 : Int) + (a1 : Int) + (a2 : Int), p + (a0 : Int) + (a1 : Int) + (a2 : Int) + 1), p + (a0 : Int) + (a1 : Int) + (a2 : Int) + 1 + 1)⟩) := Lib.hid (Kd.Own.put9 (x' := (((x3.1.1, x3.1.2.1, x3.1.2.2.1, p + (a0 : Int) + (a1 : Int) + (a2 : Int), p + (a0 : Int) + (a1 : Int) + (a2 : Int) + 1), p + (a0 : Int) + (a1 : Int) + (a2 : Int) + 1 + 1) : Cem)) (Kd.Own.put9 (x' := (((x3.1.1, x3.1.2.1, x3.1.2.2.1, p + (a0 : Int) + (a1 : Int) + (a2 : Int), p + (a0 : Int) + (a1 : Int) + (a2 : Int) + 1), x3.2) : Cem)) (Kd.Own.put9 (x' := (((x3.1.1, x3.1.2.1, x3.1.2.2.1, p + (a0 : Int) + (a1 : Int) + (a2 : Int), x3.1.2.2.2.2), x3.2) : Cem)) HO3.out HZL.out HJZ.out (i := 3) (by decide) (u := .int .i64 (p + (a0 : Int) + (a1 : Int) + (a2 : Int))) rfl rfl (fun h => h)) HZL.out HJZ.out (i := 4) (by decide) (u := .int .i64 (p + (a0 : Int) + (a1 : Int) + (a2 : Int) + 1)) rfl rfl (fun h => h)) HZL.out HJZ.out (i := 5) (by decide) (u := .int .i64 (p + (a0 : Int) + (a1 : Int) + (a2 : Int) + 1 + 1)) rfl rfl (fun h => h))
        have HWF : Hid (WroteBy bs w (((w3.setCell ⟨g, j * 6 + 3, none⟩ (.int .i64 (p + (a0 : Int) + (a1 : Int) + (a2 : Int)))).setCell ⟨g, j * 6 + 4, none⟩ (.int .i64 (p + (a0 : Int) + (a1 : Int) + (a2 : Int) + 1))).setCell ⟨g, j * 6 + 5, none⟩ (.int .i64 (p + (a0 : Int) + (a1 : Int) + (a2 : Int) + 1 + 1)))) := Lib.hid (((HW3.out.trans (WroteBy.of (Ret.grownBy_set w3 ⟨g, j * 6 + 3, none⟩ (.int .i64 (p + (a0 : Int) + (a1 : Int) + (a2 : Int)))) (fun q hq => by cases hq; exact HGB.out))).trans (WroteBy.of (Ret.grownBy_set (w3.setCell ⟨g, j * 6 + 3, none⟩ (.int .i64 (p + (a0 : Int) + (a1 : Int) + (a2 : Int)))) ⟨g, j * 6 + 4, none⟩ (.int .i64 (p + (a0 : Int) + (a1 : Int) + (a2 : Int) + 1))) (fun q hq => by cases hq; exact HGB.out))).trans (WroteBy.of (Ret.grownBy_set ((w3.setCell ⟨g, j * 6 + 3, none⟩ (.int .i64 (p + (a0 : Int) + (a1 : Int) + (a2 : Int)))).setCell ⟨g, j * 6 + 4, none⟩ (.int .i64 (p + (a0 : Int) + (a1 : Int) + (a2 : Int) + 1))) ⟨g, j * 6 + 5, none⟩ (.int .i64 (p + (a0 : Int) + (a1 : Int) + (a2 : Int) + 1 + 1))) (fun q hq => by cases hq; exact HGB.out)))
        have HSF : Hid (kCe.strip ((x3.1.1, x3.1.2.1, x3.1.2.2.1, p + (a0 : Int) + (a1 : Int) + (a2 : Int), p + (a0 : Int) + (a1 : Int) + (a2 : Int) + 1), p + (a0 : Int) + (a1 : Int) + (a2 : Int) + 1 + 1) = meCe p (kCe.strip x0)) := Lib.hid (by
          show (((kCe.strip x3).1.1, (kCe.strip x3).1.2.1, (kCe.strip x3).1.2.2.1, p + (a0 : Int) + (a1 : Int) + (a2 : Int), p + (a0 : Int) + (a1 : Int) + (a2 : Int) + 1), p + (a0 : Int) + (a1 : Int) + (a2 : Int) + 1 + 1) = _
          unfold meCe
          simp only [HS3.out, HS2.out, HS1.out, HA0_0.out, HA1_0.out, HA2_0.out])
        have HBF : Hid (kCe.blocks ((x3.1.1, x3.1.2.1, x3.1.2.2.1, p + (a0 : Int) + (a1 : Int) + (a2 : Int), p + (a0 : Int) + (a1 : Int) + (a2 : Int) + 1), p + (a0 : Int) + (a1 : Int) + (a2 : Int) + 1 + 1) = kCe.blocks x0) := Lib.hid (show _ = _ from HB3.out)
        clear HO0 HW0 HO1 HW1 HO2 HW2 HO3 HW3 HB1 HB2 HB3 HS1 HS2 HS3
        go_wp2_with fail
        go_roundw
        case rel =>
          refine ⟨j + 1, by omega, by go_num, p + (a0 : Int) + (a1 : Int) + (a2 : Int) + 1 + 1 + 1, by go_num, by omega, by omega, Lib.hid ?_, M ++ [((x3.1.1, x3.1.2.1, x3.1.2.2.1, p + (a0 : Int) + (a1 : Int) + (a2 : Int), p + (a0 : Int) + (a1 : Int) + (a2 : Int) + 1), p + (a0 : Int) + (a1 : Int) + (a2 : Int) + 1 + 1)], Lib.hid ?_, Lib.hid ?_, Lib.hid ?_, Lib.hid ?_, HWF⟩
          · rw [HSTP.out, HP.out]; omega
          · simp [HM1.out]
          · rw [List.map_append, HM2.out, mkLK_take _ _ _ (by rw [HLL.out]; exact hlt), show nth l j = kCe.strip x0 by rw [← HT.out, nth_map _ HJL.out, HX0.out], ← HP.out, ← HSF.out]
            rfl
          · rw [List.map_append, HM3.out, List.take_succ_eq_append_getElem HJL.out, List.map_append, ← nth_eq HJL.out, HX0.out]
            simp only [List.map_cons, List.map_nil]
            rw [HBF.out]
          · have h9 := HOF.out
            rw [← HZ.out, set_over HM1.out HJL.out] at h9
            exact h9
        case measure => simp [intOf]; omega
      · obtain rfl : j = n := by omega
        clear hlt
        go_wp2
        go_ret
        have hn := HN.out
        have hp := HP.out
        have e1 : l.take j = l := List.take_of_length_le (by rw [HLL.out]; exact Nat.le_refl _)
        have e2 : L.take j = L := List.take_of_length_le (by omega)
        have e3 : L.drop j = [] := List.drop_eq_nil_of_le (by omega)
        have hh := HO.out
        have hm2 := HM2.out
        have hm3 := HM3.out
        rw [e1] at hp hm2
        rw [e2] at hm3
        rw [e3, List.append_nil] at hh
        refine ⟨ret_int hp, ⟨some ⟨g, 0, none⟩, j, cap, M⟩, rfl, ?_, hm2, hh, HW.out⟩
        rw [← HBS.out]
        show _ ++ M.flatMap kCe.blocks = _ ++ L.flatMap kCe.blocks
        rw [List.flatMap_def, List.flatMap_def, hm3]
        rfl
set_option maxHeartbeats 4000000 in
theorem heldCacheEntrySK (V : Value) (l : List Cet) (w : World) (k : Int) (h : kLCe.At w V (mkLK mvCe meCe k l)) (hl : advK mvCe l ≤ 100000000) (hlen : l.length ≤ 100000000) (h0 : 0 ≤ k) (h1 : k + (advK mvCe l : Int) ≤ 100000000000) :
    Calls Try.prog 48 #[V, .int .i64 k] w fun e w' => e = .returned (.int .i64 (k + (advK mvCe l : Int))) ∧ Below w.heap.size w w' := by
  obtain ⟨ad, n, cap, L, rfl, hn, hL, hh, hel⟩ := kLCe_at h
  have hll : l.length = n := by have := congrArg List.length hL; rw [List.length_map, mkLK_length] at this; omega
  rw [hll] at hlen
  have HN := Lib.hid hn; have HT := Lib.hid hL; have HH := Lib.hid hh; have HEL := Lib.hid hel; have HLL := Lib.hid hll
  have HST := Lib.hid (fun j (hj : j < n) => advK_take mvCe (l := l) (j := j) (by rw [hll]; exact hj))
  have HLE := Lib.hid (fun j => advK_take_le mvCe l j)
  clear h hn hL hh hel hll
  go_enter Try.func48, Try.ntmps48
  go_wp2
  go_loopw [1, 5] (fun kv i wr => ∃ j : Nat, j ≤ n ∧ i = .int .i64 j ∧ ∃ p : Int, kv = .int .i64 p ∧ 0 ≤ p ∧ p ≤ 100000000000 ∧ Hid (p = k + (advK mvCe (l.take j) : Int)) ∧ Hid (Below w.heap.size w wr)) (fun _ i _ => n - (intOf i).toNat)
  case atStart => exact ⟨0, Nat.zero_le _, rfl, k, rfl, h0, by omega, Lib.hid (by simp [advK]), Lib.hid (Below.refl _ _)⟩
  case round =>
    obtain ⟨j, hj, rfl, p, rfl, hp0, hp1, HP, hb⟩ := hrel
    by_cases hlt : j < n
    · have hn := HN.out
      obtain ⟨b, off, x0, n0, c0, x1, n1, c1, x2, n2, c2, rfl, -, hc0, hc1, hc2, hc3, hc4, hc5, ha⟩ := kLCe_elem (HH.out.on hb.out) (fun y hy => kCe.holds_on (HEL.out y hy) hb.out) (j := j) (by omega)
      have hme : kCe.strip (nth L j) = meCe p (nth l j) := by rw [← nth_map kCe.strip (by omega), HT.out, mkLK_at _ _ _ (by rw [HLL.out]; exact hlt), ← HP.out]
      rw [hme] at ha hc3 hc4 hc5
      have hst := HST.out j hlt
      have hle := HLE.out (j + 1)
      obtain ⟨z, hz⟩ : ∃ z, nth l j = z := ⟨_, rfl⟩
      rw [hz] at ha hst hc3 hc4 hc5
      obtain ⟨y0_, m0_, d0_, y1_, m1_, d1_, y2_, m2_, d2_, e9, g9_⟩ := kCe_at ha
      cases e9
      obtain ⟨y0, m0, d0, y1, m1, d1, y2, m2, d2, e9, g0, g1, g2⟩ := kDz_at g9_
      cases e9
      clear g9_
      obtain ⟨a0, ha0⟩ : ∃ a, z.1.1.length = a := ⟨_, rfl⟩
      obtain ⟨a1, ha1⟩ : ∃ a, z.1.2.1.length = a := ⟨_, rfl⟩
      obtain ⟨a2, ha2⟩ : ∃ a, z.1.2.2.1.length = a := ⟨_, rfl⟩
      obtain ⟨v9, e9, h9_0⟩ := kN_at g0
      cases e9
      obtain ⟨v9, e9, h9_1⟩ := kB_at g1
      cases e9
      obtain ⟨v9, e9, h9_2⟩ := kN_at g2
      cases e9
      have hmv : mvCe z = a0 + a1 + a2 + 3 := by unfold mvCe; rw [ha0, ha1, ha2]
      rw [hmv] at hst
      have hp := HP.out
      have G0 := Lib.hid (show Holds Value.string wr (.slice x0 n0 c0) (marks markT (p) a0) from by have h8 := h9_0; simp only [meCe, ha0, ha1, ha2] at h8; exact h8)
      have G1 := Lib.hid (show Sl.Holds .u8 wr (.slice x1 n1 c1) (Sl.marks .u8 (p + (a0 : Int)) a1) from by have h8 := h9_1; simp only [meCe, ha0, ha1, ha2] at h8; exact h8)
      have G2 := Lib.hid (show Holds Value.string wr (.slice x2 n2 c2) (marks markT (p + (a0 : Int) + (a1 : Int)) a2) from by have h8 := h9_2; simp only [meCe, ha0, ha1, ha2] at h8; exact h8)
      have HC3 := Lib.hid (show wr.cell? ⟨b, off + j * 6 + 3, none⟩ = some (.int .i64 (p + (a0 : Int) + (a1 : Int) + (a2 : Int))) from by have h8 := hc3; simp only [meCe, ha0, ha1, ha2] at h8; exact h8)
      have HC4 := Lib.hid (show wr.cell? ⟨b, off + j * 6 + 4, none⟩ = some (.int .i64 (p + (a0 : Int) + (a1 : Int) + (a2 : Int) + 1)) from by have h8 := hc4; simp only [meCe, ha0, ha1, ha2] at h8; exact h8)
      have HC5 := Lib.hid (show wr.cell? ⟨b, off + j * 6 + 5, none⟩ = some (.int .i64 (p + (a0 : Int) + (a1 : Int) + (a2 : Int) + 1 + 1)) from by have h8 := hc5; simp only [meCe, ha0, ha1, ha2] at h8; exact h8)
      have HC0 := Lib.hid (show wr.cell? ⟨b, off + j * 6, none⟩ = some (.slice x0 n0 c0) from hc0)
      have HC1 := Lib.hid (show wr.cell? ⟨b, off + j * 6 + 1, none⟩ = some (.slice x1 n1 c1) from hc1)
      have HC2 := Lib.hid (show wr.cell? ⟨b, off + j * 6 + 2, none⟩ = some (.slice x2 n2 c2) from hc2)
      have ba0 : a0 ≤ 100000000 := by omega
      have ba1 : a1 ≤ 100000000 := by omega
      have ba2 : a2 ≤ 100000000 := by omega
      have btot : p + ((a0 + a1 + a2 + 3 : Nat) : Int) ≤ 100000000000 := by omega
      have HSTP := Lib.hid hst
      clear hn ha hme hst hle hmv hp hz hc0 hc1 hc2 hc3 hc4 hc5 ha0 ha1 ha2 h9_0 h9_1 h9_2 g0 g1 g2
      have c : wr.cell? ⟨b, off + j * 6, none⟩ = some (.slice x0 n0 c0) := HC0.out
      go_wp2_with fail
      clear c
      refine (heldStringS _ _ (p) a0 G0.out ba0 (by omega) (by omega)).mono ?_
      rintro e w1 ⟨rfl, hb1⟩
      replace HC1 := Lib.hid ((hb1.cell (Ret.cell_lt HC1.out)).trans HC1.out)
      replace HC2 := Lib.hid ((hb1.cell (Ret.cell_lt HC2.out)).trans HC2.out)
      replace HC3 := Lib.hid ((hb1.cell (Ret.cell_lt HC3.out)).trans HC3.out)
      replace HC4 := Lib.hid ((hb1.cell (Ret.cell_lt HC4.out)).trans HC4.out)
      replace HC5 := Lib.hid ((hb1.cell (Ret.cell_lt HC5.out)).trans HC5.out)
      replace G1 := Lib.hid (G1.out.on hb1)
      replace G2 := Lib.hid (G2.out.on hb1)
      replace hb := Lib.hid (hb.out.trans (hb1.mono hb.out.size)); clear hb1
      have bq : ¬ p + (a0 : Int) < 0 := by omega
      have c : w1.cell? ⟨b, off + j * 6 + 1, none⟩ = some (.slice x1 n1 c1) := HC1.out
      go_wp2_with fail
      clear c bq
      refine ((Sl.heldByteS _ _ (p + (a0 : Int)) a1 G1.out ba1 (by omega) (by omega)).mono fun e w' ⟨a, b⟩ => (⟨a, by subst b; exact Below.refl _ _⟩ : e = _ ∧ Below w1.heap.size w1 w')).mono ?_
      rintro e w2 ⟨rfl, hb1⟩
      replace HC2 := Lib.hid ((hb1.cell (Ret.cell_lt HC2.out)).trans HC2.out)
      replace HC3 := Lib.hid ((hb1.cell (Ret.cell_lt HC3.out)).trans HC3.out)
      replace HC4 := Lib.hid ((hb1.cell (Ret.cell_lt HC4.out)).trans HC4.out)
      replace HC5 := Lib.hid ((hb1.cell (Ret.cell_lt HC5.out)).trans HC5.out)
      replace G2 := Lib.hid (G2.out.on hb1)
      replace hb := Lib.hid (hb.out.trans (hb1.mono hb.out.size)); clear hb1
      have bq : ¬ p + (a0 : Int) + (a1 : Int) < 0 := by omega
      have c : w2.cell? ⟨b, off + j * 6 + 2, none⟩ = some (.slice x2 n2 c2) := HC2.out
      go_wp2_with fail
      clear c bq
      refine (heldStringS _ _ (p + (a0 : Int) + (a1 : Int)) a2 G2.out ba2 (by omega) (by omega)).mono ?_
      rintro e w3 ⟨rfl, hb1⟩
      replace HC3 := Lib.hid ((hb1.cell (Ret.cell_lt HC3.out)).trans HC3.out)
      replace HC4 := Lib.hid ((hb1.cell (Ret.cell_lt HC4.out)).trans HC4.out)
      replace HC5 := Lib.hid ((hb1.cell (Ret.cell_lt HC5.out)).trans HC5.out)
      replace hb := Lib.hid (hb.out.trans (hb1.mono hb.out.size)); clear hb1
      have bq : ¬ p + (a0 : Int) + (a1 : Int) + (a2 : Int) < 0 := by omega
      have c39 : w3.cell? ⟨b, off + j * 6 + 3, none⟩ = some (.int .i64 (p + (a0 : Int) + (a1 : Int) + (a2 : Int))) := HC3.out
      have c49 : w3.cell? ⟨b, off + j * 6 + 4, none⟩ = some (.int .i64 (p + (a0 : Int) + (a1 : Int) + (a2 : Int) + 1)) := HC4.out
      have c59 : w3.cell? ⟨b, off + j * 6 + 5, none⟩ = some (.int .i64 (p + (a0 : Int) + (a1 : Int) + (a2 : Int) + 1 + 1)) := HC5.out
      go_wp2_with fail
      go_roundw
      case rel => exact ⟨j + 1, by omega, by go_num, p + (a0 : Int) + (a1 : Int) + (a2 : Int) + 1 + 1 + 1, by go_num, by omega, by omega, Lib.hid (by rw [HSTP.out, HP.out]; omega), hb⟩
      case measure => simp [intOf]; omega
    · obtain rfl : j = n := by omega
      clear hlt
      go_wp2
      go_ret
      have hp := HP.out
      rw [show l.take j = l from List.take_of_length_le (by rw [HLL.out]; exact Nat.le_refl _)] at hp
      exact ⟨ret_int hp, hb.out⟩
end Go.Proofs.Ythfljbbigpophaa.Row
/- The content store: marked. No conditions but that lengths fit. -/
namespace Go.Proofs.Ythfljbbigpophaa.Row
open Go.ChangeShapes Go.WideShapes Go.ChangeAt Go.RowKit Go.Instr
set_option linter.unusedVariables false
set_option maxRecDepth 100000
def avCn (x : Cnt) : Nat := advK mvCe x.2
def mkCn (k : Int) (x : Cnt) : Cnt := (x.1, mkLK mvCe meCe (k) x.2)
set_option maxHeartbeats 4000000 in
theorem markContentStoreK (B E : Nat) (m : Int × Rw Cem) (w : World) (k : Int) (h : kCn.Own B E w m) (hp : avCn (kCn.strip m) ≤ 100000000) (h0 : 0 ≤ k) (h1 : k + (avCn (kCn.strip m) : Int) ≤ 100000000000) :
    Calls Try.prog 14 #[kCn.val m, .int .i64 k] w fun e w' => e = .returned (.int .i64 (k + (avCn (kCn.strip m) : Int))) ∧ ∃ m', kCn.val m' = kCn.val m ∧ kCn.blocks m' = kCn.blocks m ∧ kCn.strip m' = mkCn k (kCn.strip m) ∧ kCn.Own B E w' m' ∧ WroteBy (kCn.blocks m) w w' := by
  obtain ⟨m0, m1⟩ := m
  obtain ⟨o0, o1, hd0⟩ := Kd.Own.parts h
  obtain ⟨x1_0, n1_0, c1_0, e1, -⟩ := kLCe_shapeA (Kd.at_of (k := kLCe) o1.holds)
  have d1 : kLCe.cells m1 = [.slice x1_0 n1_0 c1_0] := by show [kLCe.val m1] = _; rw [e1]
  have hval : kCn.val (m0, m1) = .agg #[.int .i64 m0, .slice x1_0 n1_0 c1_0] := by
    show Value.agg ((kInt.cells m0 ++ (kLCe.cells m1))).toArray = _
    rw [d1]
    rfl
  have hp9 : advK mvCe (kLCe.strip m1) ≤ 100000000 := hp
  rw [hval]
  have hk9 : k + ((advK mvCe (kLCe.strip m1) : Nat) : Int) ≤ 100000000000 := h1
  have hal := (Below.refl w.heap.size w).alloc (Nat.le_refl _) (.cells #[.int .i64 m0, .slice x1_0 n1_0 c1_0] 24)
  have HW := Lib.hid (WroteBy.ofBelow (bs := kCn.blocks (m0, m1)) hal)
  have HX := Lib.hid (Ret.Blk.new w #[.int .i64 m0, .slice x1_0 n1_0 c1_0] 24)
  have O1 := Lib.hid (o1.on hal); have LT1 := Lib.hid (fun g hg => (o1.lt g hg).2.2); have EV1 := Lib.hid e1; have D1 := Lib.hid d1
  have HD0 := Lib.hid hd0
  have HVAL := Lib.hid hval
  clear hval hal h hp o1 e1 d1 hd0 o0
  go_enter Try.func14, Try.ntmps14
  go_wp2_with fail
  have hc := markCacheEntrySK B E m1 (w.alloc (.cells #[.int .i64 m0, .slice x1_0 n1_0 c1_0] 24)) (k) O1.out (by omega) (by omega) (by omega)
  rw [EV1.out] at hc
  refine hc.mono ?_
  clear hc
  rintro e w1 ⟨rfl, n1, v1, b1, s1, ho, hw⟩
  replace O1 := Lib.hid ho
  have V1 := Lib.hid v1; have N1 := Lib.hid b1; have S1 := Lib.hid s1; clear ho v1 b1 s1
  replace HX := Lib.hid (hw.blk HX.out (fun hg => by have h5 := LT1.out _ hg; omega))
  replace HW := Lib.hid (HW.out.trans (hw.more (fun g hg => List.mem_append_right _ hg)))
  clear hw
  have q0 : w1.cell? ⟨w.heap.size, 0, none⟩ = some (.int .i64 m0) := HX.out.cell 0
  have q1 : w1.cell? ⟨w.heap.size, 1, none⟩ = some (.slice x1_0 n1_0 c1_0) := HX.out.cell 1
  go_wp2_with fail
  go_ret
  refine ⟨ret_int (by show _ = k + ((advK mvCe (kLCe.strip m1) : Nat) : Int); omega), (m0, n1), ?_, ?_, ?_, ?_, HW.out⟩
  · show Value.agg ((kInt.cells m0 ++ (kLCe.cells n1))).toArray = _
    have c1 : kLCe.cells n1 = [.slice x1_0 n1_0 c1_0] := by
      have e := V1.out
      show [kLCe.val n1] = _; rw [e]
    rw [c1]
    rfl
  · show (kInt.blocks m0 ++ (kLCe.blocks n1)) = (kInt.blocks m0 ++ (kLCe.blocks m1))
    rw [N1.out]
  · show (m0, kLCe.strip n1) = mkCn k (m0, kLCe.strip m1)
    rw [S1.out]
    rfl
  · exact (Kd.Own.join (Kd.own_scalar _ _ _ _) O1.out (fun g hg hg2 => HD0.out g (hg) (by
      have hg3 : g ∈ kLCe.blocks n1 := hg2
      rw [N1.out] at hg3
      exact hg3)))
theorem markCnK (B E : Nat) (V : Value) (x : Cnt) (w : World) (k : Int) (h : kCn.In B E w V x) (hp : avCn x ≤ 100000000) (h0 : 0 ≤ k) (h1 : k ≤ 1000000000) :
    Calls Try.prog 14 #[V, .int .i64 k] w fun e w' => e = .returned (.int .i64 (k + (avCn x : Int))) ∧ kCn.In B E w' V (mkCn k x) ∧ Wrote B E w w' := by
  obtain ⟨m, rfl, rfl, hw9⟩ := h.split
  refine (markContentStoreK B E m w k hw9 hp h0 (by omega)).mono ?_
  rintro e w' ⟨a, n, v, b, s, ho, hw⟩
  exact ⟨a, v ▸ s ▸ ho.in, hw.wrote (fun g hg => ⟨(hw9.lt g hg).1, (hw9.lt g hg).2.1⟩)⟩
end Go.Proofs.Ythfljbbigpophaa.Row
/- Lists of Name: marked and looked at. No conditions but that lengths fit. -/
namespace Go.Proofs.Ythfljbbigpophaa.Row
open Go.ChangeShapes Go.WideShapes Go.ChangeAt Go.RowKit Go.Instr
set_option linter.unusedVariables false
set_option maxRecDepth 100000
def mvNn (z : Nnt) : Nat := z.length
def meNn (q : Int) (z : Nnt) : Nnt := marks markT (q) z.length
theorem mfNn0 (B E : Nat) (x : Nnm) (w : World) (q : Int) (a : Nat) (ha : (kNn.strip x).length = a) (ho : kNn.Own B E w x) (hl : a ≤ 100000000) (h0 : 0 ≤ q) (h1 : q + (a : Int) ≤ 100000000000) :
    Calls Try.prog 77 #[x.v, .int .i64 q] w fun e w' => e = .returned (.int .i64 (q + (a : Int))) ∧ ∃ x', kNn.cells x' = kNn.cells x ∧ kNn.blocks x' = kNn.blocks x ∧ kNn.strip x' = marks markT (q) (kNn.strip x).length ∧ kNn.Own B E w' x' ∧ WroteBy (kNn.blocks x) w w' := by
  subst ha
  exact markF_N B E x w q ho hl h0 h1
set_option maxHeartbeats 4000000 in
theorem markNameSK (B E : Nat) (m : Rw Nnm) (w : World) (k : Int) (h : kLNn.Own B E w m) (hl : advK mvNn (kLNn.strip m) ≤ 100000000) (h0 : 0 ≤ k) (h1 : k + (advK mvNn (kLNn.strip m) : Int) ≤ 100000000000) :
    Calls Try.prog 40 #[kLNn.val m, .int .i64 k] w fun e w' => e = .returned (.int .i64 (k + (advK mvNn (kLNn.strip m) : Int))) ∧ ∃ m', kLNn.val m' = kLNn.val m ∧ kLNn.blocks m' = kLNn.blocks m ∧ kLNn.strip m' = mkLK mvNn meNn k (kLNn.strip m) ∧ kLNn.Own B E w' m' ∧ WroteBy (kLNn.blocks m) w w' := by
  obtain ⟨ad, n, cap, L⟩ := m
  replace h : (kNn.slice 44).Own B E w ⟨ad, n, cap, L⟩ := h
  replace hl : advK mvNn (L.map kNn.strip) ≤ 100000000 := hl
  replace h1 : k + (advK mvNn (L.map kNn.strip) : Int) ≤ 100000000000 := h1
  show Calls Try.prog 40 #[.slice ad n cap, .int .i64 k] w fun e w' => e = .returned (.int .i64 (k + (advK mvNn (L.map kNn.strip) : Int))) ∧ ∃ m' : Rw Nnm, Rw.v m' = .slice ad n cap ∧ (kNn.slice 44).blocks m' = (kNn.slice 44).blocks ⟨ad, n, cap, L⟩ ∧ m'.els.map kNn.strip = mkLK mvNn meNn k (L.map kNn.strip) ∧ (kNn.slice 44).Own B E w' m' ∧ WroteBy ((kNn.slice 44).blocks ⟨ad, n, cap, L⟩) w w'
  rcases h.row.form with ⟨hv, hL⟩ | ⟨g, cap', hv, g1, g2, g3, g4⟩
  · cases hv
    subst hL
    have H := Lib.hid h; clear h
    go_enter Try.func40, Try.ntmps40
    go_wp2
    refine wp_loop_rounds 1 ?_
    rw [rounds_succ]
    go_wp2
    go_ret
    exact ⟨ret_int (by simp [advK]), ⟨⟨none, 0, 0, []⟩, rfl, rfl, rfl, H.out, WroteBy.refl _ _⟩⟩
  · cases hv
    have HROWLT := g2
    obtain ⟨n, hn⟩ : ∃ n, n = L.length := ⟨_, rfl⟩
    rw [← hn] at h g3 ⊢
    obtain ⟨l, hl9⟩ : ∃ l, L.map kNn.strip = l := ⟨_, rfl⟩
    rw [hl9] at hl h1 ⊢
    have hll : l.length = n := by rw [← hl9, List.length_map, hn]
    obtain ⟨bs, hbs⟩ : ∃ bs, (kNn.slice 44).blocks ⟨some ⟨g, 0, none⟩, n, cap, L⟩ = bs := ⟨_, rfl⟩
    have hgb : g ∈ bs := by rw [← hbs]; exact List.mem_append_left _ (by simp [Value.ownBlock, Rw.v])
    have heb : ∀ x ∈ L, ∀ q ∈ kNn.blocks x, q ∈ bs := fun x hx q hq => by rw [← hbs]; exact List.mem_append_right _ (List.mem_flatMap.2 ⟨x, hx, hq⟩)
    have hmaxl : n ≤ 140737488351232 ∨ True := Or.inr trivial
    have hn2 : n ≤ maxLen := by rw [hn]; exact h.row.len
    unfold maxLen at hn2
    rw [hbs]
    have HN := Lib.hid hn; have HT := Lib.hid hl9; have HLL := Lib.hid hll; have HBS := Lib.hid hbs; have HGB := Lib.hid hgb; have HEB := Lib.hid heb
    have HST := Lib.hid (fun j (hj : j < n) => advK_take mvNn (l := l) (j := j) (by rw [hll]; exact hj))
    have HLE := Lib.hid (fun j => advK_take_le mvNn l j)
    have HB : Hid ((kNn.slice 44).Own B E w ⟨some ⟨g, 0, none⟩, n, cap, [] ++ L.drop 0⟩) := Lib.hid (by simpa using h)
    clear hn h hl9 hll hbs hgb heb hmaxl
    go_enter Try.func40, Try.ntmps40
    go_wp2
    go_loopw [1, 5] (fun kv i wr => ∃ j : Nat, j ≤ n ∧ i = .int .i64 j ∧ ∃ p : Int, kv = .int .i64 p ∧ 0 ≤ p ∧ p ≤ 100000000000 ∧ Hid (p = k + (advK mvNn (l.take j) : Int)) ∧ ∃ M : List Nnm, Hid (M.length = j) ∧ Hid (M.map kNn.strip = mkLK mvNn meNn k (l.take j)) ∧ Hid (M.map kNn.blocks = (L.take j).map kNn.blocks) ∧ Hid ((kNn.slice 44).Own B E wr ⟨some ⟨g, 0, none⟩, n, cap, M ++ L.drop j⟩) ∧ Hid (WroteBy bs w wr)) (fun _ i _ => n - (intOf i).toNat)
    case atStart => exact ⟨0, Nat.zero_le _, rfl, k, rfl, h0, by omega, Lib.hid (by simp [advK]), [], Lib.hid rfl, Lib.hid (by simp [mkLK]), Lib.hid rfl, HB, Lib.hid (WroteBy.refl _ _)⟩
    case round =>
      obtain ⟨j, hj, rfl, p, rfl, hp0, hp1, HP, M, HM1, HM2, HM3, HO, HW⟩ := hrel
      by_cases hlt : j < n
      · have hjL : j < L.length := by have := HN.out; omega
        obtain ⟨x0, hx0⟩ : ∃ x, nth L j = x := ⟨_, rfl⟩
        obtain ⟨Z, hZ⟩ : ∃ Z, M ++ L.drop j = Z := ⟨_, rfl⟩
        have hZl : n = Z.length := by rw [← hZ, List.length_append, HM1.out, List.length_drop]; have := HN.out; omega
        have hjZ : j < Z.length := by omega
        have hx9 : nth Z j = x0 := by rw [← hZ, nth_over HM1.out hjL, hx0]
        have ho := HO.out
        rw [hZ, ← set_nth9 hjZ, hx9] at ho
        have hst := HST.out j hlt
        rw [show nth l j = kNn.strip x0 by rw [← HT.out, nth_map _ hjL, hx0]] at hst
        have hle := HLE.out (j + 1)
        have hxb := HEB.out x0 (by rw [← hx0]; exact nth_mem hjL)
        obtain ⟨a0, ha0⟩ : ∃ a, (kNn.strip x0).length = a := ⟨_, rfl⟩
        have hmv : mvNn (kNn.strip x0) = a0 := by unfold mvNn; rw [ha0]
        rw [hmv] at hst
        have hp := HP.out
        have ba0 : a0 ≤ 100000000 := by omega
        have btot : p + ((a0 : Nat) : Int) ≤ 100000000000 := by omega
        have HX0 := Lib.hid hx0; have HZ := Lib.hid hZ; have HZL := Lib.hid hZl; have HJZ := Lib.hid hjZ; have HO0 := Lib.hid ho; have HSTP := Lib.hid hst; have HXB := Lib.hid hxb; have HJL := Lib.hid hjL; have HMV := Lib.hid hmv
        have HA0_0 := Lib.hid ha0
        have HW0 := HW
        clear hx0 hZ hZl hjZ hx9 ho hst hle hxb hp hjL hmv ha0
        have c : wr.cell? ⟨g, j, none⟩ = some x0.v := (by have h9 := (HO0.out.cell9 HZL.out HJZ.out (i := 0) (by decide)).1; rw [show kNn.size = 1 from rfl, Nat.mul_one, Nat.add_zero] at h9; exact h9)
        go_wp2_with fail
        clear c
        refine (mfNn0 B E x0 wr (p) a0 HA0_0.out (HO0.out.elem9 HJZ.out) ba0 (by omega) (by omega)).mono ?_
        rintro e w1 ⟨rfl, x1, hc, hb, hs, ho, hw⟩
        have HO1 := Lib.hid (HO0.out.part9 HJZ.out hc hb ho hw); have HB1 := Lib.hid hb; have HS1 := Lib.hid hs
        have HW1 := Lib.hid (HW0.out.trans (hw.more (fun q hq => HXB.out q hq)))
        clear hc hb hs ho hw
        have HOF : Hid ((kNn.slice 44).Own B E w1 ⟨some ⟨g, 0, none⟩, n, cap, Z.set j x1⟩) := Lib.hid HO1.out
        have HWF : Hid (WroteBy bs w w1) := Lib.hid HW1.out
        have HSF : Hid (kNn.strip x1 = meNn p (kNn.strip x0)) := Lib.hid (by
          show kNn.strip x1 = _
          unfold meNn
          simp only [HS1.out, HA0_0.out])
        have HBF : Hid (kNn.blocks x1 = kNn.blocks x0) := Lib.hid (show _ = _ from HB1.out)
        clear HO0 HW0 HO1 HW1 HB1 HS1
        go_wp2_with fail
        go_roundw
        case rel =>
          refine ⟨j + 1, by omega, by go_num, p + (a0 : Int), by go_num, by omega, by omega, Lib.hid ?_, M ++ [x1], Lib.hid ?_, Lib.hid ?_, Lib.hid ?_, Lib.hid ?_, HWF⟩
          · rw [HSTP.out, HP.out]; omega
          · simp [HM1.out]
          · rw [List.map_append, HM2.out, mkLK_take _ _ _ (by rw [HLL.out]; exact hlt), show nth l j = kNn.strip x0 by rw [← HT.out, nth_map _ HJL.out, HX0.out], ← HP.out, ← HSF.out]
            rfl
          · rw [List.map_append, HM3.out, List.take_succ_eq_append_getElem HJL.out, List.map_append, ← nth_eq HJL.out, HX0.out]
            simp only [List.map_cons, List.map_nil]
            rw [HBF.out]
          · have h9 := HOF.out
            rw [← HZ.out, set_over HM1.out HJL.out] at h9
            exact h9
        case measure => simp [intOf]; omega
      · obtain rfl : j = n := by omega
        clear hlt
        go_wp2
        go_ret
        have hn := HN.out
        have hp := HP.out
        have e1 : l.take j = l := List.take_of_length_le (by rw [HLL.out]; exact Nat.le_refl _)
        have e2 : L.take j = L := List.take_of_length_le (by omega)
        have e3 : L.drop j = [] := List.drop_eq_nil_of_le (by omega)
        have hh := HO.out
        have hm2 := HM2.out
        have hm3 := HM3.out
        rw [e1] at hp hm2
        rw [e2] at hm3
        rw [e3, List.append_nil] at hh
        refine ⟨ret_int hp, ⟨some ⟨g, 0, none⟩, j, cap, M⟩, rfl, ?_, hm2, hh, HW.out⟩
        rw [← HBS.out]
        show _ ++ M.flatMap kNn.blocks = _ ++ L.flatMap kNn.blocks
        rw [List.flatMap_def, List.flatMap_def, hm3]
        rfl
set_option maxHeartbeats 4000000 in
theorem heldNameSK (V : Value) (l : List Nnt) (w : World) (k : Int) (h : kLNn.At w V (mkLK mvNn meNn k l)) (hl : advK mvNn l ≤ 100000000) (hlen : l.length ≤ 100000000) (h0 : 0 ≤ k) (h1 : k + (advK mvNn l : Int) ≤ 100000000000) :
    Calls Try.prog 41 #[V, .int .i64 k] w fun e w' => e = .returned (.int .i64 (k + (advK mvNn l : Int))) ∧ Below w.heap.size w w' := by
  obtain ⟨ad, n, cap, L, rfl, hn, hL, hh, hel⟩ := kLNn_at h
  have hll : l.length = n := by have := congrArg List.length hL; rw [List.length_map, mkLK_length] at this; omega
  rw [hll] at hlen
  have HN := Lib.hid hn; have HT := Lib.hid hL; have HH := Lib.hid hh; have HEL := Lib.hid hel; have HLL := Lib.hid hll
  have HST := Lib.hid (fun j (hj : j < n) => advK_take mvNn (l := l) (j := j) (by rw [hll]; exact hj))
  have HLE := Lib.hid (fun j => advK_take_le mvNn l j)
  clear h hn hL hh hel hll
  go_enter Try.func41, Try.ntmps41
  go_wp2
  go_loopw [1, 5] (fun kv i wr => ∃ j : Nat, j ≤ n ∧ i = .int .i64 j ∧ ∃ p : Int, kv = .int .i64 p ∧ 0 ≤ p ∧ p ≤ 100000000000 ∧ Hid (p = k + (advK mvNn (l.take j) : Int)) ∧ Hid (Below w.heap.size w wr)) (fun _ i _ => n - (intOf i).toNat)
  case atStart => exact ⟨0, Nat.zero_le _, rfl, k, rfl, h0, by omega, Lib.hid (by simp [advK]), Lib.hid (Below.refl _ _)⟩
  case round =>
    obtain ⟨j, hj, rfl, p, rfl, hp0, hp1, HP, hb⟩ := hrel
    by_cases hlt : j < n
    · have hn := HN.out
      obtain ⟨b, off, x0, n0, c0, rfl, -, hc0, ha⟩ := kLNn_elem (HH.out.on hb.out) (fun y hy => kNn.holds_on (HEL.out y hy) hb.out) (j := j) (by omega)
      have hme : kNn.strip (nth L j) = meNn p (nth l j) := by rw [← nth_map kNn.strip (by omega), HT.out, mkLK_at _ _ _ (by rw [HLL.out]; exact hlt), ← HP.out]
      rw [hme] at ha 
      have hst := HST.out j hlt
      have hle := HLE.out (j + 1)
      obtain ⟨z, hz⟩ : ∃ z, nth l j = z := ⟨_, rfl⟩
      rw [hz] at ha hst 
      obtain ⟨v9, e9, h9_0⟩ := kN_at ha
      cases e9
      obtain ⟨a0, ha0⟩ : ∃ a, z.length = a := ⟨_, rfl⟩
      have hmv : mvNn z = a0 := by unfold mvNn; rw [ha0]
      rw [hmv] at hst
      have hp := HP.out
      have G0 := Lib.hid (show Holds Value.string wr (.slice x0 n0 c0) (marks markT (p) a0) from by have h8 := h9_0; simp only [meNn, ha0] at h8; exact h8)
      have HC0 := Lib.hid (show wr.cell? ⟨b, off + j, none⟩ = some (.slice x0 n0 c0) from hc0)
      have ba0 : a0 ≤ 100000000 := by omega
      have btot : p + ((a0 : Nat) : Int) ≤ 100000000000 := by omega
      have HSTP := Lib.hid hst
      clear hn ha hme hst hle hmv hp hz hc0 ha0 h9_0
      have c : wr.cell? ⟨b, off + j, none⟩ = some (.slice x0 n0 c0) := HC0.out
      go_wp2_with fail
      clear c
      refine (heldStringS _ _ (p) a0 G0.out ba0 (by omega) (by omega)).mono ?_
      rintro e w1 ⟨rfl, hb1⟩
      replace hb := Lib.hid (hb.out.trans (hb1.mono hb.out.size)); clear hb1
      have bq : ¬ p + (a0 : Int) < 0 := by omega
      go_wp2_with fail
      go_roundw
      case rel => exact ⟨j + 1, by omega, by go_num, p + (a0 : Int), by go_num, by omega, by omega, Lib.hid (by rw [HSTP.out, HP.out]; omega), hb⟩
      case measure => simp [intOf]; omega
    · obtain rfl : j = n := by omega
      clear hlt
      go_wp2
      go_ret
      have hp := HP.out
      rw [show l.take j = l from List.take_of_length_le (by rw [HLL.out]; exact Nat.le_refl _)] at hp
      exact ⟨ret_int hp, hb.out⟩
end Go.Proofs.Ythfljbbigpophaa.Row
/- Lists of names, marked and held, in the words of the exact laws. No conditions but that lengths fit. -/
namespace Go.Proofs.Ythfljbbigpophaa.Row
open Go.ChangeShapes Go.WideShapes Go.ChangeAt Go.RowKit Go.Instr
set_option linter.unusedVariables false
set_option maxRecDepth 100000
theorem advK_sum {α : Type} (f : α → Nat) (l : List α) : advK f l = (l.map f).sum := by
  induction l with
  | nil => rfl
  | cons a r ih => simp [advK, ih]
theorem advK_bulkK {α : Type} [Inhabited α] (f g : α → Nat) (c : Nat) (h : ∀ x, f x ≤ g x + c) (hc : 1 ≤ c) (l : List α) : advK f l ≤ c * bulkK g l := by
  have h1 : ∀ l : List α, advK f l ≤ (l.map g).sum + c * l.length := fun l => by
    induction l with
    | nil => simp [advK]
    | cons a r ih =>
      have := h a
      simp only [advK, List.map_cons, List.sum_cons, List.length_cons, Nat.mul_add]
      omega
  have h2 : bulkK g l = l.length + (l.map g).sum := by unfold bulkK bulkKTo; rw [List.take_length]
  have h3 := h1 l
  have h4 : (l.map g).sum ≤ c * (l.map g).sum := Nat.le_mul_of_pos_left _ hc
  rw [h2, Nat.mul_add]
  omega
theorem adL_adv (l : List Nnt) : adLNn l = l.length + advK mvNn l := by
  unfold adLNn bulkK bulkKTo
  rw [List.take_length, advK_sum]
  rfl
theorem adv_adL (l : List Nnt) : advK mvNn l ≤ adLNn l := by rw [adL_adv]; omega
theorem markLNnK (B E : Nat) (V : Value) (l : List Nnt) (w : World) (k : Int) (h : kLNn.In B E w V l) (hl : adLNn l ≤ 100000000) (h0 : 0 ≤ k) (h1 : k ≤ 1000000000) :
    Calls Try.prog 40 #[V, .int .i64 k] w fun e w' => e = .returned (.int .i64 (k + (advK mvNn l : Int))) ∧ kLNn.In B E w' V (mkLK mvNn meNn k l) ∧ Wrote B E w w' := by
  obtain ⟨m, rfl, rfl, hw9⟩ := h.split
  have hle := adv_adL (kLNn.strip m)
  refine (markNameSK B E m w k hw9 (by omega) h0 (by omega)).mono ?_
  rintro e w' ⟨a, n, v, b, s, ho, hw⟩
  exact ⟨a, v ▸ s ▸ ho.in, hw.wrote (fun g hg => ⟨(hw9.lt g hg).1, (hw9.lt g hg).2.1⟩)⟩
theorem heldLNnK (V : Value) (w : World) (k : Int) (l : List Nnt) (h : kLNn.At w V (mkLK mvNn meNn k l)) (hl : adLNn l ≤ 100000000) (h0 : 0 ≤ k) (h1 : k ≤ 1000000000) :
    Calls Try.prog 41 #[V, .int .i64 k] w fun e w' => e = .returned (.int .i64 (k + (advK mvNn l : Int))) ∧ Below w.heap.size w w' := by
  have h9 := adL_adv l
  exact heldNameSK V l w k h (by omega) (by omega) h0 (by omega)
end Go.Proofs.Ythfljbbigpophaa.Row
/- The content store in the words of the exact laws: its marks held; how much the answers of chapter 12's functions hold. No conditions but that lengths fit. -/
namespace Go.Proofs.Ythfljbbigpophaa.Row
open Go.ChangeShapes Go.WideShapes Go.ChangeAt Go.RowKit Go.Instr
set_option linter.unusedVariables false
set_option maxRecDepth 100000
theorem bulkK_sum {α : Type} (f : α → Nat) (l : List α) : bulkK f l = l.length + (l.map f).sum := by unfold bulkK bulkKTo; rw [List.take_length]
theorem sum_sub {α : Type} (f : α → Nat) {l m : List α} (h : l.Sublist m) : (l.map f).sum ≤ (m.map f).sum := by
  induction h with
  | slnil => exact Nat.le_refl _
  | cons a _ ih => simp only [List.map_cons, List.sum_cons]; omega
  | cons_cons a _ ih => simp only [List.map_cons, List.sum_cons]; omega
theorem set_map {α : Type} [Inhabited α] (f : α → Nat) {l : List α} {i : Nat} {y : α} (hy : f y = f (nth l i)) : (l.set i y).map f = l.map f := by
  rw [List.map_set]
  by_cases h : i < l.length
  · rw [hy, nth_eq h]
    have h2 : ∀ (l : List α) (i : Nat) (h : i < l.length), (l.map f).set i (f l[i]) = l.map f := fun l => by
      induction l with
      | nil => intro i h; exact absurd h (by simp)
      | cons a r ih =>
        intro i h
        cases i with
        | zero => rfl
        | succ i => simp only [List.map_cons, List.set_cons_succ, List.getElem_cons_succ]; rw [ih i (by simpa using h)]
    exact h2 l i h
  · exact List.set_eq_of_length_le (by rw [List.length_map]; omega)
theorem mvCe_len (l : List Cet) : 3 * l.length ≤ advK mvCe l := by
  rw [advK_sum]
  induction l with
  | nil => simp
  | cons a r ih =>
    have h0 : 3 ≤ mvCe a := by unfold mvCe; omega
    simp only [List.map_cons, List.sum_cons, List.length_cons]; omega
theorem avCn_big {x : Cnt} {n : Nat} (h : wtCn x ≤ n) : avCn x ≤ 3 * n := by
  have h1 := advK_bulkK mvCe wtCe 3 (fun y => by have := bulk_len y.1.1; have := bulk_len y.1.2.2.1; unfold mvCe wtCe wtDz; omega) (by decide) x.2
  unfold avCn; unfold wtCn at h; omega
theorem part_sz {l m : List Cet} (h : l.Sublist m) : bulkK adCe l ≤ bulkK adCe m ∧ advK mvCe l ≤ advK mvCe m := by
  have h1 := sum_sub adCe h; have h2 := sum_sub mvCe h; have h3 := h.length_le
  rw [bulkK_sum, bulkK_sum, advK_sum, advK_sum]
  omega
theorem newC_sz (k : Int) : adCn (newC k) = 0 ∧ avCn (newC k) = 0 := ⟨rfl, rfl⟩
theorem roomE_sub (c : Int) (l : List Cet) : (roomE c l).Sublist l := by
  unfold roomE
  split
  · exact List.eraseIdx_sublist l _
  · exact List.Sublist.refl _
theorem cacheC_sz (x : Cnt) (d : Dzt) (now : Int) : adCn (cacheC x d now) ≤ adCn x + advD d + 1 ∧ avCn (cacheC x d now) ≤ avCn x + advD d + 3 := by
  unfold cacheC
  split
  · omega
  · split
    · have h1 := part_sz ((roomE_sub x.1 (rmE x.2 d.1)).trans (show (rmE x.2 d.1).Sublist x.2 from List.filter_sublist))
      unfold adCn avCn
      dsimp only
      rw [bulkK_sum adCe (_ ++ _), advK_sum mvCe (_ ++ _), List.map_append, List.map_append, List.sum_append, List.sum_append, List.length_append]
      rw [bulkK_sum, bulkK_sum, advK_sum, advK_sum] at h1
      have e1 : (List.map adCe [(d, now)]).sum = advD d := by simp [adCe, adDz, advD]
      have e2 : (List.map mvCe [(d, now)]).sum = advD d + 3 := by simp [mvCe, advD]
      rw [e1, e2, bulkK_sum, advK_sum]
      simp only [List.length_singleton]
      omega
    · omega
theorem touchC_sz (x : Cnt) (n : List ByteArray) (now : Int) : adCn (touchC x n now) = adCn x ∧ avCn (touchC x n now) = avCn x := by
  unfold touchC touchE adCn avCn
  dsimp only
  split
  · rw [bulkK_sum, bulkK_sum, advK_sum, advK_sum, set_map adCe (y := ((nth x.2 (ixL (isE n) x.2).toNat).1, now)) rfl, set_map mvCe (y := ((nth x.2 (ixL (isE n) x.2).toNat).1, now)) rfl, List.length_set]
    exact ⟨rfl, rfl⟩
  · exact ⟨rfl, rfl⟩
theorem evictC_sz (x : Cnt) (now : Int) : adCn (evictC x now) ≤ adCn x ∧ avCn (evictC x now) ≤ avCn x := by
  have h1 := part_sz (show (x.2.filter (frE now)).Sublist x.2 from List.filter_sublist)
  exact h1
theorem namesC_sz (x : Cnt) : adLNn (namesC x) ≤ adCn x ∧ advK mvNn (namesC x) ≤ adCn x := by
  have h0 : ∀ l : List Cet, ((l.map fun e => e.1.1).map adNn).sum ≤ (l.map adCe).sum := fun l => by
    induction l with
    | nil => simp
    | cons a r ih =>
      have h9 : adNn a.1.1 ≤ adCe a := by unfold adCe adDz; exact Nat.le_trans (Nat.le_refl a.1.1.length) (by omega)
      simp only [List.map_cons, List.sum_cons]; omega
  have h1 : adLNn (namesC x) ≤ adCn x := by
    unfold adLNn adCn namesC
    rw [bulkK_sum, bulkK_sum, List.length_map]
    have := h0 x.2; omega
  exact ⟨h1, Nat.le_trans (adv_adL _) h1⟩
theorem lookC_sz (x : Cnt) (n : List ByteArray) (now : Int) : advD (lookC x n now) ≤ adCn x := by
  unfold lookC
  split
  · rename_i h
    have hlt : (ixL (hitE n now) x.2).toNat < x.2.length := by
      rcases ixL_cases (hitE n now) x.2 with ⟨e, -⟩ | ⟨j, hj, e, -⟩
      · omega
      · omega
    have h1 : adCe (nth x.2 (ixL (hitE n now) x.2).toNat) ≤ bulkK adCe x.2 := bulkK_mem (nth_mem hlt)
    exact h1
  · exact Nat.zero_le _
set_option maxHeartbeats 4000000 in
theorem heldContentStoreK (V : Value) (w : World) (k : Int) (x : Cnt) (h : kCn.At w V (mkCn k x)) (hp : avCn x ≤ 100000000) (h0 : 0 ≤ k) (h1 : k ≤ 1000000000) :
    Calls Try.prog 15 #[V, .int .i64 k] w fun e w' => e = .returned (.int .i64 (k + (avCn x : Int))) ∧ Below w.heap.size w w' := by
  obtain ⟨x1, n1, c1, rfl, g⟩ := kCn_at h
  have hlen : x.2.length ≤ 100000000 := by have := mvCe_len x.2; have : advK mvCe x.2 ≤ 100000000 := hp; omega
  have hal := (Below.refl w.heap.size w).alloc (Nat.le_refl _) (.cells #[.int .i64 x.1, .slice x1 n1 c1] 24)
  have HX := Lib.hid (Ret.Blk.new w #[.int .i64 x.1, .slice x1 n1 c1] 24)
  have hp9 : advK mvCe x.2 ≤ 100000000 := hp
  have HC := Lib.hid (heldCacheEntrySK (.slice x1 n1 c1) x.2 (w.alloc (.cells #[.int .i64 x.1, .slice x1 n1 c1] 24)) k (Kd.At.on (k := kLCe) g hal) hp9 hlen h0 (by omega))
  have HB := Lib.hid hal
  have q1 : (w.alloc (.cells #[.int .i64 x.1, .slice x1 n1 c1] 24)).cell? ⟨w.heap.size, 1, none⟩ = some (.slice x1 n1 c1) := HX.out.cell 1
  have t0 : ¬ (k + (advK mvCe x.2 : Int)) < 0 := by omega
  clear h g hal hp hp9 hlen
  go_enter Try.func15, Try.ntmps15
  go_wp2_with fail
  refine HC.out.mono ?_
  rintro e w1 ⟨rfl, hb⟩
  have HB2 := Lib.hid (HB.out.trans (hb.mono HB.out.size)); clear hb q1
  go_wp2
  go_ret
  exact ⟨rfl, HB2.out⟩
end Go.Proofs.Ythfljbbigpophaa.Row
/- A slice of numbers that came in as an argument: it holds a list, its numbers fit their kind, its length is within the reach. No conditions. -/
namespace Go.Proofs.Ythfljbbigpophaa.Sl
open Go.ChangeShapes Go.WideShapes Go.ChangeAt Go.RowKit
end Go.Proofs.Ythfljbbigpophaa.Sl
/- The model's copies of the content store: l12Copy, EvictStale. No conditions but that lengths fit. -/
namespace Go.Proofs.Ythfljbbigpophaa.Row
open Go.ChangeShapes Go.WideShapes Go.ChangeAt Go.RowKit Go.Instr
set_option linter.unusedVariables false
set_option maxRecDepth 100000
set_option maxHeartbeats 8000000 in
theorem l12Copy (V : Value) (x : Cnt) (w : World) (h : kCn.At w V x) (hp : FitC x) :
    Calls Try.prog 55 #[V] w fun e w' => ∃ U, e = .returned U ∧ kCn.In w.heap.size w'.heap.size w' U (x) ∧ Below w.heap.size w w' := by
  obtain ⟨x1_0, n1_0, c1_0, rfl, g1⟩ := kCn_at h
  clear h
  obtain ⟨cc, l⟩ := x
  obtain ⟨hl, hp⟩ := hp.fields
  dsimp only at g1 hl hp ⊢
  have b0 := (Below.refl w.heap.size w).alloc (Nat.le_refl _) (.cells #[.int .i64 cc, .slice x1_0 n1_0 c1_0] 24)
  have b1 := (Below.refl (w.alloc (.cells #[.int .i64 cc, .slice x1_0 n1_0 c1_0] 24)).heap.size (w.alloc (.cells #[.int .i64 cc, .slice x1_0 n1_0 c1_0] 24))).alloc (Nat.le_refl _) (.cells #[.int .i64 0, .slice none 0 0] 24)
  have b2 := (Below.refl ((w.alloc (.cells #[.int .i64 cc, .slice x1_0 n1_0 c1_0] 24)).alloc (.cells #[.int .i64 0, .slice none 0 0] 24)).heap.size ((w.alloc (.cells #[.int .i64 cc, .slice x1_0 n1_0 c1_0] 24)).alloc (.cells #[.int .i64 0, .slice none 0 0] 24))).alloc (Nat.le_refl _) (.cells #[.int .i64 cc, .slice none 0 0] 24)
  have b012 := (b0.trans (b1.mono b0.size)).trans (b2.mono (Nat.le_trans b0.size b1.size))
  have HX0 := Lib.hid (((Ret.Blk.new w #[.int .i64 cc, .slice x1_0 n1_0 c1_0] 24).on b1).on b2)
  have HX1 := Lib.hid ((Ret.Blk.new' (w := (w.alloc (.cells #[.int .i64 cc, .slice x1_0 n1_0 c1_0] 24))) (n := w.heap.size + 1) #[.int .i64 0, .slice none 0 0] 24 (by simp)).on b2)
  have HX2 := Lib.hid (Ret.Blk.new' (w := ((w.alloc (.cells #[.int .i64 cc, .slice x1_0 n1_0 c1_0] 24)).alloc (.cells #[.int .i64 0, .slice none 0 0] 24))) (n := w.heap.size + 1 + 1) #[.int .i64 cc, .slice none 0 0] 24 (by simp))
  have hnil : kLCe.Own (w.heap.size + 1 + 1 + 1) (((w.alloc (.cells #[.int .i64 cc, .slice x1_0 n1_0 c1_0] 24)).alloc (.cells #[.int .i64 0, .slice none 0 0] 24)).alloc (.cells #[.int .i64 cc, .slice none 0 0] 24)).heap.size (((w.alloc (.cells #[.int .i64 cc, .slice x1_0 n1_0 c1_0] 24)).alloc (.cells #[.int .i64 0, .slice none 0 0] 24)).alloc (.cells #[.int .i64 cc, .slice none 0 0] 24)) ⟨none, 0, 0, []⟩ := le_nil _ _
  obtain ⟨x, n, cx, L, e9, hn, ht, hh, hel⟩ := kLCe_at g1
  cases e9
  have hlen : l.length = n1_0 := by rw [← ht, List.length_map]; exact hn.symm
  rw [hlen] at hl
  have hcap : n1_0 ≤ c1_0 := by obtain ⟨x', n', cap', hv, hn', hc', -⟩ := hh.shapeN; cases hv; exact hc'
  have HN := Lib.hid hn; have HT := Lib.hid ht; have HH := Lib.hid hh; have HEL := Lib.hid hel; have HLEN := Lib.hid hlen; have HP := Lib.hid hp; have HNIL := Lib.hid hnil; have HB0 := Lib.hid b012
  clear hn ht hh hel hlen hp g1 hnil b0 b1 b2 b012
  go_enter Try.func55, Try.ntmps55
  go_wp2
  go_loopw [4] (fun iv wr => ∃ k : Nat, k ≤ n1_0 ∧ iv = .int .i64 k ∧ ∃ xu nu cu Lu, Hid (Lu.length ≤ k) ∧ Hid (Lu.map kCe.strip = l.take k) ∧ Hid (kLCe.Own (w.heap.size + 1 + 1 + 1) wr.heap.size wr ⟨xu, nu, cu, Lu⟩) ∧ Hid (Ret.Blk wr (w.heap.size + 1 + 1) #[.int .i64 cc, .slice xu nu cu] 24) ∧ Hid (Ret.Blk wr (w.heap.size + 1) #[.int .i64 0, .slice none 0 0] 24) ∧ Hid (Ret.Blk wr w.heap.size #[.int .i64 cc, .slice x1_0 n1_0 c1_0] 24) ∧ Hid (Below w.heap.size w wr) ∧ Hid ((w.heap.size + 1 + 1 + 1) ≤ wr.heap.size)) (fun iv _ => n1_0 - (intOf iv).toNat)
  case atStart => exact ⟨0, Nat.zero_le _, rfl, none, 0, 0, [], Lib.hid (Nat.le_refl _), Lib.hid (by simp), HNIL, HX2, HX1, HX0, HB0, Lib.hid (by simp)⟩
  case round =>
    obtain ⟨k, hk, rfl, xu, nu, cu, Lu, hM, hst, ho, hx2, hx1, hx0, hb, hsz⟩ := hrel
    have q1 : wr.cell? ⟨w.heap.size, 1, none⟩ = some (.slice x1_0 n1_0 c1_0) := hx0.out.cell 1
    have q2 : wr.cell? ⟨w.heap.size + 1 + 1, 1, none⟩ = some (.slice xu nu cu) := hx2.out.cell 1
    by_cases hlt : k < n1_0
    · have hlen := HN.out
      obtain ⟨b, off, y0, m0, d0, y1, m1, d1, y2, m2, d2, rfl, -, hc0, hc1, hc2, hc3, hc4, hc5, hA⟩ := kLCe_elem (HH.out.on hb.out) (fun y hy => kCe.holds_on (HEL.out y hy) hb.out) (j := k) (by omega)
      have hpt : nth l k = kCe.strip (nth L k) := by rw [← HT.out, nth_map _ (by omega)]
      have hps := HP.out (nth l k) (nth_mem (by have := HLEN.out; omega))
      rw [← hpt] at hA hc3 hc4 hc5
      obtain ⟨hD, hNM⟩ := kCe_parts hA
      have HA := Lib.hid hA; have HD := Lib.hid hD; have HNM := Lib.hid hNM; have HPS := Lib.hid hps; have HPD := Lib.hid (show wtDz (nth l k).1 ≤ 1200000 from hps); have HPN := Lib.hid (show bulk (nth l k).1.1 ≤ 1200000 from (wtDz_lens _ hps).1)
      have H0 := Lib.hid hc0; have H1 := Lib.hid hc1; have H2 := Lib.hid hc2; have H3 := Lib.hid hc3; have H4 := Lib.hid hc4; have H5 := Lib.hid hc5
      clear hlen hpt hps hA hD hNM
      go_wp2_with fail
      refine (sCpyZ HD.out (Nat.le_trans HPD.out (by decide))).mono ?_
      rintro e w1 ⟨U, rfl, hi1, hb1⟩
      obtain ⟨m1, ya, ma, da, yb, mb, db, yc, mc, dc_, rfl, hs1, hd1, hi1⟩ := kDz_split hi1
      have hal := (Below.refl w1.heap.size w1).alloc (Nat.le_refl _) (.cells #[.slice ya ma da, .slice yb mb db, .slice yc mc dc_, .int .i64 (nth l k).1.2.2.2.1, .int .i64 (nth l k).1.2.2.2.2] 46)
      have hda := hal.drew
      have hbb := hb1.trans (hal.mono hb1.size)
      have X0 := (hx0.out.on hb1).on hal; have X2 := (hx2.out.on hb1).on hal
      have hx := (Ret.Blk.new w1 #[.slice ya ma da, .slice yb mb db, .slice yc mc dc_, .int .i64 (nth l k).1.2.2.2.1, .int .i64 (nth l k).1.2.2.2.2] 46)
      have e0 : (w1.alloc (.cells #[.slice ya ma da, .slice yb mb db, .slice yc mc dc_, .int .i64 (nth l k).1.2.2.2.1, .int .i64 (nth l k).1.2.2.2.2] 46)).cell? ⟨w.heap.size, 1, none⟩ = some (.slice (some ⟨b, off, none⟩) n1_0 c1_0) := X0.cell 1
      have e1 : (w1.alloc (.cells #[.slice ya ma da, .slice yb mb db, .slice yc mc dc_, .int .i64 (nth l k).1.2.2.2.1, .int .i64 (nth l k).1.2.2.2.2] 46)).cell? ⟨w.heap.size + 1 + 1, 1, none⟩ = some (.slice xu nu cu) := X2.cell 1
      have e2 : (w1.alloc (.cells #[.slice ya ma da, .slice yb mb db, .slice yc mc dc_, .int .i64 (nth l k).1.2.2.2.1, .int .i64 (nth l k).1.2.2.2.2] 46)).cell? ⟨b, off + k * 6 + 5, none⟩ = some (.int .i64 (nth l k).2) := kc H5.out hbb
      have y0_ : (w1.alloc (.cells #[.slice ya ma da, .slice yb mb db, .slice yc mc dc_, .int .i64 (nth l k).1.2.2.2.1, .int .i64 (nth l k).1.2.2.2.2] 46)).cell? ⟨w1.heap.size, 0, none⟩ = some (.slice ya ma da) := hx.cell 0
      have y1_ : (w1.alloc (.cells #[.slice ya ma da, .slice yb mb db, .slice yc mc dc_, .int .i64 (nth l k).1.2.2.2.1, .int .i64 (nth l k).1.2.2.2.2] 46)).cell? ⟨w1.heap.size, 1, none⟩ = some (.slice yb mb db) := hx.cell 1
      have y2_ : (w1.alloc (.cells #[.slice ya ma da, .slice yb mb db, .slice yc mc dc_, .int .i64 (nth l k).1.2.2.2.1, .int .i64 (nth l k).1.2.2.2.2] 46)).cell? ⟨w1.heap.size, 2, none⟩ = some (.slice yc mc dc_) := hx.cell 2
      have y3_ : (w1.alloc (.cells #[.slice ya ma da, .slice yb mb db, .slice yc mc dc_, .int .i64 (nth l k).1.2.2.2.1, .int .i64 (nth l k).1.2.2.2.2] 46)).cell? ⟨w1.heap.size, 3, none⟩ = some (.int .i64 (nth l k).1.2.2.2.1) := hx.cell 3
      have y4_ : (w1.alloc (.cells #[.slice ya ma da, .slice yb mb db, .slice yc mc dc_, .int .i64 (nth l k).1.2.2.2.1, .int .i64 (nth l k).1.2.2.2.2] 46)).cell? ⟨w1.heap.size, 4, none⟩ = some (.int .i64 (nth l k).1.2.2.2.2) := hx.cell 4
      have e1L : ((w1.alloc (.cells #[.slice ya ma da, .slice yb mb db, .slice yc mc dc_, .int .i64 (nth l k).1.2.2.2.1, .int .i64 (nth l k).1.2.2.2.2] 46)).alloc (.cells #[.slice ya ma da, .slice yb mb db, .slice yc mc dc_, .int .i64 (nth l k).1.2.2.2.1, .int .i64 (nth l k).1.2.2.2.2, .int .i64 (nth l k).2] 72)).cell? ⟨w.heap.size + 1 + 1, 1, none⟩ = some (.slice xu nu cu) := (X2.on ((Below.refl _ _).alloc (Nat.le_refl _) (.cells #[.slice ya ma da, .slice yb mb db, .slice yc mc dc_, .int .i64 (nth l k).1.2.2.2.1, .int .i64 (nth l k).1.2.2.2.2, .int .i64 (nth l k).2] 72))).cell 1
      have e1M : ((w1.alloc (.cells #[.slice ya ma da, .slice yb mb db, .slice yc mc dc_, .int .i64 (nth l k).1.2.2.2.1, .int .i64 (nth l k).1.2.2.2.2] 46)).alloc (.cells #[.slice ya ma da, .slice yb mb db, .slice yc mc dc_, .int .i64 (nth l k).1.2.2.2.1, .int .i64 (nth l k).1.2.2.2.2, .int .i64 (nth l k).2] 72)).drew.cell? ⟨w.heap.size + 1 + 1, 1, none⟩ = some (.slice xu nu cu) := e1L
      have e0d : (w1.alloc (.cells #[.slice ya ma da, .slice yb mb db, .slice yc mc dc_, .int .i64 (nth l k).1.2.2.2.1, .int .i64 (nth l k).1.2.2.2.2] 46)).drew.cell? ⟨w.heap.size, 1, none⟩ = some (.slice (some ⟨b, off, none⟩) n1_0 c1_0) := e0
      have e1d : (w1.alloc (.cells #[.slice ya ma da, .slice yb mb db, .slice yc mc dc_, .int .i64 (nth l k).1.2.2.2.1, .int .i64 (nth l k).1.2.2.2.2] 46)).drew.cell? ⟨w.heap.size + 1 + 1, 1, none⟩ = some (.slice xu nu cu) := e1
      have e2d : (w1.alloc (.cells #[.slice ya ma da, .slice yb mb db, .slice yc mc dc_, .int .i64 (nth l k).1.2.2.2.1, .int .i64 (nth l k).1.2.2.2.2] 46)).drew.cell? ⟨b, off + k * 6 + 5, none⟩ = some (.int .i64 (nth l k).2) := e2
      have y0d : (w1.alloc (.cells #[.slice ya ma da, .slice yb mb db, .slice yc mc dc_, .int .i64 (nth l k).1.2.2.2.1, .int .i64 (nth l k).1.2.2.2.2] 46)).drew.cell? ⟨w1.heap.size, 0, none⟩ = some (.slice ya ma da) := y0_
      have y1d : (w1.alloc (.cells #[.slice ya ma da, .slice yb mb db, .slice yc mc dc_, .int .i64 (nth l k).1.2.2.2.1, .int .i64 (nth l k).1.2.2.2.2] 46)).drew.cell? ⟨w1.heap.size, 1, none⟩ = some (.slice yb mb db) := y1_
      have y2d : (w1.alloc (.cells #[.slice ya ma da, .slice yb mb db, .slice yc mc dc_, .int .i64 (nth l k).1.2.2.2.1, .int .i64 (nth l k).1.2.2.2.2] 46)).drew.cell? ⟨w1.heap.size, 2, none⟩ = some (.slice yc mc dc_) := y2_
      have y3d : (w1.alloc (.cells #[.slice ya ma da, .slice yb mb db, .slice yc mc dc_, .int .i64 (nth l k).1.2.2.2.1, .int .i64 (nth l k).1.2.2.2.2] 46)).drew.cell? ⟨w1.heap.size, 3, none⟩ = some (.int .i64 (nth l k).1.2.2.2.1) := y3_
      have y4d : (w1.alloc (.cells #[.slice ya ma da, .slice yb mb db, .slice yc mc dc_, .int .i64 (nth l k).1.2.2.2.1, .int .i64 (nth l k).1.2.2.2.2] 46)).drew.cell? ⟨w1.heap.size, 4, none⟩ = some (.int .i64 (nth l k).1.2.2.2.2) := y4_
      have hbl := hda.alloc hda.size (.cells #[.slice ya ma da, .slice yb mb db, .slice yc mc dc_, .int .i64 (nth l k).1.2.2.2.1, .int .i64 (nth l k).1.2.2.2.2, .int .i64 (nth l k).2] 72)
      have hOA : OwnK 72 kCe.cells 6 (w.heap.size + 1 + 1 + 1) ((w1.alloc (.cells #[.slice ya ma da, .slice yb mb db, .slice yc mc dc_, .int .i64 (nth l k).1.2.2.2.1, .int .i64 (nth l k).1.2.2.2.2] 46)).drew.alloc (.cells #[.slice ya ma da, .slice yb mb db, .slice yc mc dc_, .int .i64 (nth l k).1.2.2.2.1, .int .i64 (nth l k).1.2.2.2.2, .int .i64 (nth l k).2] 72)) (.slice xu nu cu) Lu := ((ho.out.on hb1).on hbl).1.1
      have hS1 := one_ce (W := (w1.alloc (.cells #[.slice ya ma da, .slice yb mb db, .slice yc mc dc_, .int .i64 (nth l k).1.2.2.2.1, .int .i64 (nth l k).1.2.2.2.2] 46)).drew) (u := (nth l k).2) (g := w1.heap.size + 1) hd1 (by simp)
      have hlm : (Lu.length + 1) * 96 ≤ 140737488355328 := by have := hM.out; omega
      have hlx : Lu.length + 1 ≤ maxLen := by have := hM.out; unfold maxLen; omega
      have hB3 : (w.heap.size + 1 + 1 + 1) ≤ ((w1.alloc (.cells #[.slice ya ma da, .slice yb mb db, .slice yc mc dc_, .int .i64 (nth l k).1.2.2.2.1, .int .i64 (nth l k).1.2.2.2.2] 46)).drew.alloc (.cells #[.slice ya ma da, .slice yb mb db, .slice yc mc dc_, .int .i64 (nth l k).1.2.2.2.1, .int .i64 (nth l k).1.2.2.2.2, .int .i64 (nth l k).2] 72)).heap.size := Nat.le_trans (Nat.le_trans hsz.out hb1.size) hbl.size
      have HOA := Lib.hid hOA; have HS1 := Lib.hid hS1; have HLM := Lib.hid hlm; have HLX := Lib.hid hlx; have HB3 := Lib.hid hB3; have HI1 := Lib.hid hi1; have HB1 := Lib.hid hb1; have HBL := Lib.hid hbl; have HSS := Lib.hid hs1
      have HX0 := Lib.hid (((hx0.out.on hb1).on hbl)); have HX1 := Lib.hid (((hx1.out.on hb1).on hbl)); have HX2 := Lib.hid (((hx2.out.on hb1).on hbl))
      have HB4 := Lib.hid (hb.out.trans ((hb1.trans (hbl.mono hb1.size)).mono hb.out.size))
      clear hc0 hc1 hc2 hc3 hc4 hc5 hi1 hb1 hd1 hs1 hal hda hbb X0 X2 hx hbl hOA hS1 hlm hlx hB3 q1 q2
      go_wp2_with fail
      go_region_law (refine step_appK kindCe (B := (w.heap.size + 1 + 1 + 1)) (l := Lu) (m := [((m1, (nth l k).2) : Cem)]) rfl _ _ (by rfl) Try.underlying22 (by rfl) (by rfl) HOA.out HS1.out HLM.out HLX.out HB3.out ?_; intro v4 w4 ho4 hg4; obtain ⟨x4, n4, c4, rfl, -, -, ho4⟩ := ho4.shapeN; have hlt4 : ∀ g, (Value.slice xu nu cu).ownBlock = some g → (w.heap.size + 1 + 1 + 1) ≤ g := fun g hg => (HOA.out.lt g hg).1; have hX2 := HX2.out.grown hg4 (fun e => by have := hlt4 _ e.symm; omega); have z0 := hX2.cell 1; have z1 := hX2.frozen 1; have HX2' := Lib.hid hX2; have HX0' := Lib.hid (HX0.out.grown hg4 (fun e => by have := hlt4 _ e.symm; omega)); have HX1' := Lib.hid (HX1.out.grown hg4 (fun e => by have := hlt4 _ e.symm; omega)); have HO4 := Lib.hid (ce_grow ho.out HB1.out HI1.out HBL.out ho4 hg4 hsz.out); have HB5 := Lib.hid (HB4.out.grown hg4 HB4.out.size (fun g hg => Nat.le_trans (Nat.le_trans (Nat.le_trans (Nat.le_succ _) (Nat.le_succ _)) (Nat.le_succ _)) (hlt4 g hg))); have HSZ := Lib.hid (Nat.le_trans HB3.out hg4.size); clear ho4 hg4 hlt4 hX2)
      all_goals
        have HST := Lib.hid (show (Lu ++ [((m1, (nth l k).2) : Cem)]).map kCe.strip = l.take (k + 1) by
          rw [List.map_append, hst.out, take_nx (by have := HLEN.out; omega)]
          show _ ++ [(kDz.strip m1, (nth l k).2)] = _
          rw [HSS.out])
        clear y0_ y1_ y2_ y3_ y4_ y0d y1d y2d y3d y4d e0 e1 e2 e0d e1d e2d e1L e1M
        go_wp2_with fail
        go_roundw
        case rel => exact ⟨k + 1, by omega, by go_num, x4, n4, c4, Lu ++ [((m1, (nth l k).2) : Cem)], Lib.hid (by have := hM.out; simp; omega), HST, Lib.hid (own_setS HO4.out (by omega)), Lib.hid (HX2'.out.set 1 (.slice x4 n4 c4)), Lib.hid (HX1'.out.other (by show w.heap.size + 1 + 1 ≠ w.heap.size + 1; omega) _), Lib.hid (HX0'.out.other (by show w.heap.size + 1 + 1 ≠ w.heap.size; omega) _), Lib.hid (HB5.out.setCell (by show w.heap.size ≤ w.heap.size + 1 + 1; omega) _), Lib.hid (by rw [World.size_setCell]; exact HSZ.out)⟩
        case measure => simp [intOf]; omega
    · obtain rfl : k = n1_0 := by omega
      clear hlt
      have p0 : wr.cell? ⟨w.heap.size + 1 + 1, 0, none⟩ = some (.int .i64 cc) := hx2.out.cell 0
      have r0 := hx1.out.frozen 0; have r1 := hx1.out.frozen 1; have r2 := hx1.out.cell 0; have r3 := hx1.out.cell 1
      have Z := Lib.hid ((hx1.out.set 0 (.int .i64 cc)).set 1 (.slice xu nu cu))
      have ZO := Lib.hid (own_setS (i := 1) (u := .slice xu nu cu) (own_setS (i := 0) (u := .int .i64 cc) ho.out (g := w.heap.size + 1) (by omega)) (g := w.heap.size + 1) (by omega))
      have ZB := Lib.hid ((hb.out.setCell (p := ⟨w.heap.size + 1, 0, none⟩) (by show w.heap.size ≤ w.heap.size + 1; omega) (.int .i64 cc)).setCell (p := ⟨w.heap.size + 1, 1, none⟩) (by show w.heap.size ≤ w.heap.size + 1; omega) (.slice xu nu cu))
      have HRES := Lib.hid (show Lu.map kCe.strip = l by rw [hst.out, List.take_of_length_le (by rw [HLEN.out]; exact Nat.le_refl _)])
      go_wp2_with fail
      refine bodyPost_ret (Ret.results_c rfl _ _ (w.heap.size + 1) [.int .i64 cc, .slice xu nu cu] rfl aggCn Z.out.cells) rfl ?_
      exact ⟨_, rfl, cn_in ZO.out (by omega) HRES.out ZB.out.size, ZB.out⟩
set_option maxHeartbeats 8000000 in
theorem specEvictStale (V : Value) (x : Cnt) (now : Int) (w : World) (h : kCn.At w V x) (hp : FitC x) :
    Calls Try.prog 35 #[V, .int .i64 now] w fun e w' => ∃ U, e = .returned U ∧ kCn.In w.heap.size w'.heap.size w' U (evictC x now) ∧ Below w.heap.size w w' := by
  obtain ⟨x1_0, n1_0, c1_0, rfl, g1⟩ := kCn_at h
  clear h
  obtain ⟨cc, l⟩ := x
  obtain ⟨hl, hp⟩ := hp.fields
  dsimp only at g1 hl hp ⊢
  have b0 := (Below.refl w.heap.size w).alloc (Nat.le_refl _) (.cells #[.int .i64 cc, .slice x1_0 n1_0 c1_0] 24)
  have b1 := (Below.refl (w.alloc (.cells #[.int .i64 cc, .slice x1_0 n1_0 c1_0] 24)).heap.size (w.alloc (.cells #[.int .i64 cc, .slice x1_0 n1_0 c1_0] 24))).alloc (Nat.le_refl _) (.cells #[.int .i64 0, .slice none 0 0] 24)
  have b2 := (Below.refl ((w.alloc (.cells #[.int .i64 cc, .slice x1_0 n1_0 c1_0] 24)).alloc (.cells #[.int .i64 0, .slice none 0 0] 24)).heap.size ((w.alloc (.cells #[.int .i64 cc, .slice x1_0 n1_0 c1_0] 24)).alloc (.cells #[.int .i64 0, .slice none 0 0] 24))).alloc (Nat.le_refl _) (.cells #[.int .i64 cc, .slice none 0 0] 24)
  have b012 := (b0.trans (b1.mono b0.size)).trans (b2.mono (Nat.le_trans b0.size b1.size))
  have HX0 := Lib.hid (((Ret.Blk.new w #[.int .i64 cc, .slice x1_0 n1_0 c1_0] 24).on b1).on b2)
  have HX1 := Lib.hid ((Ret.Blk.new' (w := (w.alloc (.cells #[.int .i64 cc, .slice x1_0 n1_0 c1_0] 24))) (n := w.heap.size + 1) #[.int .i64 0, .slice none 0 0] 24 (by simp)).on b2)
  have HX2 := Lib.hid (Ret.Blk.new' (w := ((w.alloc (.cells #[.int .i64 cc, .slice x1_0 n1_0 c1_0] 24)).alloc (.cells #[.int .i64 0, .slice none 0 0] 24))) (n := w.heap.size + 1 + 1) #[.int .i64 cc, .slice none 0 0] 24 (by simp))
  have hnil : kLCe.Own (w.heap.size + 1 + 1 + 1) (((w.alloc (.cells #[.int .i64 cc, .slice x1_0 n1_0 c1_0] 24)).alloc (.cells #[.int .i64 0, .slice none 0 0] 24)).alloc (.cells #[.int .i64 cc, .slice none 0 0] 24)).heap.size (((w.alloc (.cells #[.int .i64 cc, .slice x1_0 n1_0 c1_0] 24)).alloc (.cells #[.int .i64 0, .slice none 0 0] 24)).alloc (.cells #[.int .i64 cc, .slice none 0 0] 24)) ⟨none, 0, 0, []⟩ := le_nil _ _
  obtain ⟨x, n, cx, L, e9, hn, ht, hh, hel⟩ := kLCe_at g1
  cases e9
  have hlen : l.length = n1_0 := by rw [← ht, List.length_map]; exact hn.symm
  rw [hlen] at hl
  have hcap : n1_0 ≤ c1_0 := by obtain ⟨x', n', cap', hv, hn', hc', -⟩ := hh.shapeN; cases hv; exact hc'
  have HN := Lib.hid hn; have HT := Lib.hid ht; have HH := Lib.hid hh; have HEL := Lib.hid hel; have HLEN := Lib.hid hlen; have HP := Lib.hid hp; have HNIL := Lib.hid hnil; have HB0 := Lib.hid b012
  clear hn ht hh hel hlen hp g1 hnil b0 b1 b2 b012
  go_enter Try.func35, Try.ntmps35
  go_wp2
  go_loopw [6] (fun iv wr => ∃ k : Nat, k ≤ n1_0 ∧ iv = .int .i64 k ∧ ∃ xu nu cu Lu, Hid (Lu.length ≤ k) ∧ Hid (Lu.map kCe.strip = (l.take k).filter (frE now)) ∧ Hid (kLCe.Own (w.heap.size + 1 + 1 + 1) wr.heap.size wr ⟨xu, nu, cu, Lu⟩) ∧ Hid (Ret.Blk wr (w.heap.size + 1 + 1) #[.int .i64 cc, .slice xu nu cu] 24) ∧ Hid (Ret.Blk wr (w.heap.size + 1) #[.int .i64 0, .slice none 0 0] 24) ∧ Hid (Ret.Blk wr w.heap.size #[.int .i64 cc, .slice x1_0 n1_0 c1_0] 24) ∧ Hid (Below w.heap.size w wr) ∧ Hid ((w.heap.size + 1 + 1 + 1) ≤ wr.heap.size)) (fun iv _ => n1_0 - (intOf iv).toNat)
  case atStart => exact ⟨0, Nat.zero_le _, rfl, none, 0, 0, [], Lib.hid (Nat.le_refl _), Lib.hid (by simp), HNIL, HX2, HX1, HX0, HB0, Lib.hid (by simp)⟩
  case round =>
    obtain ⟨k, hk, rfl, xu, nu, cu, Lu, hM, hst, ho, hx2, hx1, hx0, hb, hsz⟩ := hrel
    have q1 : wr.cell? ⟨w.heap.size, 1, none⟩ = some (.slice x1_0 n1_0 c1_0) := hx0.out.cell 1
    have q2 : wr.cell? ⟨w.heap.size + 1 + 1, 1, none⟩ = some (.slice xu nu cu) := hx2.out.cell 1
    by_cases hlt : k < n1_0
    · have hlen := HN.out
      obtain ⟨b, off, y0, m0, d0, y1, m1, d1, y2, m2, d2, rfl, -, hc0, hc1, hc2, hc3, hc4, hc5, hA⟩ := kLCe_elem (HH.out.on hb.out) (fun y hy => kCe.holds_on (HEL.out y hy) hb.out) (j := k) (by omega)
      have hpt : nth l k = kCe.strip (nth L k) := by rw [← HT.out, nth_map _ (by omega)]
      have hps := HP.out (nth l k) (nth_mem (by have := HLEN.out; omega))
      rw [← hpt] at hA hc3 hc4 hc5
      obtain ⟨hD, hNM⟩ := kCe_parts hA
      have HA := Lib.hid hA; have HD := Lib.hid hD; have HNM := Lib.hid hNM; have HPS := Lib.hid hps; have HPD := Lib.hid (show wtDz (nth l k).1 ≤ 1200000 from hps); have HPN := Lib.hid (show bulk (nth l k).1.1 ≤ 1200000 from (wtDz_lens _ hps).1)
      have H0 := Lib.hid hc0; have H1 := Lib.hid hc1; have H2 := Lib.hid hc2; have H3 := Lib.hid hc3; have H4 := Lib.hid hc4; have H5 := Lib.hid hc5
      clear hlen hpt hps hA hD hNM
      obtain ⟨q, hq⟩ : ∃ q, frE now (nth l k) = q := ⟨_, rfl⟩
      have HF := Lib.hid hq; clear hq
      go_wp2_with fail
      refine (sFrZ now q HF.out HD.out).mono ?_
      rintro e wf ⟨rfl, hbf⟩
      clear q1 q2 hc0 hc1 hc2 hc3 hc4 hc5
      replace hx2 := Lib.hid (hx2.out.on hbf); replace hx1 := Lib.hid (hx1.out.on hbf); replace hx0 := Lib.hid (hx0.out.on hbf); replace hsz := Lib.hid (Nat.le_trans hsz.out hbf.size); replace hb := Lib.hid (hb.out.trans (hbf.mono hb.out.size)); replace ho := Lib.hid (ho.out.upto hbf); replace HD := Lib.hid (HD.out.on hbf)
      replace H0 := Lib.hid (kc H0.out hbf); replace H1 := Lib.hid (kc H1.out hbf); replace H2 := Lib.hid (kc H2.out hbf); replace H3 := Lib.hid (kc H3.out hbf); replace H4 := Lib.hid (kc H4.out hbf); replace H5 := Lib.hid (kc H5.out hbf)
      clear hbf
      have q1 : wf.cell? ⟨w.heap.size, 1, none⟩ = some (.slice (some ⟨b, off, none⟩) n1_0 c1_0) := hx0.out.cell 1
      have q2 : wf.cell? ⟨w.heap.size + 1 + 1, 1, none⟩ = some (.slice xu nu cu) := hx2.out.cell 1
      have hc0 := H0.out; have hc1 := H1.out; have hc2 := H2.out; have hc3 := H3.out; have hc4 := H4.out; have hc5 := H5.out
      cases q with
      | false =>
        have HST := Lib.hid (show Lu.map kCe.strip = (l.take (k + 1)).filter (frE now) by rw [hst.out, filter_sk (by have := HLEN.out; omega) HF.out])
        clear hc0 hc1 hc2 hc3 hc4 hc5 q1 q2
        go_wp2_with fail
        go_roundw
        case rel => exact ⟨k + 1, by omega, by go_num, xu, nu, cu, Lu, Lib.hid (by have := hM.out; omega), HST, ho, hx2, hx1, hx0, hb, hsz⟩
        case measure => simp [intOf]; omega
      | true =>
        go_wp2_with fail
        refine (sCpyZ HD.out (Nat.le_trans HPD.out (by decide))).mono ?_
        rintro e w1 ⟨U, rfl, hi1, hb1⟩
        obtain ⟨m1, ya, ma, da, yb, mb, db, yc, mc, dc_, rfl, hs1, hd1, hi1⟩ := kDz_split hi1
        have hal := (Below.refl w1.heap.size w1).alloc (Nat.le_refl _) (.cells #[.slice ya ma da, .slice yb mb db, .slice yc mc dc_, .int .i64 (nth l k).1.2.2.2.1, .int .i64 (nth l k).1.2.2.2.2] 46)
        have hda := hal.drew
        have hbb := hb1.trans (hal.mono hb1.size)
        have X0 := (hx0.out.on hb1).on hal; have X2 := (hx2.out.on hb1).on hal
        have hx := (Ret.Blk.new w1 #[.slice ya ma da, .slice yb mb db, .slice yc mc dc_, .int .i64 (nth l k).1.2.2.2.1, .int .i64 (nth l k).1.2.2.2.2] 46)
        have e0 : (w1.alloc (.cells #[.slice ya ma da, .slice yb mb db, .slice yc mc dc_, .int .i64 (nth l k).1.2.2.2.1, .int .i64 (nth l k).1.2.2.2.2] 46)).cell? ⟨w.heap.size, 1, none⟩ = some (.slice (some ⟨b, off, none⟩) n1_0 c1_0) := X0.cell 1
        have e1 : (w1.alloc (.cells #[.slice ya ma da, .slice yb mb db, .slice yc mc dc_, .int .i64 (nth l k).1.2.2.2.1, .int .i64 (nth l k).1.2.2.2.2] 46)).cell? ⟨w.heap.size + 1 + 1, 1, none⟩ = some (.slice xu nu cu) := X2.cell 1
        have e2 : (w1.alloc (.cells #[.slice ya ma da, .slice yb mb db, .slice yc mc dc_, .int .i64 (nth l k).1.2.2.2.1, .int .i64 (nth l k).1.2.2.2.2] 46)).cell? ⟨b, off + k * 6 + 5, none⟩ = some (.int .i64 (nth l k).2) := kc H5.out hbb
        have y0_ : (w1.alloc (.cells #[.slice ya ma da, .slice yb mb db, .slice yc mc dc_, .int .i64 (nth l k).1.2.2.2.1, .int .i64 (nth l k).1.2.2.2.2] 46)).cell? ⟨w1.heap.size, 0, none⟩ = some (.slice ya ma da) := hx.cell 0
        have y1_ : (w1.alloc (.cells #[.slice ya ma da, .slice yb mb db, .slice yc mc dc_, .int .i64 (nth l k).1.2.2.2.1, .int .i64 (nth l k).1.2.2.2.2] 46)).cell? ⟨w1.heap.size, 1, none⟩ = some (.slice yb mb db) := hx.cell 1
        have y2_ : (w1.alloc (.cells #[.slice ya ma da, .slice yb mb db, .slice yc mc dc_, .int .i64 (nth l k).1.2.2.2.1, .int .i64 (nth l k).1.2.2.2.2] 46)).cell? ⟨w1.heap.size, 2, none⟩ = some (.slice yc mc dc_) := hx.cell 2
        have y3_ : (w1.alloc (.cells #[.slice ya ma da, .slice yb mb db, .slice yc mc dc_, .int .i64 (nth l k).1.2.2.2.1, .int .i64 (nth l k).1.2.2.2.2] 46)).cell? ⟨w1.heap.size, 3, none⟩ = some (.int .i64 (nth l k).1.2.2.2.1) := hx.cell 3
        have y4_ : (w1.alloc (.cells #[.slice ya ma da, .slice yb mb db, .slice yc mc dc_, .int .i64 (nth l k).1.2.2.2.1, .int .i64 (nth l k).1.2.2.2.2] 46)).cell? ⟨w1.heap.size, 4, none⟩ = some (.int .i64 (nth l k).1.2.2.2.2) := hx.cell 4
        have e1L : ((w1.alloc (.cells #[.slice ya ma da, .slice yb mb db, .slice yc mc dc_, .int .i64 (nth l k).1.2.2.2.1, .int .i64 (nth l k).1.2.2.2.2] 46)).alloc (.cells #[.slice ya ma da, .slice yb mb db, .slice yc mc dc_, .int .i64 (nth l k).1.2.2.2.1, .int .i64 (nth l k).1.2.2.2.2, .int .i64 (nth l k).2] 72)).cell? ⟨w.heap.size + 1 + 1, 1, none⟩ = some (.slice xu nu cu) := (X2.on ((Below.refl _ _).alloc (Nat.le_refl _) (.cells #[.slice ya ma da, .slice yb mb db, .slice yc mc dc_, .int .i64 (nth l k).1.2.2.2.1, .int .i64 (nth l k).1.2.2.2.2, .int .i64 (nth l k).2] 72))).cell 1
        have e1M : ((w1.alloc (.cells #[.slice ya ma da, .slice yb mb db, .slice yc mc dc_, .int .i64 (nth l k).1.2.2.2.1, .int .i64 (nth l k).1.2.2.2.2] 46)).alloc (.cells #[.slice ya ma da, .slice yb mb db, .slice yc mc dc_, .int .i64 (nth l k).1.2.2.2.1, .int .i64 (nth l k).1.2.2.2.2, .int .i64 (nth l k).2] 72)).drew.cell? ⟨w.heap.size + 1 + 1, 1, none⟩ = some (.slice xu nu cu) := e1L
        have e0d : (w1.alloc (.cells #[.slice ya ma da, .slice yb mb db, .slice yc mc dc_, .int .i64 (nth l k).1.2.2.2.1, .int .i64 (nth l k).1.2.2.2.2] 46)).drew.cell? ⟨w.heap.size, 1, none⟩ = some (.slice (some ⟨b, off, none⟩) n1_0 c1_0) := e0
        have e1d : (w1.alloc (.cells #[.slice ya ma da, .slice yb mb db, .slice yc mc dc_, .int .i64 (nth l k).1.2.2.2.1, .int .i64 (nth l k).1.2.2.2.2] 46)).drew.cell? ⟨w.heap.size + 1 + 1, 1, none⟩ = some (.slice xu nu cu) := e1
        have e2d : (w1.alloc (.cells #[.slice ya ma da, .slice yb mb db, .slice yc mc dc_, .int .i64 (nth l k).1.2.2.2.1, .int .i64 (nth l k).1.2.2.2.2] 46)).drew.cell? ⟨b, off + k * 6 + 5, none⟩ = some (.int .i64 (nth l k).2) := e2
        have y0d : (w1.alloc (.cells #[.slice ya ma da, .slice yb mb db, .slice yc mc dc_, .int .i64 (nth l k).1.2.2.2.1, .int .i64 (nth l k).1.2.2.2.2] 46)).drew.cell? ⟨w1.heap.size, 0, none⟩ = some (.slice ya ma da) := y0_
        have y1d : (w1.alloc (.cells #[.slice ya ma da, .slice yb mb db, .slice yc mc dc_, .int .i64 (nth l k).1.2.2.2.1, .int .i64 (nth l k).1.2.2.2.2] 46)).drew.cell? ⟨w1.heap.size, 1, none⟩ = some (.slice yb mb db) := y1_
        have y2d : (w1.alloc (.cells #[.slice ya ma da, .slice yb mb db, .slice yc mc dc_, .int .i64 (nth l k).1.2.2.2.1, .int .i64 (nth l k).1.2.2.2.2] 46)).drew.cell? ⟨w1.heap.size, 2, none⟩ = some (.slice yc mc dc_) := y2_
        have y3d : (w1.alloc (.cells #[.slice ya ma da, .slice yb mb db, .slice yc mc dc_, .int .i64 (nth l k).1.2.2.2.1, .int .i64 (nth l k).1.2.2.2.2] 46)).drew.cell? ⟨w1.heap.size, 3, none⟩ = some (.int .i64 (nth l k).1.2.2.2.1) := y3_
        have y4d : (w1.alloc (.cells #[.slice ya ma da, .slice yb mb db, .slice yc mc dc_, .int .i64 (nth l k).1.2.2.2.1, .int .i64 (nth l k).1.2.2.2.2] 46)).drew.cell? ⟨w1.heap.size, 4, none⟩ = some (.int .i64 (nth l k).1.2.2.2.2) := y4_
        have hbl := hda.alloc hda.size (.cells #[.slice ya ma da, .slice yb mb db, .slice yc mc dc_, .int .i64 (nth l k).1.2.2.2.1, .int .i64 (nth l k).1.2.2.2.2, .int .i64 (nth l k).2] 72)
        have hOA : OwnK 72 kCe.cells 6 (w.heap.size + 1 + 1 + 1) ((w1.alloc (.cells #[.slice ya ma da, .slice yb mb db, .slice yc mc dc_, .int .i64 (nth l k).1.2.2.2.1, .int .i64 (nth l k).1.2.2.2.2] 46)).drew.alloc (.cells #[.slice ya ma da, .slice yb mb db, .slice yc mc dc_, .int .i64 (nth l k).1.2.2.2.1, .int .i64 (nth l k).1.2.2.2.2, .int .i64 (nth l k).2] 72)) (.slice xu nu cu) Lu := ((ho.out.on hb1).on hbl).1.1
        have hS1 := one_ce (W := (w1.alloc (.cells #[.slice ya ma da, .slice yb mb db, .slice yc mc dc_, .int .i64 (nth l k).1.2.2.2.1, .int .i64 (nth l k).1.2.2.2.2] 46)).drew) (u := (nth l k).2) (g := w1.heap.size + 1) hd1 (by simp)
        have hlm : (Lu.length + 1) * 96 ≤ 140737488355328 := by have := hM.out; omega
        have hlx : Lu.length + 1 ≤ maxLen := by have := hM.out; unfold maxLen; omega
        have hB3 : (w.heap.size + 1 + 1 + 1) ≤ ((w1.alloc (.cells #[.slice ya ma da, .slice yb mb db, .slice yc mc dc_, .int .i64 (nth l k).1.2.2.2.1, .int .i64 (nth l k).1.2.2.2.2] 46)).drew.alloc (.cells #[.slice ya ma da, .slice yb mb db, .slice yc mc dc_, .int .i64 (nth l k).1.2.2.2.1, .int .i64 (nth l k).1.2.2.2.2, .int .i64 (nth l k).2] 72)).heap.size := Nat.le_trans (Nat.le_trans hsz.out hb1.size) hbl.size
        have HOA := Lib.hid hOA; have HS1 := Lib.hid hS1; have HLM := Lib.hid hlm; have HLX := Lib.hid hlx; have HB3 := Lib.hid hB3; have HI1 := Lib.hid hi1; have HB1 := Lib.hid hb1; have HBL := Lib.hid hbl; have HSS := Lib.hid hs1
        have HX0 := Lib.hid (((hx0.out.on hb1).on hbl)); have HX1 := Lib.hid (((hx1.out.on hb1).on hbl)); have HX2 := Lib.hid (((hx2.out.on hb1).on hbl))
        have HB4 := Lib.hid (hb.out.trans ((hb1.trans (hbl.mono hb1.size)).mono hb.out.size))
        clear hc0 hc1 hc2 hc3 hc4 hc5 hi1 hb1 hd1 hs1 hal hda hbb X0 X2 hx hbl hOA hS1 hlm hlx hB3 q1 q2
        go_wp2_with fail
        go_region_law (refine step_appK kindCe (B := (w.heap.size + 1 + 1 + 1)) (l := Lu) (m := [((m1, (nth l k).2) : Cem)]) rfl _ _ (by rfl) Try.underlying22 (by rfl) (by rfl) HOA.out HS1.out HLM.out HLX.out HB3.out ?_; intro v4 w4 ho4 hg4; obtain ⟨x4, n4, c4, rfl, -, -, ho4⟩ := ho4.shapeN; have hlt4 : ∀ g, (Value.slice xu nu cu).ownBlock = some g → (w.heap.size + 1 + 1 + 1) ≤ g := fun g hg => (HOA.out.lt g hg).1; have hX2 := HX2.out.grown hg4 (fun e => by have := hlt4 _ e.symm; omega); have z0 := hX2.cell 1; have z1 := hX2.frozen 1; have HX2' := Lib.hid hX2; have HX0' := Lib.hid (HX0.out.grown hg4 (fun e => by have := hlt4 _ e.symm; omega)); have HX1' := Lib.hid (HX1.out.grown hg4 (fun e => by have := hlt4 _ e.symm; omega)); have HO4 := Lib.hid (ce_grow ho.out HB1.out HI1.out HBL.out ho4 hg4 hsz.out); have HB5 := Lib.hid (HB4.out.grown hg4 HB4.out.size (fun g hg => Nat.le_trans (Nat.le_trans (Nat.le_trans (Nat.le_succ _) (Nat.le_succ _)) (Nat.le_succ _)) (hlt4 g hg))); have HSZ := Lib.hid (Nat.le_trans HB3.out hg4.size); clear ho4 hg4 hlt4 hX2)
        all_goals
          have HST := Lib.hid (show (Lu ++ [((m1, (nth l k).2) : Cem)]).map kCe.strip = (l.take (k + 1)).filter (frE now) by
            rw [List.map_append, hst.out, filter_nx (by have := HLEN.out; omega) HF.out]
            show _ ++ [(kDz.strip m1, (nth l k).2)] = _
            rw [HSS.out])
          clear y0_ y1_ y2_ y3_ y4_ y0d y1d y2d y3d y4d e0 e1 e2 e0d e1d e2d e1L e1M
          go_wp2_with fail
          go_roundw
          case rel => exact ⟨k + 1, by omega, by go_num, x4, n4, c4, Lu ++ [((m1, (nth l k).2) : Cem)], Lib.hid (by have := hM.out; simp; omega), HST, Lib.hid (own_setS HO4.out (by omega)), Lib.hid (HX2'.out.set 1 (.slice x4 n4 c4)), Lib.hid (HX1'.out.other (by show w.heap.size + 1 + 1 ≠ w.heap.size + 1; omega) _), Lib.hid (HX0'.out.other (by show w.heap.size + 1 + 1 ≠ w.heap.size; omega) _), Lib.hid (HB5.out.setCell (by show w.heap.size ≤ w.heap.size + 1 + 1; omega) _), Lib.hid (by rw [World.size_setCell]; exact HSZ.out)⟩
          case measure => simp [intOf]; omega
    · obtain rfl : k = n1_0 := by omega
      clear hlt
      have p0 : wr.cell? ⟨w.heap.size + 1 + 1, 0, none⟩ = some (.int .i64 cc) := hx2.out.cell 0
      have r0 := hx1.out.frozen 0; have r1 := hx1.out.frozen 1; have r2 := hx1.out.cell 0; have r3 := hx1.out.cell 1
      have Z := Lib.hid ((hx1.out.set 0 (.int .i64 cc)).set 1 (.slice xu nu cu))
      have ZO := Lib.hid (own_setS (i := 1) (u := .slice xu nu cu) (own_setS (i := 0) (u := .int .i64 cc) ho.out (g := w.heap.size + 1) (by omega)) (g := w.heap.size + 1) (by omega))
      have ZB := Lib.hid ((hb.out.setCell (p := ⟨w.heap.size + 1, 0, none⟩) (by show w.heap.size ≤ w.heap.size + 1; omega) (.int .i64 cc)).setCell (p := ⟨w.heap.size + 1, 1, none⟩) (by show w.heap.size ≤ w.heap.size + 1; omega) (.slice xu nu cu))
      have HRES := Lib.hid (show Lu.map kCe.strip = l.filter (frE now) by rw [hst.out, List.take_of_length_le (by rw [HLEN.out]; exact Nat.le_refl _)])
      go_wp2_with fail
      refine bodyPost_ret (Ret.results_c rfl _ _ (w.heap.size + 1) [.int .i64 cc, .slice xu nu cu] rfl aggCn Z.out.cells) rfl ?_
      exact ⟨_, rfl, cn_in ZO.out (by omega) HRES.out ZB.out.size, ZB.out⟩
end Go.Proofs.Ythfljbbigpophaa.Row
