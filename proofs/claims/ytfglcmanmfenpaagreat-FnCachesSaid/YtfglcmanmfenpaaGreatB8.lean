/- Contracts and mathematics, joined: NameSK, CacheMath, CacheTop, CacheK. No conditions but those that each states. -/
import Derived.Test.YtfglcmanmfenpaaGreatB7
import Derived.WalkKit
import Derived.Deep.RegionHeld3
import Derived.Deep.RegionLaw
import Derived.Test.YtfglcmanmfenpaaGreatB3
/- Lists of names in the words of kinds: sz, to, eq. No conditions but that lengths fit. -/
namespace Go.Proofs.YtfglcmanmfenpaaGreat.Row
open Go.ChangeShapes Go.WideShapes Go.ChangeAt Go.RowKit Go.Instr
set_option linter.unusedVariables false
set_option maxRecDepth 100000
def kLNn : Kd (List Nnt) (Rw Nnm) := kNn.slice 29
theorem szNn_cells : Sz kNn.cells 1 := fun m => kNn.len m
theorem kindNn : Kind Tryz.prog 29 kNn.cells (.agg #[.slice none 0 0]) 1 24 where
  elem := by unfold ElemK; kernel_rfl
  zs := rfl
  pos := by decide
  size := szNn_cells
  one := fun m u hu => kNn.one m u hu
def okLNn (l : List Nnt) : Prop := l.length ≤ 9223372036854775807 ∧ ∀ x ∈ l, okNn x
section
variable {w : World} {V : Value} {l : List Nnt} {B E : Nat}
theorem kLNn_at (h : kLNn.At w V l) : ∃ ad n cap L, V = .slice ad n cap ∧ n = L.length ∧ L.map kNn.strip = l ∧ HoldsK kNn.cells 1 w (.slice ad n cap) L ∧ ∀ x ∈ L, kNn.holds w x := by
  obtain ⟨⟨ad, n, cap, L⟩, hV, hl, hh, hel⟩ := h
  exact ⟨ad, n, cap, L, hV, HoldsK.lenEq (show HoldsK kNn.cells 1 w (.slice ad n cap) L from hh), hl, hh, hel⟩
theorem kLNn_shape (h : kLNn.In B E w V l) : ∃ x n c, V = .slice x n c ∧ kLNn.In B E w (.slice x n c) l := by
  obtain ⟨ad, n, cap, L, rfl, -⟩ := kLNn_at h.at
  exact ⟨ad, n, cap, rfl, h⟩
theorem kLNn_elem {x : Option Addr} {n cap : Nat} {L : List Nnm} (h : HoldsK kNn.cells 1 w (.slice x n cap) L) (hel : ∀ y ∈ L, kNn.holds w y) {j : Nat} (hj : j < L.length) :
    ∃ (b off : Nat) (x0 : Option Addr) (n0 c0 : Nat), x = some ⟨b, off, none⟩ ∧ kNn.cells (nth L j) = [.slice x0 n0 c0] ∧ w.cell? ⟨b, off + j, none⟩ = some (.slice x0 n0 c0) ∧ kNn.At w (.agg #[.slice x0 n0 c0]) (kNn.strip (nth L j)) := by
  obtain ⟨b, off, hx, hc⟩ := h.at szNn_cells hj
  obtain ⟨x0, n0, c0, e, ha⟩ := kNn_shapeA (Kd.at_of (k := kNn) (hel _ (nth_mem hj)))
  have d : kNn.cells (nth L j) = [.slice x0 n0 c0] := by injection e with e; exact congrArg Array.toList e
  rw [d] at hc
  exact ⟨b, off, x0, n0, c0, hx, d, by have := hc 0 (by decide); simpa [Nat.add_assoc] using this, ha⟩
end
def inLNn (l : List Nnt) : Prop := l.length ≤ 9223372036854775807 ∧ ∀ x ∈ l, inNn x
theorem inLNn.ok {l : List Nnt} (h : inLNn l) : okLNn l := ⟨h.1, fun x hx => (h.2 x hx).ok⟩
def adLNn (l : List Nnt) : Nat := bulkK adNn l
end Go.Proofs.YtfglcmanmfenpaaGreat.Row
/- The content store: what chapter 12's functions answer, as functions of lists; lists that lie as rows of the call's own: a part of a row, an element more, an append within the room, a clearing behind the end. No conditions but that lengths fit. -/
namespace Go.Proofs.YtfglcmanmfenpaaGreat.Row
open Go.ChangeShapes Go.WideShapes Go.ChangeAt Go.RowKit Go.Instr
set_option linter.unusedVariables false
set_option linter.unusedSectionVars false
set_option maxRecDepth 100000
def isE (n : List ByteArray) (x : Cet) : Bool := decide (x.1.1 = n)
def frE (now : Int) (x : Cet) : Bool := decide (now ≤ x.1.2.2.2.1)
def newC (k : Int) : Cnt := (if Num.inB k 0 8 = true then k else 0, [])
def validE (l : List Cet) : Nat → Bool
  | 0 => true
  | k + 1 => validE l k && (validD (nth l k).1 && !(l.take k).any (isE (nth l k).1.1))
def validC (x : Cnt) : Bool := validE x.2 x.2.length && (Num.inB x.1 0 8 && decide ((x.2.length : Int) ≤ x.1))
def rmE (l : List Cet) (n : List ByteArray) : List Cet := l.filter fun x => !isE n x
def leastE (l : List Cet) : Nat → Nat
  | 0 => 0
  | k + 1 => if (nth l k).2 < (nth l (leastE l k)).2 then k else leastE l k
def roomE (cap : Int) (l : List Cet) : List Cet := if cap ≤ (l.length : Int) then l.eraseIdx (leastE l l.length) else l
def cacheC (x : Cnt) (d : Dzt) (now : Int) : Cnt := if x.1 < 1 then x else if validD d = true then (x.1, roomE x.1 (rmE x.2 d.1) ++ [(d, now)]) else x
def hitE (n : List ByteArray) (now : Int) (x : Cet) : Bool := isE n x && frE now x
def zeroD : Dzt := ([], [], [], 0, 0)
def lookC (x : Cnt) (n : List ByteArray) (now : Int) : Dzt := if 0 ≤ ixL (hitE n now) x.2 then (nth x.2 (ixL (hitE n now) x.2).toNat).1 else zeroD
def lookOk (x : Cnt) (n : List ByteArray) (now : Int) : Bool := decide (0 ≤ ixL (hitE n now) x.2)
def touchE (l : List Cet) (i : Int) (now : Int) : List Cet := if 0 ≤ i then l.set i.toNat ((nth l i.toNat).1, now) else l
def touchC (x : Cnt) (n : List ByteArray) (now : Int) : Cnt := (x.1, touchE x.2 (ixL (isE n) x.2) now)
def evictC (x : Cnt) (now : Int) : Cnt := (x.1, x.2.filter (frE now))
def namesC (x : Cnt) : List Nnt := x.2.map fun e => e.1.1
def eqC (x y : Cnt) : Bool := decide (x = y)
theorem validE_le {l : List Cet} {k n : Nat} (h : validE l k = false) (hk : k ≤ n) : validE l n = false := by
  induction n with
  | zero => obtain rfl : k = 0 := by omega
            exact h
  | succ n ih =>
    rcases Nat.lt_or_ge n k with h1 | h1
    · obtain rfl : k = n + 1 := by omega
      exact h
    · unfold validE; rw [ih h1]; rfl
theorem ixL_take {n : List ByteArray} {l : List Cet} {k : Nat} (hk : k < l.length) (hn : (nth l k).1.1 = n) : decide (ixL (isE n) l < (k : Int)) = (l.take k).any (isE n) := by
  have hself : isE n (nth l k) = true := by unfold isE; simp [hn]
  rcases ixL_cases (isE n) l with ⟨e, h⟩ | ⟨j, hj, e, hc, hno⟩
  · exact absurd (h k hk) (by rw [hself]; simp)
  · rw [e]
    by_cases hjk : j < k
    · have h1 : (l.take k).any (isE n) = true := List.any_eq_true.2 ⟨nth l j, by
        rw [nth_eq hj]
        exact List.mem_take_iff_getElem.2 ⟨j, by omega, rfl⟩, hc⟩
      rw [h1]; simp; omega
    · have h1 : (l.take k).any (isE n) = false := by
        rw [List.any_eq_false]
        intro x hx
        obtain ⟨i, hi, rfl⟩ := List.mem_take_iff_getElem.1 hx
        have h2 : i < l.length := by omega
        have := hno i (by omega)
        rw [nth_eq h2] at this
        simp [this]
      rw [h1]; simp; omega
theorem any_find {n : List ByteArray} {l : List Cet} : l.any (isE n) = decide (0 ≤ ixL (isE n) l) := any_ixL _ _
theorem leastE_lt (l : List Cet) : ∀ k, 0 < k → leastE l k < k
  | 0, h => absurd h (by omega)
  | k + 1, _ => by
    unfold leastE
    split
    · omega
    · by_cases h0 : 0 < k
      · have := leastE_lt l k h0; omega
      · obtain rfl : k = 0 := by omega
        unfold leastE; omega
theorem leastE_one (l : List Cet) : leastE l 1 = 0 := by
  unfold leastE leastE; simp
theorem rmE_erase {l : List Cet} {n : List ByteArray} {k : Nat} (hk : k < l.length) (h : isE n (nth l k) = true) : rmE (l.eraseIdx k) n = rmE l n := by
  unfold rmE
  rw [List.eraseIdx_eq_take_drop_succ]
  conv => rhs; rw [← List.take_append_drop k l, ← List.getElem_cons_drop hk]
  rw [List.filter_append, List.filter_append, List.filter_cons, ← nth_eq hk, h]
  simp
theorem rmE_none {l : List Cet} {n : List ByteArray} (h : noL (isE n) l l.length) : rmE l n = l := by
  unfold rmE
  rw [List.filter_eq_self]
  intro x hx
  obtain ⟨j, hj, rfl⟩ := List.getElem_of_mem hx
  have := h j hj
  rw [nth_eq hj] at this
  simp [this]
end Go.Proofs.YtfglcmanmfenpaaGreat.Row
/- The content store: what FnCaches says of chapter 12's answers. Mathematics alone. No conditions. -/
namespace Go.Proofs.YtfglcmanmfenpaaGreat.Row
open Go.ChangeShapes Go.WideShapes Go.ChangeAt Go.RowKit Go.Instr
set_option linter.unusedVariables false
set_option maxRecDepth 100000
def okE (l : List Cet) : Prop := (∀ e ∈ l, validD e.1 = true) ∧ (l.map fun e => e.1.1).Nodup
theorem okE_sub {l m : List Cet} (h : okE m) (s : l.Sublist m) : okE l := ⟨fun e he => h.1 e (s.subset he), h.2.sublist (s.map _)⟩
theorem any_isE {n : List ByteArray} {l : List Cet} : l.any (isE n) = false ↔ n ∉ l.map fun e => e.1.1 := by
  rw [List.any_eq_false]
  constructor
  · intro h hn
    obtain ⟨e, he, rfl⟩ := List.mem_map.1 hn
    exact h e he (by unfold isE; simp)
  · intro h e he hc
    exact h (List.mem_map.2 ⟨e, he, by unfold isE at hc; simpa using hc⟩)
theorem okE_snoc {l : List Cet} {e : Cet} : okE (l ++ [e]) ↔ okE l ∧ validD e.1 = true ∧ l.any (isE e.1.1) = false := by
  rw [any_isE]
  unfold okE
  rw [List.map_append, List.nodup_append]
  constructor
  · rintro ⟨h1, h2, h3, h4⟩
    exact ⟨⟨fun x hx => h1 x (List.mem_append_left _ hx), h2⟩, h1 e (by simp), fun hm => h4 _ hm _ (by simp) rfl⟩
  · rintro ⟨⟨h1, h2⟩, h3, h4⟩
    refine ⟨fun x hx => ?_, h2, by simp, fun a ha b hb e2 => ?_⟩
    · rcases List.mem_append.1 hx with hx | hx
      · exact h1 x hx
      · obtain rfl := List.mem_singleton.1 hx
        exact h3
    · simp only [List.map_cons, List.map_nil, List.mem_singleton] at hb
      exact h4 (by rw [← hb, ← e2]; exact ha)
theorem validE_ok (l : List Cet) : ∀ k, k ≤ l.length → (validE l k = true ↔ okE (l.take k))
  | 0, _ => ⟨fun _ => ⟨fun e he => absurd he (by simp), by simp⟩, fun _ => rfl⟩
  | k + 1, h => by
    rw [take_nx (by omega), okE_snoc, ← validE_ok l k (by omega)]
    rw [show validE l (k + 1) = (validE l k && (validD (nth l k).1 && !(l.take k).any (isE (nth l k).1.1))) from rfl]
    cases validE l k <;> cases validD (nth l k).1 <;> cases (l.take k).any (isE (nth l k).1.1) <;> simp
theorem validC_ok {x : Cnt} : validC x = true ↔ okE x.2 ∧ 0 ≤ x.1 ∧ x.1 ≤ 8 ∧ (x.2.length : Int) ≤ x.1 := by
  have h := validE_ok x.2 x.2.length (Nat.le_refl _)
  rw [List.take_length] at h
  unfold validC
  rw [Bool.and_eq_true, Bool.and_eq_true, h]
  unfold Num.inB
  simp [and_assoc]
theorem rmE_sub (l : List Cet) (n : List ByteArray) : (rmE l n).Sublist l := List.filter_sublist
theorem rmE_any (l : List Cet) (n : List ByteArray) : (rmE l n).any (isE n) = false := by
  rw [List.any_eq_false]
  intro e he hc
  have := (List.mem_filter.1 he).2
  rw [hc] at this
  exact absurd this (by simp)
theorem roomE_sub' (c : Int) (l : List Cet) : (roomE c l).Sublist l := by
  unfold roomE
  split
  · exact List.eraseIdx_sublist l _
  · exact List.Sublist.refl _
theorem roomE_len {c : Int} {l : List Cet} (h1 : 1 ≤ c) (h : (l.length : Int) ≤ c) : ((roomE c l).length : Int) + 1 ≤ c := by
  unfold roomE
  split
  · rename_i h2
    have h3 := leastE_lt l l.length (by omega)
    rw [List.length_eraseIdx, if_pos h3]
    omega
  · omega
theorem any_sub {p : Cet → Bool} {l m : List Cet} (s : l.Sublist m) (h : m.any p = false) : l.any p = false := by
  rw [List.any_eq_false] at h ⊢
  exact fun e he => h e (s.subset he)
theorem cacheC_valid {c : Cnt} {x : Dzt} {now : Int} (h : validC c = true) (h0 : c.1 ≠ 0) (hx : validD x = true) : validC (cacheC c x now) = true ∧ (((cacheC c x now).2.length : Int) ≤ c.1) ∧ (cacheC c x now).1 = c.1 := by
  obtain ⟨h1, h2, h3, h4⟩ := validC_ok.1 h
  have hc : ¬ c.1 < 1 := by omega
  have hle := (rmE_sub c.2 x.1).length_le
  have hr := roomE_len (c := c.1) (l := rmE c.2 x.1) (by omega) (by omega)
  have e : cacheC c x now = (c.1, roomE c.1 (rmE c.2 x.1) ++ [(x, now)]) := by unfold cacheC; rw [if_neg hc, if_pos hx]
  rw [e]
  have hlen : ((roomE c.1 (rmE c.2 x.1) ++ [(x, now)]).length : Int) ≤ c.1 := by rw [List.length_append]; simp only [List.length_singleton]; omega
  exact ⟨validC_ok.2 ⟨okE_snoc.2 ⟨okE_sub h1 ((roomE_sub' _ _).trans (rmE_sub _ _)), hx, any_sub (roomE_sub' _ _) (rmE_any _ _)⟩, h2, h3, hlen⟩, hlen, rfl⟩
theorem cacheC_same {c : Cnt} {x : Dzt} {now : Int} (h : validC c = true) (h0 : c.1 = 0 ∨ validD x = false) : cacheC c x now = c := by
  unfold cacheC
  rcases h0 with h0 | h0
  · rw [if_pos (by omega)]
  · rw [h0]; simp
theorem cacheC_look {c : Cnt} {x : Dzt} {now : Int} (h : validC c = true) (h0 : c.1 ≠ 0) (hx : validD x = true) : lookOk (cacheC c x now) x.1 x.2.2.2.1 = true ∧ lookC (cacheC c x now) x.1 x.2.2.2.1 = x := by
  obtain ⟨h1, h2, h3, h4⟩ := validC_ok.1 h
  have hc : ¬ c.1 < 1 := by omega
  have e : cacheC c x now = (c.1, roomE c.1 (rmE c.2 x.1) ++ [(x, now)]) := by unfold cacheC; rw [if_neg hc, if_pos hx]
  rw [e]
  obtain ⟨R, hR⟩ : ∃ R, roomE c.1 (rmE c.2 x.1) = R := ⟨_, rfl⟩
  have hno : R.any (isE x.1) = false := by rw [← hR]; exact any_sub (roomE_sub' _ _) (rmE_any _ _)
  rw [hR]
  have hat : nth (R ++ [(x, now)]) R.length = ((x, now) : Cet) := by
    rw [nth_eq (show R.length < (R ++ [((x, now) : Cet)]).length by simp)]
    simp
  have hit : hitE x.1 x.2.2.2.1 ((x, now) : Cet) = true := by unfold hitE isE frE; simp
  have hix : ixL (hitE x.1 x.2.2.2.1) (R ++ [((x, now) : Cet)]) = (R.length : Int) := by
    rcases ixL_cases (hitE x.1 x.2.2.2.1) (R ++ [((x, now) : Cet)]) with ⟨e1, hn⟩ | ⟨j, hj, e1, hcj, hn⟩
    · have := hn R.length (by simp)
      rw [hat, hit] at this
      exact absurd this (by simp)
    · rcases Nat.lt_trichotomy j R.length with hl | hl | hl
      · exfalso
        have e2 : nth (R ++ [((x, now) : Cet)]) j = R[j] := by rw [nth_eq hj, List.getElem_append_left hl]
        rw [e2] at hcj
        have h5 := (List.any_eq_false.1 hno) R[j] (List.getElem_mem hl)
        unfold hitE at hcj
        rw [Bool.and_eq_true] at hcj
        exact h5 hcj.1
      · rw [e1, hl]
      · exfalso
        rw [List.length_append] at hj
        simp only [List.length_singleton] at hj
        omega
  unfold lookOk lookC
  dsimp only
  rw [hix]
  refine ⟨by simp, ?_⟩
  rw [if_pos (by omega), show ((R.length : Int)).toNat = R.length from by omega, hat]
theorem evictC_valid {c : Cnt} {now : Int} (h : validC c = true) : validC (evictC c now) = true := by
  obtain ⟨h1, h2, h3, h4⟩ := validC_ok.1 h
  have s : (c.2.filter (frE now)).Sublist c.2 := List.filter_sublist
  have := s.length_le
  exact validC_ok.2 ⟨okE_sub h1 s, h2, h3, by show ((c.2.filter (frE now)).length : Int) ≤ c.1; omega⟩
theorem lookC_fresh {c : Cnt} {n : List ByteArray} {now : Int} (h : lookOk c n now = true) : decide (now ≤ (lookC c n now).2.2.2.1) = true := by
  unfold lookOk at h
  unfold lookC
  have h0 := of_decide_eq_true h
  rw [if_pos h0]
  rcases ixL_cases (hitE n now) c.2 with ⟨e1, hn⟩ | ⟨j, hj, e1, hcj, hn⟩
  · omega
  · rw [e1, show ((j : Int)).toNat = j from by omega]
    unfold hitE at hcj
    rw [Bool.and_eq_true] at hcj
    exact hcj.2
end Go.Proofs.YtfglcmanmfenpaaGreat.Row
/- An entry of the content store and its parts; contracts of l1In in letters. No conditions. -/
namespace Go.Proofs.YtfglcmanmfenpaaGreat.Row
open Go.ChangeShapes Go.WideShapes Go.ChangeAt Go.RowKit Go.Instr
set_option linter.unusedVariables false
set_option maxRecDepth 100000
theorem kCe_parts {w : World} {x0 x1 x2 : Option Addr} {n0 c0 n1 c1 n2 c2 : Nat} {f s u : Int} {x : Cet} (h : kCe.At w (.agg #[.slice x0 n0 c0, .slice x1 n1 c1, .slice x2 n2 c2, .int .i64 f, .int .i64 s, .int .i64 u]) x) :
    kDz.At w (.agg #[.slice x0 n0 c0, .slice x1 n1 c1, .slice x2 n2 c2, .int .i64 f, .int .i64 s]) x.1 ∧ kN.At w (.agg #[.slice x0 n0 c0]) x.1.1 := by
  obtain ⟨a0, a1, a2, b0, b1, b2, d0, d1, d2, e, h0⟩ := kCe_at h
  simp only [Value.agg.injEq, Array.mk.injEq, List.cons.injEq, Value.slice.injEq, Value.int.injEq, and_true, true_and] at e
  obtain ⟨⟨rfl, rfl, rfl⟩, ⟨rfl, rfl, rfl⟩, ⟨rfl, rfl, rfl⟩, rfl, rfl, rfl⟩ := e
  obtain ⟨a0', a1', a2', b0', b1', b2', d0', d1', d2', e, g0, -, -⟩ := kDz_at h0
  simp only [Value.agg.injEq, Array.mk.injEq, List.cons.injEq, Value.slice.injEq, and_true] at e
  obtain ⟨⟨rfl, rfl, rfl⟩, -⟩ := e
  exact ⟨h0, g0⟩
theorem noRow_kDz (e : TypeId) (h1 : 9 ≠ e) (h2 : 5 ≠ e) : kDz.NoRow e :=
  (Kd.NoRow.slice (e' := 9) Kd.noRow_scalar h1).wrap.pair ((Kd.NoRow.slice (e' := 5) Kd.noRow_scalar h2).pair ((Kd.NoRow.slice (e' := 9) Kd.noRow_scalar h1).wrap.pair (Kd.noRow_scalar.pair Kd.noRow_scalar)))
theorem noRow_kCe : kCe.NoRow 64 := (noRow_kDz _ (by decide) (by decide)).pair Kd.noRow_scalar
theorem sInV {n a b : Int} (z : Bool) (hz : Num.inB n a b = z) {w : World} : Calls Tryz.prog 59 #[.int .i64 n, .int .i64 a, .int .i64 b] w fun e w' => e = .returned (.bool z) ∧ Below w.heap.size w w' := (Num.specIn n a b w).mono fun e w' ⟨p, q⟩ => ⟨by rw [p, hz], by subst q; exact Below.refl _ _⟩
theorem iInV {n a b : Int} (z : Bool) (hz : Num.inB n a b = z) {w : World} : Calls Tryz.prog 58 #[.int .i64 n, .int .i64 a, .int .i64 b] w fun e w' => e = .returned (.bool z) ∧ Below w.heap.size w w' := (Num.implInRange n a b w).mono fun e w' ⟨p, q⟩ => ⟨by rw [p, hz], by subst q; exact Below.refl _ _⟩
end Go.Proofs.YtfglcmanmfenpaaGreat.Row
