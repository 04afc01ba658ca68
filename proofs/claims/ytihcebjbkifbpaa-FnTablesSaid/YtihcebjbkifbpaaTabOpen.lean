/- What the exact laws on tables use besides the contracts: a table that came in as an argument; equal ones compared; marks in a range of blocks. No conditions. -/
import Derived.Test.YtihcebjbkifbpaaTabHeld
import Derived.Test.YtihcebjbkifbpaaNameLaw
import Derived.Deep.Slices
import Derived.Deep.Strs
import Derived.ChangeSame
import Derived.ChangeArms
namespace Go.Proofs.Ytihcebjbkifbpaa.Row
open Go.ChangeShapes Go.WideShapes Go.ChangeAt Go.RowKit Go.Instr
set_option linter.unusedVariables false
set_option maxRecDepth 100000

theorem markNameIn (B E : Nat) (v : Value) (l : List ByteArray) (w : World) (k : Int) (h : NameIn B E w v l) (hl : l.length ≤ 100000000) (h0 : 0 ≤ k) (h1 : k ≤ 100000000000) :
    Calls Try.prog 40 #[.agg #[v], .int .i64 k] w fun e w' => e = .returned (.int .i64 (k + l.length)) ∧ NameIn B E w' v (marks markT k l.length) ∧ Wrote B E w w' :=
  (markName B v l w k h.1 hl h0 h1).mono fun e w' ⟨a, b, c⟩ => ⟨a, ⟨b, h.2⟩, Wrote.of c (fun g hg => ⟨(h.1.lt g hg).1, h.2 g hg⟩)⟩
theorem sameT (v u : Value) (T : List (List ByteArray × Int)) (w : World) (h : TabHolds w v T) (g : TabHolds w u T) (hl : T.length ≤ 140737488351232) (hT : smT T) :
    Calls Try.prog 35 #[v, u] w fun e w' => e = .returned (.bool true) ∧ Below w.heap.size w w' := by
  have := eqTableEntryS v u T T w h g hl hl hT hT
  rwa [eqT_self] at this
theorem toT (v : Value) (T : List (List ByteArray × Int)) (w : World) (h : TabHolds w v T) (hl : T.length ≤ 100000000) (hT : smT T) :
    Calls Try.prog 34 #[v] w fun e w' => ∃ v', e = .returned v' ∧ TabOwn w.heap.size w' v' T ∧ Below w.heap.size w w' :=
  toTableEntryS v T w h hl (fun t ht => by have := hT t ht; have := bulk_len t.1; omega)
theorem heldT (v : Value) (w : World) (k : Int) (T : List (List ByteArray × Int)) (h : TabHolds w v (markTb k T)) (hl : adv T ≤ 100000000) (h0 : 0 ≤ k) (h1 : k ≤ 10000000000) :
    Calls Try.prog 41 #[v, .int .i64 k] w fun e w' => e = .returned (.int .i64 (k + adv T)) ∧ Below w.heap.size w w' := heldTableEntryS v w k T h hl h0 h1
theorem smT_bulk {T : List (List ByteArray × Int)} (h : bulkT T ≤ 1048576) : smT T := fun t ht => Nat.le_trans (bulkT_mem ht) (by omega)

/-- A slice of strings as it is read. -/
theorem open_strs1 {H : Type} {enc : TypeId × Value → H} {P : Program} {w : World} {b2 n : Nat} {held : Bool} {e s : TypeId} {cs : List Value} {y0 : DataW H × List MemPlace} (he : P.underlying e = some (.slice s)) (hs : P.underlying s = some .string) (hcs : P.cellsOf s = 1)
    (h0 : DataW.trod enc P w b2 (fun _ => true) held n e cs = some y0) : ∃ (ad : Option Addr) (k c : Nat) (l : List ByteArray), cs = [.slice ad k c] ∧ Holds Value.string w (.slice ad k c) l ∧ (∀ x ∈ l, x.size ≤ maxLen) ∧ l.length ≤ 9223372036854775807 := by
  have hmx : maxLen = 9223372036854775807 := rfl
  rcases Deep.open_strs he hs hcs h0 with ⟨hc, hx⟩ | ⟨a, len, cap, m, Sx, hc, hb, hl, hm, hmm, hx, hi⟩
  · exact ⟨none, 0, 0, [], hc, Holds.nil _ _, by simp, by simp⟩
  · simp only [if_true] at hmm
    have hL : ((List.range len).map Sx).length = len := by simp
    refine ⟨some a, len, cap, (List.range len).map Sx, hc, ⟨some a, cap, by rw [hL], by rw [hL]; exact hl, ?_⟩, ?_, by rw [hL, ← hmx]; exact Nat.le_trans hl hm⟩
    · by_cases h0 : len = 0
      · left; subst h0; simp
      · right
        obtain ⟨b, off, spot⟩ := a
        have h1 := (hi 0 (by omega)).1
        have hs : spot = none := by simpa [Addr.add] using World.cell?_spot h1
        subst hs
        refine ⟨b, off, rfl, fun i hii => ?_⟩
        rw [hL] at hii
        have h2 := (hi i (by omega)).1
        rw [Go.WideShapes.add_plain] at h2
        rw [h2, nth_eq (by rw [hL]; exact hii)]
        simp
    · intro x hx
      obtain ⟨i, hi2, rfl⟩ := List.mem_map.1 hx
      exact (hi i (by have := List.mem_range.1 hi2; omega)).2

/-- A table as it came in. -/
theorem open_tab {H : Type} {enc : TypeId × Value → H} {P : Program} {w : World} {base b2 : Nat} {held : Bool} {t e ep : TypeId} {v : Value} {d : DataW H} {p : List MemPlace} {f0 f1 g0 : Field}
    (ht : P.underlying t = some (.slice e)) (he : P.underlying e = some (.struct #[f0, f1])) (hN : P.underlying f0.type = some (.struct #[g0])) (hg : P.underlying g0.type = some (.slice ep)) (hs : P.underlying ep = some .string) (hI : P.underlying f1.type = some (.int .i64))
    (ho0 : f0.offset = 0) (ho1 : f1.offset = 1) (hog : g0.offset = 0) (hc0 : P.cellsOf f0.type = 1) (hc1 : P.cellsOf f1.type = 1) (hcg : P.cellsOf g0.type = 1) (hcs : P.cellsOf ep = 1) (hC : P.cellsOf e = 2)
    (hv : Value.okWide P w .any base t v) (h : DataW.Trod enc P w b2 (fun _ => true) held t v d p) :
    ∃ T, TabHolds w v T ∧ (∀ t ∈ T, t.1.length ≤ 9223372036854775807 ∧ ∀ x ∈ t.1, x.size ≤ maxLen) ∧ T.length ≤ 9223372036854775807 := by
  have hmx : maxLen = 9223372036854775807 := rfl
  obtain ⟨a0, len, cap, rfl⟩ := okWide_slice ht hv
  obtain ⟨fuel, hf⟩ := h
  rcases Deep.open_slice ht hf with ⟨hcs, -⟩ | ⟨a, len', cap', m, n, D, Pl, hcs', hb, hl, hm, hmm, -, hi⟩
  · have : Value.slice a0 len cap = .slice none 0 0 := by simpa [Value.cells] using hcs
    exact ⟨[], ⟨[], rfl, by rw [this]; exact TabH.nil _⟩, by simp, by simp⟩
  · have hcs' : Value.slice a0 len cap = .slice (some a) len' cap' := by simpa [Value.cells] using hcs'
    simp only [if_true] at hmm
    have key : ∀ i, i < m → ∃ x : Ent, w.cell? (a.add (i * 2)) = some x.v ∧ w.cell? (a.add (i * 2 + 1)) = some (.int .i64 x.val) ∧ Holds Value.string w x.v x.ps ∧ (∀ y ∈ x.ps, y.size ≤ maxLen) ∧ x.ps.length ≤ 9223372036854775807 := by
      intro i him
      obtain ⟨cs, hc, htr⟩ := hi i him
      rw [hC] at hc
      obtain ⟨-, hcl, hat⟩ := World.cells?_some hc
      obtain ⟨y0, y1, n2, -, -, q0, q1⟩ := trod_struct2 he htr
      rw [ho0, hc0] at q0
      rw [ho1, hc1] at q1
      obtain ⟨z0, n3, -, -, q0⟩ := trod_struct1 hN q0
      rw [hog, hcg] at q0
      obtain ⟨ad, k, c, l, e0, hh, hz, hln⟩ := open_strs1 hg hs hcs q0
      obtain ⟨v1, e1, -, -⟩ := DataW.trod_int hI q1
      obtain ⟨u0, u1, rfl⟩ : ∃ u0 u1, cs = [u0, u1] := by
        match cs, hcl with
        | [u0, u1], _ => exact ⟨u0, u1, rfl⟩
      simp at e0 e1
      subst e0 e1
      have c0 := hat 0 (by decide)
      have c1 := hat 1 (by decide)
      rw [Deep.add_add] at c0 c1
      exact ⟨⟨ad, k, c, l, v1⟩, by simpa [Ent.v] using c0, by simpa using c1, hh, hz, hln⟩
    obtain ⟨Sx, hS⟩ := Deep.choose_lt key
    have hL : ((List.range len').map Sx).length = len' := by simp
    have hmem : ∀ x ∈ (List.range len').map Sx, ∃ i, i < len' ∧ x = Sx i := by
      intro x hx
      obtain ⟨i, hi2, rfl⟩ := List.mem_map.1 hx
      exact ⟨i, List.mem_range.1 hi2, rfl⟩
    refine ⟨strip ((List.range len').map Sx), ⟨_, rfl, ?_, ?_⟩, ?_, by rw [strip_length, hL, ← hmx]; exact Nat.le_trans hl hm⟩
    · rw [hcs']
      refine ⟨some a, cap', by rw [hL], by rw [hL]; exact hl, ?_⟩
      by_cases h00 : len' = 0
      · left; subst h00; simp
      · right
        obtain ⟨b, off, spot⟩ := a
        have q1 := (hS 0 (by omega)).1
        have hs : spot = none := by simpa [Addr.add] using World.cell?_spot q1
        subst hs
        refine ⟨b, off, rfl, fun j hj => ?_⟩
        rw [hL] at hj
        have hj2 : j / 2 < len' := by omega
        have q2 := hS (j / 2) (by omega)
        have hn : nth ((List.range len').map Sx) (j / 2) = Sx (j / 2) := by rw [nth_eq (by rw [hL]; exact hj2)]; simp
        have hfl := flat_at szE ((List.range len').map Sx) (j / 2) (j % 2) (by rw [hL]; exact hj2) (Nat.mod_lt _ (by decide))
        rw [hn, show j / 2 * 2 + j % 2 = j by omega] at hfl
        rcases Nat.mod_two_eq_zero_or_one j with hm0 | hm0
        · rw [hm0] at hfl
          refine ⟨_, hfl, ?_⟩
          have := q2.1
          rw [Go.WideShapes.add_plain, show j / 2 * 2 = j by omega] at this
          exact this
        · rw [hm0] at hfl
          refine ⟨_, hfl, ?_⟩
          have := q2.2.1
          rw [Go.WideShapes.add_plain, show j / 2 * 2 + 1 = j by omega] at this
          exact this
    · intro x hx
      obtain ⟨i, hi2, rfl⟩ := hmem x hx
      exact (hS i (by omega)).2.2.1
    · intro t ht
      obtain ⟨x, hx, rfl⟩ := List.mem_map.1 ht
      obtain ⟨i, hi2, rfl⟩ := hmem x hx
      have := hS i (by omega)
      exact ⟨this.2.2.2.2, this.2.2.2.1⟩
end Go.Proofs.Ytihcebjbkifbpaa.Row
