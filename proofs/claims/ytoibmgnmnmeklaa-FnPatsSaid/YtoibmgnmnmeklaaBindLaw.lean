/- What the exact laws on patterns and bindings use besides the contracts: a slice of bindings that came in as an argument; equal ones compared; blocks that differ. No conditions. -/
import Derived.Test.YtoibmgnmnmeklaaNameLaw
import Derived.Test.YtoibmgnmnmeklaaPatn
import Derived.Test.YtoibmgnmnmeklaaBind
import Derived.Deep.Slices
import Derived.ChangeSame
namespace Go.Proofs.Ytoibmgnmnmeklaa.Row
open Go.ChangeShapes Go.WideShapes Go.ChangeAt Go.RowKit Go.Instr
set_option linter.unusedVariables false
set_option maxRecDepth 100000

theorem sameB (v u : Value) (l : List (ByteArray × ByteArray)) (w : World) (h : HoldsK encBd 2 w v l) (g : HoldsK encBd 2 w u l) (hl : l.length ≤ 140737488351232) :
    Calls Try.prog 41 #[v, u] w fun e w' => e = .returned (.bool true) ∧ Below w.heap.size w w' := by
  have := eqBindingS v u l l w h g hl hl
  rwa [eqBd_self] at this
theorem OwnK.notBox {α : Type} {enc : α → List Value} {sz : Nat} {e : TypeId} {B : Nat} {w : World} {v : Value} {l : List α} (h : OwnK e enc sz B w v l) {g : Nat} {u : Value} {t : TypeId} (hb : Ret.Box w g u t) (hne : e ≠ t) : some g ≠ v.ownBlock := by
  rcases h.2 with ⟨rfl, _⟩ | ⟨g', cap, cur, rfl, _, hg, _⟩
  · simp [Value.ownBlock]
  · intro e1
    have : g = g' := by simpa [Value.ownBlock] using e1
    rw [← this, hb] at hg
    cases hg
    exact hne rfl
/-- A slice in new memory lies in no block that was there. -/
theorem apart_lt {v u : Value} {B : Nat} (h : ∀ g, v.ownBlock = some g → B ≤ g) (h' : ∀ g, u.ownBlock = some g → g < B) : Apart v u := fun g h1 h2 => by
  have a := h g h1
  have b := h' g h2
  omega
theorem OwnK.over {α : Type} {enc : α → List Value} {sz : Nat} {e : TypeId} {B : Nat} {w : World} {v : Value} {l : List α} (h : OwnK e enc sz B w v l) {B' : Nat} (hB : B' ≤ B) : Over B' v := fun g hg => Nat.le_trans hB (h.lt g hg).1

theorem open_binds {H : Type} {enc : TypeId × Value → H} {P : Program} {w : World} {base b2 : Nat} {held : Bool} {t e : TypeId} {v : Value} {d : DataW H} {p : List MemPlace} {f0 f1 : Field}
    (ht : P.underlying t = some (.slice e)) (he : P.underlying e = some (.struct #[f0, f1])) (h0 : P.underlying f0.type = some .string) (h1 : P.underlying f1.type = some .string) (ho0 : f0.offset = 0) (ho1 : f1.offset = 1) (hc0 : P.cellsOf f0.type = 1) (hc1 : P.cellsOf f1.type = 1) (hC : P.cellsOf e = 2)
    (hv : Value.okWide P w .any base t v) (h : DataW.Trod enc P w b2 (fun _ => true) held t v d p) :
    ∃ l, HoldsK encBd 2 w v l ∧ (∀ x ∈ l, x.1.size ≤ maxLen ∧ x.2.size ≤ maxLen) ∧ l.length ≤ 9223372036854775807 := by
  have hmx : maxLen = 9223372036854775807 := rfl
  obtain ⟨a0, len, cap, rfl⟩ := okWide_slice ht hv
  obtain ⟨fuel, hf⟩ := h
  rcases Deep.open_slice ht hf with ⟨hcs, -⟩ | ⟨a, len', cap', m, n, D, Pl, hcs, hb, hl, hm, hmm, -, hi⟩
  · have : Value.slice a0 len cap = .slice none 0 0 := by simpa [Value.cells] using hcs
    exact ⟨[], by rw [this]; exact HoldsK.nil _ _ _, by simp, by simp⟩
  · have hcs' : Value.slice a0 len cap = .slice (some a) len' cap' := by simpa [Value.cells] using hcs
    simp only [if_true] at hmm
    have key : ∀ i, i < m → ∃ x : ByteArray × ByteArray, w.cell? (a.add (i * 2)) = some (.string x.1) ∧ w.cell? (a.add (i * 2 + 1)) = some (.string x.2) ∧ x.1.size ≤ maxLen ∧ x.2.size ≤ maxLen := by
      intro i him
      obtain ⟨cs, hc, htr⟩ := hi i him
      rw [hC] at hc
      obtain ⟨-, hcl, hat⟩ := World.cells?_some hc
      obtain ⟨y0, y1, n2, -, -, g0, g1⟩ := trod_struct2 he htr
      rw [ho0, hc0] at g0
      rw [ho1, hc1] at g1
      obtain ⟨s0, e0, -, z0⟩ := DataW.trod_string h0 g0
      obtain ⟨s1, e1, -, z1⟩ := DataW.trod_string h1 g1
      obtain ⟨u0, u1, rfl⟩ : ∃ u0 u1, cs = [u0, u1] := by
        match cs, hcl with
        | [u0, u1], _ => exact ⟨u0, u1, rfl⟩
      simp at e0 e1
      subst e0 e1
      have c0 := hat 0 (by decide)
      have c1 := hat 1 (by decide)
      rw [Deep.add_add] at c0 c1
      exact ⟨(s0, s1), by simpa using c0, by simpa using c1, z0, z1⟩
    obtain ⟨Sx, hS⟩ := Deep.choose_lt key
    have hL : ((List.range len').map Sx).length = len' := by simp
    refine ⟨(List.range len').map Sx, ?_, ?_, by rw [hL, ← hmx]; exact Nat.le_trans hl hm⟩
    · rw [hcs']
      refine ⟨some a, cap', by rw [hL], by rw [hL]; exact hl, ?_⟩
      by_cases h00 : len' = 0
      · left; subst h00; simp
      · right
        obtain ⟨b, off, spot⟩ := a
        have q1 := (hS 0 (by omega)).1
        have hs : spot = none := by simpa [Addr.add] using World.cell?_spot q1
        subst hs
        refine ⟨b, off, rfl, fun j hj => ?_⟩
        rw [hL] at hj
        have hj2 : j / 2 < len' := by omega
        have q2 := hS (j / 2) (by omega)
        have hn : nth ((List.range len').map Sx) (j / 2) = Sx (j / 2) := by rw [nth_eq (by rw [hL]; exact hj2)]; simp
        have hfl := flat_at szBd ((List.range len').map Sx) (j / 2) (j % 2) (by rw [hL]; exact hj2) (Nat.mod_lt _ (by decide))
        rw [hn, show j / 2 * 2 + j % 2 = j by omega] at hfl
        rcases Nat.mod_two_eq_zero_or_one j with hm0 | hm0
        · rw [hm0] at hfl
          refine ⟨_, hfl, ?_⟩
          have := q2.1
          rw [Go.WideShapes.add_plain, show j / 2 * 2 = j by omega] at this
          exact this
        · rw [hm0] at hfl
          refine ⟨_, hfl, ?_⟩
          have := q2.2.1
          rw [Go.WideShapes.add_plain, show j / 2 * 2 + 1 = j by omega] at this
          exact this
    · intro x hx
      obtain ⟨i, hi2, rfl⟩ := List.mem_map.1 hx
      have := hS i (by have := List.mem_range.1 hi2; omega)
      exact ⟨this.2.2.1, this.2.2.2⟩
/-- What a region's loads read is kept by a call that leaves old memory. -/
theorem keepN1 {W w1 w2 : World} {a1 : Addr} {u1 : Value} (h : w1.cell? a1 = some u1 ∧ Below W.heap.size W w1) (hb : Below w1.heap.size w1 w2) : w2.cell? a1 = some u1 ∧ Below W.heap.size W w2 :=
  ⟨by rw [hb.cell (cell_lt h.1)]; exact h.1, h.2.trans (hb.mono h.2.size)⟩
theorem keepN2 {W w1 w2 : World} {a1 a2 : Addr} {u1 u2 : Value} (h : w1.cell? a1 = some u1 ∧ w1.cell? a2 = some u2 ∧ Below W.heap.size W w1) (hb : Below w1.heap.size w1 w2) : w2.cell? a1 = some u1 ∧ w2.cell? a2 = some u2 ∧ Below W.heap.size W w2 :=
  ⟨by rw [hb.cell (cell_lt h.1)]; exact h.1, by rw [hb.cell (cell_lt h.2.1)]; exact h.2.1, h.2.2.trans (hb.mono h.2.2.size)⟩
theorem keepN3 {W w1 w2 : World} {a1 a2 a3 : Addr} {u1 u2 u3 : Value} (h : w1.cell? a1 = some u1 ∧ w1.cell? a2 = some u2 ∧ w1.cell? a3 = some u3 ∧ Below W.heap.size W w1) (hb : Below w1.heap.size w1 w2) : w2.cell? a1 = some u1 ∧ w2.cell? a2 = some u2 ∧ w2.cell? a3 = some u3 ∧ Below W.heap.size W w2 :=
  ⟨by rw [hb.cell (cell_lt h.1)]; exact h.1, by rw [hb.cell (cell_lt h.2.1)]; exact h.2.1, by rw [hb.cell (cell_lt h.2.2.1)]; exact h.2.2.1, h.2.2.2.trans (hb.mono h.2.2.2.size)⟩
theorem bigLen2 {l : List (ByteArray × ByteArray)} {n : Nat} (h : bulk2 l ≤ n) : l.length ≤ n := Nat.le_trans (bulk2_len l) h
end Go.Proofs.Ytoibmgnmnmeklaa.Row
