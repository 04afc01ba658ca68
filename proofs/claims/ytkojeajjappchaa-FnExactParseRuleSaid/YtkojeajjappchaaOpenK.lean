/- What comes in as an argument, in the words of kinds: which value of the kind it is, and that its parts fit. By structure: numbers, slices of texts, structs, slices of whatever. For any program. No conditions. -/
import Derived.Test.YtkojeajjappchaaKind
import Derived.SizedLaws
import Derived.ChangeSlices
import Derived.ChangeSame
import Derived.ChangeArms
import Derived.Deep.Strs
import Derived.Lib.SmallJoins
namespace Go.Proofs.Ytkojeajjappchaa.Row
open Go.ChangeShapes Go.WideShapes Go.ChangeAt Go.RowKit Go.Instr
set_option linter.unusedVariables false
set_option maxRecDepth 100000

/-- Whatever lies in a value of type t as it comes in is a value of the kind, and fits. -/
def OpensK {α M : Type} (P : Program) (k : Kd α M) (t : TypeId) (ok : α → Prop) : Prop :=
  ∀ {H : Type} {enc : TypeId × Value → H} {w : World} {b2 : Nat} {held : Bool} {n : Nat} {cs : List Value} {y : DataW H × List MemPlace},
    DataW.trod enc P w b2 (fun _ => true) held n t cs = some y → ∃ m, k.cells m = cs ∧ k.holds w m ∧ ok (k.strip m)
section
variable {α M β N : Type} {P : Program} {k : Kd α M} {l : Kd β N} {t e s : TypeId} {ok : α → Prop} {ok' : β → Prop}
theorem opens_int (h : P.underlying t = some (.int .i64)) : OpensK P kInt t (fun x => (Lit.int .i64 x).wf = true) := by
  intro H enc w b2 held n cs y hy
  obtain ⟨v, e1, -, w1⟩ := DataW.trod_int h hy
  exact ⟨v, e1.symm, trivial, w1⟩
theorem opens_strs (ht : P.underlying t = some (.slice s)) (hs : P.underlying s = some .string) (hc : P.cellsOf s = 1) : OpensK P (kNm e) t okN := by
  intro H enc w b2 held n cs y hy
  obtain ⟨ad, n, c, l, e1, hh, hz, hl⟩ := open_strs1 ht hs hc hy
  obtain ⟨m, hv, hst, hm⟩ := kNm_of (e := e) hh
  exact ⟨m, by rw [e1]; exact congrArg (fun z => [z]) hv.symm, hm, by rw [hst]; exact ⟨hl, hz⟩⟩
theorem opens_wrap {f0 : Field} (ht : P.underlying t = some (.struct #[f0])) (ho : f0.offset = 0) (hc : P.cellsOf f0.type = P.cellsOf t) (h : OpensK P k f0.type ok) : OpensK P k.wrap t ok := by
  intro H enc w b2 held n cs y hy
  obtain ⟨y0, n2, -, hl, q⟩ := trod_struct1 ht hy
  rw [ho, hc, ← hl, List.drop_zero, List.take_length] at q
  exact h q
theorem opens_pair {f0 f1 : Field} (ht : P.underlying t = some (.struct #[f0, f1])) (ho0 : f0.offset = 0) (ho1 : f1.offset = P.cellsOf f0.type) (hc : P.cellsOf t = P.cellsOf f0.type + P.cellsOf f1.type) (h : OpensK P k f0.type ok) (g : OpensK P l f1.type ok') : OpensK P (k.pair l) t (fun x => ok x.1 ∧ ok' x.2) := by
  intro H enc w b2 held n cs y hy
  obtain ⟨y0, y1, n2, -, hl, q0, q1⟩ := trod_struct2 ht hy
  rw [ho0, List.drop_zero] at q0
  rw [ho1] at q1
  obtain ⟨m, e0, h0, p0⟩ := h q0
  obtain ⟨m2, e1, h1, p1⟩ := g q1
  refine ⟨(m, m2), ?_, ⟨h0, h1⟩, p0, p1⟩
  show k.cells m ++ l.cells m2 = cs
  rw [e0, e1]
  have e2 : (List.drop (P.cellsOf f0.type) cs).length = P.cellsOf f1.type := by rw [List.length_drop]; omega
  rw [← e2, List.take_length, List.take_append_drop]
/-- .. the fields of a struct from one on, from cell o on. -/
def OpensF {α M : Type} (P : Program) (k : Kd α M) (fs : List Field) (o : Nat) (ok : α → Prop) : Prop :=
  ∀ {H : Type} {enc : TypeId × Value → H} {w : World} {b2 : Nat} {held : Bool} {n : Nat} {cs : List Value},
    (∀ f ∈ fs, ∃ y, DataW.trod enc P w b2 (fun _ => true) held n f.type ((cs.drop f.offset).take (P.cellsOf f.type)) = some y) → ∃ m, k.cells m = (cs.drop o).take k.size ∧ k.holds w m ∧ ok (k.strip m)
theorem opensF_last {f : Field} {o : Nat} (h : OpensK P k f.type ok) (ho : f.offset = o) (hc : P.cellsOf f.type = k.size) : OpensF P k [f] o ok := by
  intro H enc w b2 held n cs hf
  obtain ⟨y, hy⟩ := hf f (by simp)
  rw [ho, hc] at hy
  exact h hy
theorem opensF_cons {f : Field} {fs : List Field} {o : Nat} (h : OpensK P k f.type ok) (ho : f.offset = o) (hc : P.cellsOf f.type = k.size) (g : OpensF P l fs (o + k.size) ok') : OpensF P (k.pair l) (f :: fs) o (fun x => ok x.1 ∧ ok' x.2) := by
  intro H enc w b2 held n cs hf
  obtain ⟨y, hy⟩ := hf f (by simp)
  rw [ho, hc] at hy
  obtain ⟨m, e0, h0, p0⟩ := h hy
  obtain ⟨m2, e1, h1, p1⟩ := g (fun f2 hf2 => hf f2 (List.mem_cons_of_mem _ hf2))
  refine ⟨(m, m2), ?_, ⟨h0, h1⟩, p0, p1⟩
  show k.cells m ++ l.cells m2 = (cs.drop o).take (k.size + l.size)
  rw [e0, e1, List.take_add, List.drop_drop]
theorem opens_struct {fs : Array Field} (ht : P.underlying t = some (.struct fs)) (hc : P.cellsOf t = k.size) (h : OpensF P k fs.toList 0 ok) : OpensK P k t ok := by
  intro H enc w b2 held n cs y hy
  obtain ⟨xs, n2, -, -, hl, hlen, hf⟩ := DataW.trod_struct ht hy
  obtain ⟨m, e, hm, hok⟩ := h (cs := cs) (fun f hfm => by
    obtain ⟨i, hi, e⟩ := List.getElem_of_mem hfm
    have h1 := hf i f (by rw [← e]; simp [Array.getElem?_eq_getElem (show i < fs.size by simpa using hi)])
    rw [h1, List.getElem?_eq_getElem (by rw [hlen]; simpa using hi)]
    exact ⟨_, rfl⟩)
  exact ⟨m, by rw [e, List.drop_zero, ← hc, ← hl, List.take_length], hm, hok⟩
theorem opens_slice [Inhabited M] (ht : P.underlying t = some (.slice e)) (hc : P.cellsOf e = k.size) (hp : 0 < k.size) (h : OpensK P k e ok) {e' : TypeId} : OpensK P (k.slice e') t (fun x => x.length ≤ 9223372036854775807 ∧ ∀ z ∈ x, ok z) := by
  have hmx : maxLen = 9223372036854775807 := rfl
  intro H enc w b2 held n cs y hy
  rcases Deep.open_slice ht hy with ⟨hcs, -⟩ | ⟨a, len', cap', m, n, D, Pl, hcs', hb, hl, hm, hmm, -, hi⟩
  · exact ⟨⟨none, 0, 0, []⟩, hcs.symm, ⟨HoldsK.nil _ _ _, fun x hx => (by cases hx)⟩, by simp [Kd.slice], fun z hz => (by simp [Kd.slice] at hz)⟩
  · simp only [if_true] at hmm
    have key : ∀ i, i < m → ∃ x : M, (∀ j, j < k.size → w.cell? (a.add (i * k.size + j)) = (k.cells x)[j]?) ∧ k.holds w x ∧ ok (k.strip x) := by
      intro i him
      obtain ⟨cs, hcc, htr⟩ := hi i him
      rw [hc] at hcc
      obtain ⟨-, hcl, hat⟩ := World.cells?_some hcc
      obtain ⟨x, ex, hx, px⟩ := h htr
      refine ⟨x, fun j hj => ?_, hx, px⟩
      have := hat j hj
      rw [Deep.add_add] at this
      rw [this, ex]
    obtain ⟨Sx, hS⟩ := Deep.choose_lt key
    have hL : ((List.range len').map Sx).length = len' := by simp
    have hmem : ∀ x ∈ (List.range len').map Sx, ∃ i, i < len' ∧ x = Sx i := by
      intro x hx
      obtain ⟨i, hi2, rfl⟩ := List.mem_map.1 hx
      exact ⟨i, List.mem_range.1 hi2, rfl⟩
    have hsz : Sz k.cells k.size := k.len
    refine ⟨⟨some a, len', cap', (List.range len').map Sx⟩, hcs'.symm, ⟨?_, fun x hx => ?_⟩, ?_, fun z hz => ?_⟩
    · refine ⟨some a, cap', by rw [hL]; rfl, by rw [hL]; exact hl, ?_⟩
      by_cases h00 : len' = 0
      · left; subst h00; rfl
      · right
        obtain ⟨b, off, spot⟩ := a
        have q1 := (hS 0 (by omega)).1 0 hp
        have hu : ∃ u, (k.cells (Sx 0))[0]? = some u := ⟨_, List.getElem?_eq_getElem (by rw [k.len]; exact hp)⟩
        obtain ⟨u, hu⟩ := hu
        rw [hu] at q1
        have hs : spot = none := by simpa [Addr.add] using World.cell?_spot q1
        subst hs
        refine ⟨b, off, rfl, fun j hj => ?_⟩
        have hj : j < len' * k.size := by rwa [hL] at hj
        have hj2 : j / k.size < len' := Nat.div_lt_of_lt_mul (by rw [Nat.mul_comm]; exact hj)
        have hj3 : j % k.size < k.size := Nat.mod_lt _ hp
        have q2 := (hS (j / k.size) (by omega)).1 (j % k.size) hj3
        have hn : nth ((List.range len').map Sx) (j / k.size) = Sx (j / k.size) := by rw [nth_eq (by rw [hL]; exact hj2)]; simp
        have hfl := flat_at hsz ((List.range len').map Sx) (j / k.size) (j % k.size) (by rw [hL]; exact hj2) hj3
        rw [hn, Nat.div_add_mod'] at hfl
        rw [Nat.div_add_mod', Go.WideShapes.add_plain] at q2
        have hu2 : ∃ u, (k.cells (Sx (j / k.size)))[j % k.size]? = some u := ⟨_, List.getElem?_eq_getElem (by rw [k.len]; exact hj3)⟩
        obtain ⟨u2, hu2⟩ := hu2
        exact ⟨u2, by rw [hfl, hu2], by rw [q2, hu2]⟩
    · obtain ⟨i, hi2, rfl⟩ := hmem x hx
      exact (hS i (by omega)).2.1
    · show ((List.map Sx (List.range len')).map k.strip).length ≤ _
      rw [List.length_map, hL, ← hmx]
      exact Nat.le_trans hl hm
    · obtain ⟨x, hx, rfl⟩ := List.mem_map.1 (show z ∈ ((List.range len').map Sx).map k.strip from hz)
      obtain ⟨i, hi2, rfl⟩ := hmem x hx
      exact (hS i (by omega)).2.2
theorem OpensK.imp {ok2 : α → Prop} (h : OpensK P k t ok) (hi : ∀ x, ok x → ok2 x) : OpensK P k t ok2 := by
  intro H enc w b2 held n cs y hy
  obtain ⟨m, a, b, c⟩ := h hy
  exact ⟨m, a, b, hi _ c⟩
/-- A struct as it came in. -/
theorem open_structK {H : Type} {enc : TypeId × Value → H} {w : World} {base b2 : Nat} {held : Bool} {v : Value} {d : DataW H} {p : List MemPlace} {fs : Array Field} (ho : OpensK P k t ok) (hval : ∀ m, k.val m = .agg (k.cells m).toArray) (ht : P.underlying t = some (.struct fs))
    (hv : Value.okWide P w .any base t v) (h : DataW.Trod enc P w b2 (fun _ => true) held t v d p) : ∃ x, k.At w v x ∧ ok x := by
  obtain ⟨cs, rfl, -⟩ := okWide_struct ht hv
  obtain ⟨fuel, hf⟩ := h
  obtain ⟨m, e1, hm, hok⟩ := ho hf
  exact ⟨k.strip m, ⟨m, by rw [hval, e1]; simp [Value.cells], rfl, hm⟩, hok⟩
/-- A slice as it came in. -/
theorem open_sliceK {H : Type} {enc : TypeId × Value → H} {w : World} {base b2 : Nat} {held : Bool} {v : Value} {d : DataW H} {p : List MemPlace} {e' : TypeId} {okl : List α → Prop} (ho : OpensK P (k.slice e') t okl) (ht : P.underlying t = some (.slice e))
    (hv : Value.okWide P w .any base t v) (h : DataW.Trod enc P w b2 (fun _ => true) held t v d p) : ∃ x, (k.slice e').At w v x ∧ okl x := by
  obtain ⟨a0, len, cap, rfl⟩ := okWide_slice ht hv
  obtain ⟨fuel, hf⟩ := h
  obtain ⟨m, e1, hm, hok⟩ := ho hf
  refine ⟨(k.slice e').strip m, ⟨m, ?_, rfl, hm⟩, hok⟩
  have e3 : (Value.slice a0 len cap).cells.toList = [Value.slice a0 len cap] := by simp [Value.cells]
  have e2 : [(k.slice e').val m] = [Value.slice a0 len cap] := Eq.trans (show [(k.slice e').val m] = (Value.slice a0 len cap).cells.toList from e1) e3
  exact (List.head_eq_of_cons_eq e2).symm
end
end Go.Proofs.Ytkojeajjappchaa.Row
