/- Chapter 7's functions, the model's and the program's, in the words of kinds: what an argument reads as, what a result is and where it lies. No conditions but that lengths fit. -/
import Derived.Test.YtnnhgcfelkcpfaaKWant
import Derived.Test.YtnnhgcfelkcpfaaWantI
import Derived.Test.YtnnhgcfelkcpfaaWantG
namespace Go.Proofs.Ytnnhgcfelkcpfaa.Row
open Go.ChangeShapes Go.WideShapes Go.ChangeAt Go.RowKit Go.Instr
set_option linter.unusedVariables false
set_option maxRecDepth 100000

theorem appName_le (b : List Int) (l : List ByteArray) : (appName b l).length ≤ b.length + (6 + 6 * bulk l) := by
  have h1 := encPs_len l
  have h2 := Var.var_len l.length
  unfold appName encN
  split
  · simp only [List.length_append]; omega
  · omega
theorem rdN_len (b : List Int) (i : Int) : (rdN b i).1.length ≤ 6 := by
  by_cases h : (rdN b i).2.2 = true
  · exact (validN_iff.1 (rdN_valid h)).1
  · have : (rdN b i).1 = [] := by
      by_cases h0 : (Var.readV b i).2.2 = false ∨ 6 < (Var.readV b i).1
      · rw [rdN_no h0]
      · rw [rdN_go h0] at h ⊢
        cases hp : rdP (Var.readV b i).1.toNat b (Var.readV b i).2.1 [] with
        | none => rfl
        | some p =>
          obtain ⟨l, j⟩ := p
          rw [hp] at h
          by_cases hv : validN l = true
          · simp [hv] at h
          · simp only [hv]; rfl
    rw [this]; simp
theorem encW_le (x : Wt) : (encW x).length ≤ 24 + 6 * bulk x.1 := by
  have h1 := appName_len x.1
  have h2 := Sl.encs_len [x.2.1, x.2.2.1, x.2.2.2]
  have h3 : [x.2.1, x.2.2.1, x.2.2.2].length = 3 := rfl
  unfold encW
  split
  · rw [List.length_append]; omega
  · simp
theorem dcW_len (b : List Int) : (dcW b).1.1.length ≤ 6 := by
  unfold dcW
  split
  · exact rdN_len b 0
  · simp [w0]
theorem decW_len (x : Wt) : (decW x).1.length = x.1.length := by unfold decW; split <;> rfl
def eqW (x y : Wt) : Bool := decide (x = y)

section
variable {P : Program} {f : FuncId} {args : Array Value} {w : World}
theorem gB {l : List Int} (h : Calls P f args w (Sl.GivesB w l)) : Calls P f args w fun e w' => ∃ U, e = .returned U ∧ kB.In w.heap.size w'.heap.size w' U l ∧ Below w.heap.size w w' := h.mono fun e w' ⟨v, a, b, c⟩ => ⟨v, a, kB_own b, c⟩
theorem gN3 {l : List ByteArray} {n : Int} {ok : Bool} (h : Calls P f args w (GivesN3 w l n ok)) : Calls P f args w fun e w' => ∃ U, e = .returned (.tuple #[U, .int .i64 n, .bool ok]) ∧ kN.In w.heap.size w'.heap.size w' U l ∧ Below w.heap.size w w' := h.mono fun e w' ⟨v, a, b, c⟩ => ⟨_, a, kN_own b, c⟩
theorem gWB {x : Wt} {z : Bool} (h : Calls P f args w (GivesWB w x z)) : Calls P f args w fun e w' => ∃ U, e = .returned (.tuple #[U, .bool z]) ∧ kW.In w.heap.size w'.heap.size w' U x ∧ Below w.heap.size w w' := h.mono fun e w' ⟨v, a, b, c⟩ => ⟨_, a, kW_own b, c⟩
end
theorem specValidInterestK (V : Value) (x : Wt) (w : World) (h : kW.At w V x) (hl : bulk x.1 ≤ 9000000) :
    Calls Try.prog 11 #[V] w fun e w' => e = .returned (.bool (validW x)) ∧ Below w.heap.size w w' := by
  obtain ⟨v, rfl, h9⟩ := kW_at h
  exact specValidInterest v x w h9 hl
theorem specAppendNameK (V U : Value) (b : List Int) (l : List ByteArray) (w : World) (h : kB.At w V b) (g : kN.At w U l) (hb : b.length ≤ 2000000) (hl : bulk l ≤ 1200000) :
    Calls Try.prog 16 #[V, U] w fun e w' => ∃ U, e = .returned U ∧ kB.In w.heap.size w'.heap.size w' U (appName b l) ∧ Below w.heap.size w w' := by
  obtain ⟨u, rfl, g9⟩ := kN_at g
  exact gB (specAppendName V u b l w (kS_at h) g9 hb hl)
theorem specReadNameK (V : Value) (b : List Int) (i : Int) (w : World) (h : kB.At w V b) (hB : Sl.Byt b) (hl : b.length ≤ 100000000) :
    Calls Try.prog 25 #[V, .int .i64 i] w fun e w' => ∃ U, e = .returned (.tuple #[U, .int .i64 (rdN b i).2.1, .bool (rdN b i).2.2]) ∧ kN.In w.heap.size w'.heap.size w' U (rdN b i).1 ∧ Below w.heap.size w w' := by
  exact gN3 (specReadName V b i w (kS_at h) hB hl)
theorem specEncodeInterestK (V : Value) (x : Wt) (w : World) (h : kW.At w V x) (hl : bulk x.1 ≤ 1200000) :
    Calls Try.prog 28 #[V] w fun e w' => ∃ U, e = .returned U ∧ kB.In w.heap.size w'.heap.size w' U (encW x) ∧ Below w.heap.size w w' := by
  obtain ⟨v, rfl, h9⟩ := kW_at h
  exact gB (specEncodeInterest v x w h9 hl)
theorem specDecodeInterestK (V : Value) (b : List Int) (w : World) (h : kB.At w V b) (hB : Sl.Byt b) (hl : b.length ≤ 100000000) :
    Calls Try.prog 31 #[V] w fun e w' => ∃ U, e = .returned (.tuple #[U, .bool (dcW b).2]) ∧ kW.In w.heap.size w'.heap.size w' U (dcW b).1 ∧ Below w.heap.size w w' := by
  exact gWB (specDecodeInterest V b w (kS_at h) hB hl)
theorem specDecrementHopsK (V : Value) (x : Wt) (w : World) (h : kW.At w V x) (hl : x.1.length ≤ 9000000) (hb : x.2.2.1 ≤ 9223372036854775807) :
    Calls Try.prog 34 #[V] w fun e w' => ∃ U, e = .returned (.tuple #[U, .bool (decOk x)]) ∧ kW.In w.heap.size w'.heap.size w' U (decW x) ∧ Below w.heap.size w w' := by
  obtain ⟨v, rfl, h9⟩ := kW_at h
  exact gWB (specDecrementHops v x w h9 hl hb)
theorem specEqualInterestsK (V U : Value) (x y : Wt) (w : World) (h : kW.At w V x) (g : kW.At w U y) (hl : x.1.length ≤ 9000000) (hm : y.1.length ≤ 9000000) :
    Calls Try.prog 36 #[V, U] w fun e w' => e = .returned (.bool (eqW x y)) ∧ Below w.heap.size w w' := by
  obtain ⟨v, rfl, h9⟩ := kW_at h
  obtain ⟨u, rfl, g9⟩ := kW_at g
  exact specEqualInterests v u x y w _ rfl h9 g9 hl hm
theorem implValidInterestK (V : Value) (x : Wt) (w : World) (h : kW.At w V x) (hl : bulk x.1 ≤ 9000000) :
    Calls Try.prog 13 #[V] w fun e w' => e = .returned (.bool (validW x)) ∧ Below w.heap.size w w' := by
  obtain ⟨v, rfl, h9⟩ := kW_at h
  exact implValidInterest v x w h9 hl
theorem implAppendNameK (V U : Value) (b : List Int) (l : List ByteArray) (w : World) (h : kB.At w V b) (g : kN.At w U l) (hb : b.length ≤ 2000000) (hl : bulk l ≤ 1200000) :
    Calls Try.prog 19 #[V, U] w fun e w' => ∃ U, e = .returned U ∧ kB.In w.heap.size w'.heap.size w' U (appName b l) ∧ Below w.heap.size w w' := by
  obtain ⟨u, rfl, g9⟩ := kN_at g
  exact gB (implAppendName V u b l w (kS_at h) g9 hb hl)
theorem implReadNameK (V : Value) (b : List Int) (i : Int) (w : World) (h : kB.At w V b) (hB : Sl.Byt b) (hl : b.length ≤ 100000000) :
    Calls Try.prog 26 #[V, .int .i64 i] w fun e w' => ∃ U, e = .returned (.tuple #[U, .int .i64 (rdN b i).2.1, .bool (rdN b i).2.2]) ∧ kN.In w.heap.size w'.heap.size w' U (rdN b i).1 ∧ Below w.heap.size w w' := by
  exact gN3 (implReadName V b i w (kS_at h) hB hl)
theorem implEncodeInterestK (V : Value) (x : Wt) (w : World) (h : kW.At w V x) (hl : bulk x.1 ≤ 1200000) :
    Calls Try.prog 29 #[V] w fun e w' => ∃ U, e = .returned U ∧ kB.In w.heap.size w'.heap.size w' U (encW x) ∧ Below w.heap.size w w' := by
  obtain ⟨v, rfl, h9⟩ := kW_at h
  exact gB (implEncodeInterest v x w h9 hl)
theorem implDecodeInterestK (V : Value) (b : List Int) (w : World) (h : kB.At w V b) (hB : Sl.Byt b) (hl : b.length ≤ 100000000) :
    Calls Try.prog 32 #[V] w fun e w' => ∃ U, e = .returned (.tuple #[U, .bool (dcW b).2]) ∧ kW.In w.heap.size w'.heap.size w' U (dcW b).1 ∧ Below w.heap.size w w' := by
  exact gWB (implDecodeInterest V b w (kS_at h) hB hl)
theorem implDecrementHopsK (V : Value) (x : Wt) (w : World) (h : kW.At w V x) (hl : x.1.length ≤ 9000000) (hb : x.2.2.1 ≤ 9223372036854775807) :
    Calls Try.prog 35 #[V] w fun e w' => ∃ U, e = .returned (.tuple #[U, .bool (decOk x)]) ∧ kW.In w.heap.size w'.heap.size w' U (decW x) ∧ Below w.heap.size w w' := by
  obtain ⟨v, rfl, h9⟩ := kW_at h
  exact gWB (implDecrementHops v x w h9 hl hb)
theorem implEqualInterestsK (V U : Value) (x y : Wt) (w : World) (h : kW.At w V x) (g : kW.At w U y) (hl : x.1.length ≤ 9000000) (hm : y.1.length ≤ 9000000) :
    Calls Try.prog 37 #[V, U] w fun e w' => e = .returned (.bool (eqW x y)) ∧ Below w.heap.size w w' := by
  obtain ⟨v, rfl, h9⟩ := kW_at h
  obtain ⟨u, rfl, g9⟩ := kW_at g
  exact implEqualInterests v u x y w _ rfl h9 g9 hl hm
end Go.Proofs.Ytnnhgcfelkcpfaa.Row
