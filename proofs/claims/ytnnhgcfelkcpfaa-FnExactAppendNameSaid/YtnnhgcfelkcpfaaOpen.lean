/- A slice of numbers that came in as an argument: it holds a list, its numbers fit their kind, its length is within the reach. No conditions. -/
import Derived.Test.YtnnhgcfelkcpfaaSlice
import Derived.SizedLaws
import Derived.ChangeSlices
import Derived.Lib.SmallJoins
namespace Go.Proofs.Ytnnhgcfelkcpfaa.Sl
open Go.ChangeShapes Go.WideShapes Go.ChangeAt Go.RowKit

theorem open_holds {H : Type} {enc : TypeId × Value → H} {P : Program} {w : World} {base b2 : Nat} {held : Bool} {t e : TypeId} {v : Value} {d : DataW H} {p : List MemPlace} {ts : List TypeId} {ds : List (DataW H)} {j : Nat} {k : IntKind}
    (ht : P.underlying t = some (.slice e)) (he : P.underlying e = some (.int k)) (hc : P.cellsOf e = 1) (hz : 1 ≤ P.bytesOf e) (hv : Value.okWide P w .any base t v)
    (h : DataW.Trod enc P w b2 (fun _ => true) held t v d p) (hsz : (DataW.weightsEach P ts ds).all (· ≤ reachBytes) = true) (htj : ts[j]? = some t) (hdj : ds[j]? = some d) :
    ∃ l, Holds k w v l ∧ (∀ n ∈ l, (Lit.int k n).wf = true) ∧ l.length ≤ 140737488351232 := by
  obtain ⟨a0, len, cap, rfl⟩ := okWide_slice ht hv
  obtain ⟨fuel, hf⟩ := h
  rcases open_ints ht he hc hf with ⟨hcs, hx⟩ | ⟨a, len', cap', zs, hcs, hb, hl, hm, hn, hx, hcell, hwz⟩
  · refine ⟨[], ?_, by simp, by simp⟩
    have : Value.slice a0 len cap = .slice none 0 0 := by simpa [Value.cells] using hcs
    rw [this]; exact Holds.nil k w
  · have hcs' : Value.slice a0 len cap = .slice (some a) len' cap' := by simpa [Value.cells] using hcs
    simp only [Prod.mk.injEq] at hx
    obtain ⟨hd, -⟩ := hx
    subst hd
    have hw := sized_slice hsz htj hdj ht
    simp only [if_true] at hn
    have er : reachBytes = 140737488351232 := by decide
    have hlen : (zs.take len').length = len' := by rw [List.length_take]; omega
    refine ⟨zs.take len', ?_, fun n hnn => hwz n (List.mem_of_mem_take hnn), ?_⟩
    · rw [hcs']
      refine ⟨some a, cap', by rw [hlen], by rw [hlen]; exact hl, ?_⟩
      by_cases h0 : len' = 0
      · left; subst h0; simp
      · right
        obtain ⟨b, off, spot⟩ := a
        have h1 := hcell 0 (by omega)
        have hs : spot = none := by simpa [Addr.add] using World.cell?_spot h1
        subst hs
        refine ⟨b, off, rfl, fun i hi => ?_⟩
        rw [hlen] at hi
        have h2 := hcell i (by omega)
        rw [Go.WideShapes.add_plain] at h2
        rw [h2]
        simp only [nth, List.getD, List.getElem?_take, if_pos hi]
    · rw [hlen]
      have h3 : zs.length * 1 ≤ zs.length * P.bytesOf e := Nat.mul_le_mul_left _ hz
      simp [lits] at hw
      have h4 : len' + (zs.length - len') = zs.length := by omega
      have h5 : min len' zs.length = len' := by omega
      rw [h5, h4] at hw
      omega
end Go.Proofs.Ytnnhgcfelkcpfaa.Sl
