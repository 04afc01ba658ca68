/- Contract of the program's copy of a name. No conditions but that lengths fit. -/
import Derived.Test.YtnnhgcfelkcpfaaDoorAppP
namespace Go.Proofs.YtnnhgcfelkcpfaaDoor.Row
open Go.ChangeShapes Go.WideShapes Go.ChangeAt Go.RowKit Go.Instr
set_option linter.unusedVariables false
set_option maxRecDepth 100000

set_option maxHeartbeats 4000000 in
theorem cloneName (v : Value) (l : List ByteArray) (w : World) (h : Holds Value.string w v l) (hl : l.length ≤ 9000000) :
    Calls Tryd.prog 81 #[.agg #[v]] w (GivesN w l) := by
  obtain ⟨x, n, cap, rfl, hn, hcap, hh⟩ := h.shapeN
  have HB0 := Lib.hid (((Below.refl w.heap.size w).alloc (Nat.le_refl _) (.cells #[.slice x n cap] 26)).alloc (by simp) (.cells #[.slice none 0 0] 26))
  have HH := Lib.hid (hh.on HB0.out)
  have HR := Lib.hid (Ret.NC.new' (.slice none 0 0) 26 (w := w.alloc (.cells #[.slice x n cap] 26)) (n := w.heap.size + 1) (by simp))
  clear hh h hn
  go_enter Tryd.func81, Tryd.ntmps81
  go_wp2_with fail
  refine (cloneS _ l _ HH.out (by omega)).mono ?_
  rintro e w1 ⟨v1, rfl, ho, hb⟩
  obtain ⟨x1, n1, c1, rfl, -, -, ho1⟩ := ho.shapeN
  have HR1 := Lib.hid (HR.out.on hb)
  obtain ⟨hk, hf⟩ := HR1.out
  have HB1 := HB0.out.trans (hb.mono HB0.out.size)
  obtain ⟨q1, q2, q3⟩ := endN (w := w) (g := w.heap.size + 1) (by omega) (by simp) ho1 hk HB1
  have HQ1 := Lib.hid q1; have HQ2 := Lib.hid q2; have HQ3 := Lib.hid q3
  clear q1 q2 q3 ho ho1 hb HB1
  go_wp2
  refine bodyPost_ret (Ret.results_c rfl _ _ (w.heap.size + 1) [_] rfl aggN (Ret.one HQ1.out)) rfl ?_
  exact ⟨_, rfl, HQ2.out, HQ3.out⟩
end Go.Proofs.YtnnhgcfelkcpfaaDoor.Row
