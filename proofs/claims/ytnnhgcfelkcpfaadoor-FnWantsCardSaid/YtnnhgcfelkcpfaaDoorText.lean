/- Contracts of FormatInt and ParseInt, the program's and the reference model's: FormatInt returns the decimal numeral; ParseInt returns the number from 0 to 10^12 whose numeral the text is, or false. What was in memory stays as it was. The program's road asks the library's tables as their initialisers lay them. -/
import Derived.Test.YtnnhgcfelkcpfaaDoorFmt
import Derived.Test.YtnnhgcfelkcpfaaDoorShelf
namespace Go.Proofs.YtnnhgcfelkcpfaaDoor.Text
open Go.ChangeShapes Go.WideShapes Go.ChangeAt Go.RowKit Go.Instr
set_option linter.unusedVariables false
set_option maxRecDepth 100000

/-! ### THE LIBRARY's VARIABLES: what they hold stays while what was there stays -/
theorem var_kept {P : Program} {n : String} {cs : Array Value} {W W' : World} (h : W.var? P n = some cs) (hb : Below W.heap.size W W') : W'.var? P n = some cs := by
  unfold World.var? at *
  cases hg : P.globalNamed n with
  | none => simp [hg] at h
  | some g =>
    simp only [hg, Option.bind_some] at h ⊢
    have hlt : g < W.heap.size := by
      cases hh : W.heap[g]? with
      | none => rw [hh] at h; cases h
      | some o => exact (Array.getElem?_eq_some_iff.1 hh).1
    rw [hb.block g hlt]; exact h

/-- The library's table of powers is as its initialiser lays it. -/
def Tab (w : World) : Prop := Lib.TabIs Tryd.prog w "internal/strconv.uint64pow10" .u64 Lib.pow10Tab
theorem Tab.on {w w' : World} (h : Tab w) (hb : Below w.heap.size w w') : Tab w' := var_kept h hb

/-- The library's two errors are interface values. -/
def Errs (w : World) : Prop := (∃ tp p, w.var? Tryd.prog "strconv.ErrSyntax" = some #[.iface tp p]) ∧ ∃ tp p, w.var? Tryd.prog "strconv.ErrRange" = some #[.iface tp p]
theorem Errs.on {w w' : World} (h : Errs w) (hb : Below w.heap.size w w') : Errs w' := by
  obtain ⟨⟨a, b, h1⟩, ⟨c, d, h2⟩⟩ := h
  exact ⟨⟨a, b, var_kept h1 hb⟩, ⟨c, d, var_kept h2 hb⟩⟩

theorem below_grow (w : World) (k : Nat) (os : Array Obj) : Below w.heap.size w (Sort.grow (w.drewN k) os) := by
  refine ⟨rfl, rfl, rfl, ?_, fun i hi => ?_⟩
  · show w.heap.size ≤ (w.heap ++ os).size
    simp
  · show (w.heap ++ os)[i]? = w.heap[i]?
    rw [Array.getElem?_append_left hi]

theorem implFormat (n : Int) (w : World) (w0 : (Lit.int .i64 n).wf = true) (ht : Tab w) :
    Calls Tryd.prog 65 #[.int .i64 n] w fun e w' => e = .returned (.string (str (Lib.itoa n))) ∧ Below w.heap.size w w' := by
  obtain ⟨b1, b2⟩ := wf64 w0
  have hc := Tryd.strconv_Itoa n b1 b2 w ht
  have HC := Lib.hid hc; clear hc b1 b2 w0
  go_enter Tryd.func65, Tryd.ntmps65
  go_wp2_with fail
  refine HC.out.mono ?_
  rintro e w' ⟨rfl, k, os, rfl⟩
  go_wp2
  go_ret
  exact ⟨rfl, below_grow _ _ _⟩

end Go.Proofs.YtnnhgcfelkcpfaaDoor.Text
