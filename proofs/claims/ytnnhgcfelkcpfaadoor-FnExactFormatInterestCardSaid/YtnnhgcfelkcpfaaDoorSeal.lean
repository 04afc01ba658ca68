/- Contracts of chapter 3's digests and MACs, the reference model's and the program's: Digest, ComputeMAC, ValidSecret, BytesToInts, DeriveSecret, EqualInts. What was in memory stays as it was. No conditions but that lengths fit. -/
import Derived.Test.YtnnhgcfelkcpfaaDoorSealMath
import Derived.Test.YtnnhgcfelkcpfaaDoorLibI
import Derived.Test.YtnnhgcfelkcpfaaDoorSame
import Derived.Test.YtnnhgcfelkcpfaaDoorNum
namespace Go.Proofs.YtnnhgcfelkcpfaaDoor.Sl
open Go.ChangeShapes Go.WideShapes Go.ChangeAt Go.RowKit Go.Instr
open Seal (digest mac b2i derive dstep)
set_option linter.unusedVariables false
set_option maxRecDepth 100000

def GivesN (w : World) (n : Int) (e : Ending) (w' : World) : Prop := e = .returned (.int .i64 n) ∧ Below w.heap.size w w'

theorem implEqualInts (v u : Value) (l m : List Int) (w : World) (h : Holds .i64 w v l) (g : Holds .i64 w u m) (hl : l.length ≤ 100000000) (hm : m.length ≤ 100000000) :
    Calls Tryd.prog 63 #[v, u] w fun e w' => e = .returned (.bool (eqB l m)) ∧ Below w.heap.size w w' := by
  have HC := Lib.hid (libEqI v u l m w h g hl hm)
  clear h g hl hm
  go_enter Tryd.func63, Tryd.ntmps63
  go_wp2_with fail
  refine HC.out.mono ?_
  rintro e w' ⟨rfl, hb⟩
  go_wp2_with fail
  go_ret
  exact ⟨rfl, hb⟩

end Go.Proofs.YtnnhgcfelkcpfaaDoor.Sl
