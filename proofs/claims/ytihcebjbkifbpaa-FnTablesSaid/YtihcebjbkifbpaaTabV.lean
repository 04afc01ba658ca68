/- The names' contracts with their answers as letters. No conditions but that lengths fit. -/
import Derived.Test.YtihcebjbkifbpaaPref
import Derived.Test.YtihcebjbkifbpaaAppP
import Derived.Test.YtihcebjbkifbpaaTabHeld
namespace Go.Proofs.Ytihcebjbkifbpaa.Row
open Go.ChangeShapes Go.WideShapes Go.ChangeAt Go.RowKit Go.Instr
set_option linter.unusedVariables false
set_option maxRecDepth 100000
section
variable {v u : Value} {l m : List ByteArray} {w : World}
theorem iEqV (b : Bool) (hb : eqB l m = b) (h : Holds Value.string w v l) (g : Holds Value.string w u m) (hl : l.length ≤ 9000000) (hm : m.length ≤ 9000000) :
    Calls Try.prog 62 #[.agg #[v], .agg #[u]] w fun e w' => e = .returned (.bool b) ∧ Below w.heap.size w w' := hb ▸ implEqualNames _ _ l m _ h g (by omega) (by omega)
theorem sEqV (b : Bool) (hb : eqB l m = b) (h : Holds Value.string w v l) (g : Holds Value.string w u m) (hl : l.length ≤ 9000000) (hm : m.length ≤ 9000000) :
    Calls Try.prog 63 #[.agg #[v], .agg #[u]] w fun e w' => e = .returned (.bool b) ∧ Below w.heap.size w w' := hb ▸ specEqualNames _ _ l m _ h g (by omega) (by omega)
theorem iCmpV (c : Int) (hc : cmpL l m = c) (h : Holds Value.string w v l) (g : Holds Value.string w u m) (hl : l.length ≤ 9000000) (hm : m.length ≤ 9000000) :
    Calls Try.prog 68 #[.agg #[v], .agg #[u]] w fun e w' => e = .returned (.int .i64 c) ∧ Below w.heap.size w w' := hc ▸ implCompareNames _ _ l m _ h g (by omega) (by omega)
theorem sCmpV (c : Int) (hc : cmpL l m = c) (h : Holds Value.string w v l) (g : Holds Value.string w u m) (hl : l.length ≤ 9000000) (hm : m.length ≤ 9000000) :
    Calls Try.prog 53 #[.agg #[v], .agg #[u]] w fun e w' => e = .returned (.int .i64 c) ∧ Below w.heap.size w w' := hc ▸ specCompareNames _ _ l m _ h g (by omega) (by omega)
theorem iHpV (b : Bool) (hb : hpB l m = b) (h : Holds Value.string w v l) (g : Holds Value.string w u m) (hl : l.length ≤ 9000000) (hm : m.length ≤ 9000000) :
    Calls Try.prog 32 #[.agg #[v], .agg #[u]] w fun e w' => e = .returned (.bool b) ∧ Below w.heap.size w w' := hb ▸ implHasPrefix _ _ l m _ h g (by omega) (by omega)
theorem sHpV (b : Bool) (hb : hpB l m = b) (h : Holds Value.string w v l) (g : Holds Value.string w u m) (hl : l.length ≤ 9000000) (hm : m.length ≤ 9000000) :
    Calls Try.prog 59 #[.agg #[v], .agg #[u]] w fun e w' => e = .returned (.bool b) ∧ Below w.heap.size w w' := hb ▸ specHasPrefix _ _ l m _ h g (by omega) (by omega)
theorem iValV (b : Bool) (hb : validN l = b) (h : Holds Value.string w v l) (hl : bulk l ≤ 9000000) :
    Calls Try.prog 67 #[.agg #[v]] w fun e w' => e = .returned (.bool b) ∧ Below w.heap.size w w' := hb ▸ implValidName _ l _ h (by omega)
theorem sValV (b : Bool) (hb : validN l = b) (h : Holds Value.string w v l) (hl : bulk l ≤ 9000000) :
    Calls Try.prog 69 #[.agg #[v]] w fun e w' => e = .returned (.bool b) ∧ Below w.heap.size w w' := hb ▸ specValidName _ l _ h (by omega)
end
/-- A variable of two cells is read behind a call. -/
theorem var2 {w w1 : World} {u0 u1 : Value} {t : TypeId} (hb : Below (w.alloc (.cells #[u0, u1] t)).heap.size (w.alloc (.cells #[u0, u1] t)) w1) : w1.cell? ⟨w.heap.size, 0, none⟩ = some u0 ∧ w1.cell? ⟨w.heap.size, 1, none⟩ = some u1 :=
  ⟨by rw [hb.cell (by simp), World.cell?_alloc_at _ _ _ _ rfl]; rfl, by rw [hb.cell (by simp), World.cell?_alloc_at _ _ _ _ rfl]; rfl⟩
end Go.Proofs.Ytihcebjbkifbpaa.Row
