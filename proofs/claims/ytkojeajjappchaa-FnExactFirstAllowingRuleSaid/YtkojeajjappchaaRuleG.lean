/- The program's chapter 10: FirstAllowingRule's call of a function value, in whatever order its loads are drawn. No conditions. -/
import Derived.WalkKit
import Derived.Deep.RegionHeld3
import Derived.Test.YtkojeajjappchaaRuleC
namespace Go.Proofs.Ytkojeajjappchaa.Row
open Go.ChangeShapes Go.WideShapes Go.ChangeAt Go.RowKit Go.Instr
open Go.Shelf
set_option linter.unusedVariables false
attribute [local go_sem] Oper.semAt_some
set_option maxRecDepth 100000

set_option maxHeartbeats 8000000 in
theorem far8n {Q : Exit → Act → World → Prop} {v0 v1 v2 v3 v6 v7 v8 v11 v12 v13 v14 v15 v16 v17 v18 v19 v20 v21 v22 v23 v24 v25 v26 v27 v28 v29 v30 v31 v32 v33 v34 : Value} {q s0 s1 g k nn cn nb cb : Nat} {xn xb : Option Addr} {w : World}  (hk : k < 8) (C0 : Hid (w.cell? ⟨s0, 0, none⟩ = some (.slice xn nn cn))) (C1 : Hid (w.cell? ⟨s1, 0, none⟩ = some (.slice xb nb cb))) (C2 : Hid (w.cell? ⟨g, k, none⟩ = some (.func (.func 72) #[] #[])))
    (hQ : ∀ (u21 u22 u23 u24 u25 : Value) (wx : World), Below w.heap.size w wx → Q .normal ⟨#[v0, v1, v2, v3, .pointer (some ⟨s0, 0, none⟩), .pointer (some ⟨s1, 0, none⟩), v6, v7, v8, .pointer (some ⟨g, 0, none⟩), .int .i64 k, v11, v12, v13, v14, v15, v16, v17, v18, v19, v20, u21, u22, u23, u24, u25, .bool false, v27, v28, v29, v30, v31, v32, v33, v34], []⟩ wx) :
    (Code.region 8 #[{ dst := some 21, op := Op.move (Operand.tmp 10), type := 3, pos := "l10_rule.go:72", after := #[], guard := none },
      { dst := some 22, op := Op.indexAddr 74 (Operand.tmp 9) (Operand.tmp 21), type := 0, pos := "l10_rule.go:72", after := #[{ on := 0, ground := Ground.data }], guard := none },
      { dst := some 23, op := Op.load 68 (Operand.tmp 22), type := 68, pos := "l10_rule.go:72", after := #[{ on := 1, ground := Ground.data }], guard := none },
      { dst := some 24, op := Op.load 45 (Operand.tmp 4), type := 45, pos := "l10_rule.go:72", after := #[], guard := none },
      { dst := some 25, op := Op.load 45 (Operand.tmp 5), type := 45, pos := "l10_rule.go:72", after := #[], guard := none },
      { dst := some 26, op := Op.call { callee := Callee.value (Operand.tmp 23), args := #[Operand.tmp 24, Operand.tmp 25], argTypes := #[45, 45] }, type := 4, pos := "l10_rule.go:72", after := #[{ on := 2, ground := Ground.data }, { on := 3, ground := Ground.data }, { on := 4, ground := Ground.data }], guard := none }] true).wpIn (Fence.wide.inRound q) (3 - 1 - 1) Try.prog Q ⟨#[v0, v1, v2, v3, .pointer (some ⟨s0, 0, none⟩), .pointer (some ⟨s1, 0, none⟩), v6, v7, v8, .pointer (some ⟨g, 0, none⟩), .int .i64 k, v11, v12, v13, v14, v15, v16, v17, v18, v19, v20, v21, v22, v23, v24, v25, v26, v27, v28, v29, v30, v31, v32, v33, v34], []⟩ w := by
  have HQ := Lib.hid hQ; clear hQ
  have hmx : Try.prog.follows .mixedOrders = true := by kernel_rfl
  have HDR := Lib.hid (show Below w.heap.size w w.drew from (Below.refl _ _).drew)
  have c0 := C0.out; have c1 := C1.out; have c2 := C2.out
  gi_region_with_o (refine ⟨trivial, ?_⟩; gi_at_call 72; refine (CallsIn.inRound q (callsIn_wide.2 (allowNo _ _ _ _ _ _ _))).mono ?_; rintro e v3 ⟨rfl, hb3⟩)
  all_goals exact HQ.out _ _ _ _ _ _ (HDR.out.trans (hb3.mono HDR.out.size))
end Go.Proofs.Ytkojeajjappchaa.Row
