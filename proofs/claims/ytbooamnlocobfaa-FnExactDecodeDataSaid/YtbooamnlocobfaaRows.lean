/-
  No cell of these rows narrows 'for every input' (looked for: loops, veiled, ifaces, maps, wideKeys, modest, calm, conditions, laid).
  DERIVED. THE GIVEN ROWS OF THIS SEAT. 8 by the template 'for every input the law returns true; each argument reads behind the call as it read before'; 0 by the template 'total and deterministic' (their statements: YtbooamnlocobfaaTotals.lean).
  GIVEN WITH THE SEED: the statements are not yours to turn. If you find one false, say at which input.
  Laid BY PROGRAM, IN A SANDBOX (cutbox-rows.mjs): the forced cells as the released guide's own fill.sh prints them over the translation 4405c025ff06f9aa… (all of the seat's roots in one cut). By AI agents, Wed Nov 11 2026. No macro, syntax, notation, axiom, sorry.
-/
import Derived.Test.YtbooamnlocobfaaChecked
import GoSem.Claim
import GoSem.ClaimJoined
import GoSem.ClaimMapViews
import Derived.JoinedTies
import Derived.KernelRfl
namespace Go.Proofs.Ytbooamnlocobfaa
/- THE CELL 'sum', in the pinned program and in every row, IS THE sha256 OF THE DUMP (.gsa) THAT YtbooamnlocobfaaProg.lean LOADS. Nothing in Lean hashes anything: it is a label: what it is worth is what the hold of that sum in a sandbox is worth. -/
noncomputable def Try.pinned : Pinned := { name := "ytbooamnlocobfaa", sum := "4405c025ff06f9aab7c7e570b801dbe880da1bb9ceeb050a8287181770e855d1", checked := Try.checked }
namespace Rows
def none {H : Type} : Left H := { results := [], args := [] }

/-- 'laws.FnExactValidData': WHATEVER THE INPUT: true; the input reads as it did. -/
def fnExactValidDataSpec : ChangeSpec := { name := "fnExactValidData", fn := fun _ => fun
  | [d] => { results := [.lit (.bool true)], args := [d] }
  | _ => none }
def fnExactValidDataRow : OpenClaim := { program := "ytbooamnlocobfaa", sum := "4405c025ff06f9aab7c7e570b801dbe880da1bb9ceeb050a8287181770e855d1", func := "loop.example/g00507/laws.FnExactValidData", spec := "fnExactValidData", apart := false }
def FnExactValidDataSaid : Prop := fnExactValidDataRow.holds Try.pinned (OpenSpec.ofChange fnExactValidDataSpec)

/-- ITS FALSE NEIGHBOUR: 'it returns false'. Refute it at one input. -/
def fnExactValidDataWrong : ChangeSpec := { name := "fnExactValidData", fn := fun _ => fun
  | [d] => { results := [.lit (.bool false)], args := [d] }
  | _ => none }
def FnExactValidDataWrongFalsely : Prop := fnExactValidDataRow.holds Try.pinned (OpenSpec.ofChange fnExactValidDataWrong)

/-- 'laws.FnExactSignedPortion': WHATEVER THE INPUT: true; the input reads as it did. -/
def fnExactSignedPortionSpec : ChangeSpec := { name := "fnExactSignedPortion", fn := fun _ => fun
  | [d] => { results := [.lit (.bool true)], args := [d] }
  | _ => none }
def fnExactSignedPortionRow : OpenClaim := { program := "ytbooamnlocobfaa", sum := "4405c025ff06f9aab7c7e570b801dbe880da1bb9ceeb050a8287181770e855d1", func := "loop.example/g00507/laws.FnExactSignedPortion", spec := "fnExactSignedPortion", apart := false }
def FnExactSignedPortionSaid : Prop := fnExactSignedPortionRow.holds Try.pinned (OpenSpec.ofChange fnExactSignedPortionSpec)

/-- ITS FALSE NEIGHBOUR: 'it returns false'. Refute it at one input. -/
def fnExactSignedPortionWrong : ChangeSpec := { name := "fnExactSignedPortion", fn := fun _ => fun
  | [d] => { results := [.lit (.bool false)], args := [d] }
  | _ => none }
def FnExactSignedPortionWrongFalsely : Prop := fnExactSignedPortionRow.holds Try.pinned (OpenSpec.ofChange fnExactSignedPortionWrong)

/-- 'laws.FnExactSignData': WHATEVER THE INPUT: true; the input reads as it did. -/
def fnExactSignDataSpec : ChangeSpec := { name := "fnExactSignData", fn := fun _ => fun
  | [d1, d2] => { results := [.lit (.bool true)], args := [d1, d2] }
  | _ => none }
def fnExactSignDataRow : OpenClaim := { program := "ytbooamnlocobfaa", sum := "4405c025ff06f9aab7c7e570b801dbe880da1bb9ceeb050a8287181770e855d1", func := "loop.example/g00507/laws.FnExactSignData", spec := "fnExactSignData", apart := false }
def FnExactSignDataSaid : Prop := fnExactSignDataRow.holds Try.pinned (OpenSpec.ofChange fnExactSignDataSpec)

/-- ITS FALSE NEIGHBOUR: 'it returns false'. Refute it at one input. -/
def fnExactSignDataWrong : ChangeSpec := { name := "fnExactSignData", fn := fun _ => fun
  | [d1, d2] => { results := [.lit (.bool false)], args := [d1, d2] }
  | _ => none }
def FnExactSignDataWrongFalsely : Prop := fnExactSignDataRow.holds Try.pinned (OpenSpec.ofChange fnExactSignDataWrong)

/-- 'laws.FnExactVerifyData': WHATEVER THE INPUT: true; the input reads as it did. -/
def fnExactVerifyDataSpec : ChangeSpec := { name := "fnExactVerifyData", fn := fun _ => fun
  | [d1, d2] => { results := [.lit (.bool true)], args := [d1, d2] }
  | _ => none }
def fnExactVerifyDataRow : OpenClaim := { program := "ytbooamnlocobfaa", sum := "4405c025ff06f9aab7c7e570b801dbe880da1bb9ceeb050a8287181770e855d1", func := "loop.example/g00507/laws.FnExactVerifyData", spec := "fnExactVerifyData", apart := false }
def FnExactVerifyDataSaid : Prop := fnExactVerifyDataRow.holds Try.pinned (OpenSpec.ofChange fnExactVerifyDataSpec)

/-- ITS FALSE NEIGHBOUR: 'it returns false'. Refute it at one input. -/
def fnExactVerifyDataWrong : ChangeSpec := { name := "fnExactVerifyData", fn := fun _ => fun
  | [d1, d2] => { results := [.lit (.bool false)], args := [d1, d2] }
  | _ => none }
def FnExactVerifyDataWrongFalsely : Prop := fnExactVerifyDataRow.holds Try.pinned (OpenSpec.ofChange fnExactVerifyDataWrong)

/-- 'laws.FnExactEncodeData': WHATEVER THE INPUT: true; the input reads as it did. -/
def fnExactEncodeDataSpec : ChangeSpec := { name := "fnExactEncodeData", fn := fun _ => fun
  | [d] => { results := [.lit (.bool true)], args := [d] }
  | _ => none }
def fnExactEncodeDataRow : OpenClaim := { program := "ytbooamnlocobfaa", sum := "4405c025ff06f9aab7c7e570b801dbe880da1bb9ceeb050a8287181770e855d1", func := "loop.example/g00507/laws.FnExactEncodeData", spec := "fnExactEncodeData", apart := false }
def FnExactEncodeDataSaid : Prop := fnExactEncodeDataRow.holds Try.pinned (OpenSpec.ofChange fnExactEncodeDataSpec)

/-- ITS FALSE NEIGHBOUR: 'it returns false'. Refute it at one input. -/
def fnExactEncodeDataWrong : ChangeSpec := { name := "fnExactEncodeData", fn := fun _ => fun
  | [d] => { results := [.lit (.bool false)], args := [d] }
  | _ => none }
def FnExactEncodeDataWrongFalsely : Prop := fnExactEncodeDataRow.holds Try.pinned (OpenSpec.ofChange fnExactEncodeDataWrong)

/-- 'laws.FnExactDecodeData': WHATEVER THE INPUT: true; the input reads as it did. -/
def fnExactDecodeDataSpec : ChangeSpec := { name := "fnExactDecodeData", fn := fun _ => fun
  | [d] => { results := [.lit (.bool true)], args := [d] }
  | _ => none }
def fnExactDecodeDataRow : OpenClaim := { program := "ytbooamnlocobfaa", sum := "4405c025ff06f9aab7c7e570b801dbe880da1bb9ceeb050a8287181770e855d1", func := "loop.example/g00507/laws.FnExactDecodeData", spec := "fnExactDecodeData", apart := false }
def FnExactDecodeDataSaid : Prop := fnExactDecodeDataRow.holds Try.pinned (OpenSpec.ofChange fnExactDecodeDataSpec)

/-- ITS FALSE NEIGHBOUR: 'it returns false'. Refute it at one input. -/
def fnExactDecodeDataWrong : ChangeSpec := { name := "fnExactDecodeData", fn := fun _ => fun
  | [d] => { results := [.lit (.bool false)], args := [d] }
  | _ => none }
def FnExactDecodeDataWrongFalsely : Prop := fnExactDecodeDataRow.holds Try.pinned (OpenSpec.ofChange fnExactDecodeDataWrong)

/-- 'laws.FnExactFreshAt': WHATEVER THE INPUT: true; the input reads as it did. -/
def fnExactFreshAtSpec : ChangeSpec := { name := "fnExactFreshAt", fn := fun _ => fun
  | [d1, d2] => { results := [.lit (.bool true)], args := [d1, d2] }
  | _ => none }
def fnExactFreshAtRow : OpenClaim := { program := "ytbooamnlocobfaa", sum := "4405c025ff06f9aab7c7e570b801dbe880da1bb9ceeb050a8287181770e855d1", func := "loop.example/g00507/laws.FnExactFreshAt", spec := "fnExactFreshAt", apart := false }
def FnExactFreshAtSaid : Prop := fnExactFreshAtRow.holds Try.pinned (OpenSpec.ofChange fnExactFreshAtSpec)

/-- ITS FALSE NEIGHBOUR: 'it returns false'. Refute it at one input. -/
def fnExactFreshAtWrong : ChangeSpec := { name := "fnExactFreshAt", fn := fun _ => fun
  | [d1, d2] => { results := [.lit (.bool false)], args := [d1, d2] }
  | _ => none }
def FnExactFreshAtWrongFalsely : Prop := fnExactFreshAtRow.holds Try.pinned (OpenSpec.ofChange fnExactFreshAtWrong)

/-- 'laws.FnExactEqualData': WHATEVER THE INPUT: true; the input reads as it did. -/
def fnExactEqualDataSpec : ChangeSpec := { name := "fnExactEqualData", fn := fun _ => fun
  | [d1, d2] => { results := [.lit (.bool true)], args := [d1, d2] }
  | _ => none }
def fnExactEqualDataRow : OpenClaim := { program := "ytbooamnlocobfaa", sum := "4405c025ff06f9aab7c7e570b801dbe880da1bb9ceeb050a8287181770e855d1", func := "loop.example/g00507/laws.FnExactEqualData", spec := "fnExactEqualData", apart := false }
def FnExactEqualDataSaid : Prop := fnExactEqualDataRow.holds Try.pinned (OpenSpec.ofChange fnExactEqualDataSpec)

/-- ITS FALSE NEIGHBOUR: 'it returns false'. Refute it at one input. -/
def fnExactEqualDataWrong : ChangeSpec := { name := "fnExactEqualData", fn := fun _ => fun
  | [d1, d2] => { results := [.lit (.bool false)], args := [d1, d2] }
  | _ => none }
def FnExactEqualDataWrongFalsely : Prop := fnExactEqualDataRow.holds Try.pinned (OpenSpec.ofChange fnExactEqualDataWrong)

/- THE SECOND FORM. 'bulk': how many values and letters a reading holds, each counted each time it is reached (what is shared counts as often as it is met; a slice's spare places count too). A statement '..UptoSaid' is the law's where the arguments, and the package variables that the reading takes, are together of bulk at most 1048576: NARROWER than '..Said'. Prove '..Said' where nothing that the law and all that it calls make is longer than what came in: it says more and counts as full. Else prove '..UptoSaid'. A law counts once. -/
mutual
def uptoBulk {H : Type} : DataW H → Nat
  | .lit (.string bytes) => bytes.length + 1
  | .lit _ => 1
  | .nil => 1
  | .ptr d => uptoBulk d + 1
  | .slice elems spare => uptoBulkAll elems + uptoBulkAll spare + 1
  | .agg parts => uptoBulkAll parts + 1
  | .iface _ d => uptoBulk d + 1
  | .map entries => uptoBulkEntries entries + 1
  | .held _ => 1
def uptoBulkAll {H : Type} : List (DataW H) → Nat
  | [] => 0
  | d :: r => uptoBulk d + uptoBulkAll r
def uptoBulkEntries {H : Type} : List (Lit × DataW H) → Nat
  | [] => 0
  | x :: r => uptoBulkEntry x + uptoBulkEntries r
def uptoBulkEntry {H : Type} : Lit × DataW H → Nat
  | (.string bytes, d) => bytes.length + uptoBulk d + 1
  | (_, d) => uptoBulk d + 1
 end
def uptoSmall : (H : Type) → List (DataW H) → Bool := fun _ ds => decide (uptoBulkAll ds ≤ 1048576)
def OpenSpec.upto (s : _root_.Go.ChangeSpec) : _root_.Go.OpenSpec := { _root_.Go.OpenSpec.ofChange s with cond := some uptoSmall }

/-- 'laws.FnExactValidData', WHERE WHAT IT READS IS OF BULK AT MOST 1048576: true; the input reads as it did. -/
def fnExactValidDataUptoRow : OpenClaim := { program := "ytbooamnlocobfaa", sum := "4405c025ff06f9aab7c7e570b801dbe880da1bb9ceeb050a8287181770e855d1", func := "loop.example/g00507/laws.FnExactValidData", spec := "fnExactValidData", apart := false, narrowed := true }
def FnExactValidDataUptoSaid : Prop := fnExactValidDataUptoRow.holds Try.pinned (OpenSpec.upto fnExactValidDataSpec)

/-- 'laws.FnExactSignedPortion', WHERE WHAT IT READS IS OF BULK AT MOST 1048576: true; the input reads as it did. -/
def fnExactSignedPortionUptoRow : OpenClaim := { program := "ytbooamnlocobfaa", sum := "4405c025ff06f9aab7c7e570b801dbe880da1bb9ceeb050a8287181770e855d1", func := "loop.example/g00507/laws.FnExactSignedPortion", spec := "fnExactSignedPortion", apart := false, narrowed := true }
def FnExactSignedPortionUptoSaid : Prop := fnExactSignedPortionUptoRow.holds Try.pinned (OpenSpec.upto fnExactSignedPortionSpec)

/-- 'laws.FnExactSignData', WHERE WHAT IT READS IS OF BULK AT MOST 1048576: true; the input reads as it did. -/
def fnExactSignDataUptoRow : OpenClaim := { program := "ytbooamnlocobfaa", sum := "4405c025ff06f9aab7c7e570b801dbe880da1bb9ceeb050a8287181770e855d1", func := "loop.example/g00507/laws.FnExactSignData", spec := "fnExactSignData", apart := false, narrowed := true }
def FnExactSignDataUptoSaid : Prop := fnExactSignDataUptoRow.holds Try.pinned (OpenSpec.upto fnExactSignDataSpec)

/-- 'laws.FnExactVerifyData', WHERE WHAT IT READS IS OF BULK AT MOST 1048576: true; the input reads as it did. -/
def fnExactVerifyDataUptoRow : OpenClaim := { program := "ytbooamnlocobfaa", sum := "4405c025ff06f9aab7c7e570b801dbe880da1bb9ceeb050a8287181770e855d1", func := "loop.example/g00507/laws.FnExactVerifyData", spec := "fnExactVerifyData", apart := false, narrowed := true }
def FnExactVerifyDataUptoSaid : Prop := fnExactVerifyDataUptoRow.holds Try.pinned (OpenSpec.upto fnExactVerifyDataSpec)

/-- 'laws.FnExactEncodeData', WHERE WHAT IT READS IS OF BULK AT MOST 1048576: true; the input reads as it did. -/
def fnExactEncodeDataUptoRow : OpenClaim := { program := "ytbooamnlocobfaa", sum := "4405c025ff06f9aab7c7e570b801dbe880da1bb9ceeb050a8287181770e855d1", func := "loop.example/g00507/laws.FnExactEncodeData", spec := "fnExactEncodeData", apart := false, narrowed := true }
def FnExactEncodeDataUptoSaid : Prop := fnExactEncodeDataUptoRow.holds Try.pinned (OpenSpec.upto fnExactEncodeDataSpec)

/-- 'laws.FnExactDecodeData', WHERE WHAT IT READS IS OF BULK AT MOST 1048576: true; the input reads as it did. -/
def fnExactDecodeDataUptoRow : OpenClaim := { program := "ytbooamnlocobfaa", sum := "4405c025ff06f9aab7c7e570b801dbe880da1bb9ceeb050a8287181770e855d1", func := "loop.example/g00507/laws.FnExactDecodeData", spec := "fnExactDecodeData", apart := false, narrowed := true }
def FnExactDecodeDataUptoSaid : Prop := fnExactDecodeDataUptoRow.holds Try.pinned (OpenSpec.upto fnExactDecodeDataSpec)

/-- 'laws.FnExactFreshAt', WHERE WHAT IT READS IS OF BULK AT MOST 1048576: true; the input reads as it did. -/
def fnExactFreshAtUptoRow : OpenClaim := { program := "ytbooamnlocobfaa", sum := "4405c025ff06f9aab7c7e570b801dbe880da1bb9ceeb050a8287181770e855d1", func := "loop.example/g00507/laws.FnExactFreshAt", spec := "fnExactFreshAt", apart := false, narrowed := true }
def FnExactFreshAtUptoSaid : Prop := fnExactFreshAtUptoRow.holds Try.pinned (OpenSpec.upto fnExactFreshAtSpec)

/-- 'laws.FnExactEqualData', WHERE WHAT IT READS IS OF BULK AT MOST 1048576: true; the input reads as it did. -/
def fnExactEqualDataUptoRow : OpenClaim := { program := "ytbooamnlocobfaa", sum := "4405c025ff06f9aab7c7e570b801dbe880da1bb9ceeb050a8287181770e855d1", func := "loop.example/g00507/laws.FnExactEqualData", spec := "fnExactEqualData", apart := false, narrowed := true }
def FnExactEqualDataUptoSaid : Prop := fnExactEqualDataUptoRow.holds Try.pinned (OpenSpec.upto fnExactEqualDataSpec)

end Rows
end Go.Proofs.Ytbooamnlocobfaa
