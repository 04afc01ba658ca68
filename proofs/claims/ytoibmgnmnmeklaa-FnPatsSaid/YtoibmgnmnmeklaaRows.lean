/-
  No cell of these rows narrows 'for every input' (looked for: loops, veiled, ifaces, maps, wideKeys, modest, calm, conditions, laid).
  DERIVED. THE GIVEN ROWS OF THIS SEAT. 8 by the template 'for every input the law returns true; each argument reads behind the call as it read before'; 0 by the template 'total and deterministic' (their statements: YtoibmgnmnmeklaaTotals.lean).
  GIVEN WITH THE SEED: the statements are not yours to turn. If you find one false, say at which input.
  Laid BY PROGRAM, IN A SANDBOX (cutbox-rows.mjs): the forced cells as the released guide's own fill.sh prints them over the translation c9ca84c0afd8daeb… (all of the seat's roots in one cut). By AI agents, Wed Nov 11 2026. No macro, syntax, notation, axiom, sorry.
-/
import Derived.Test.YtoibmgnmnmeklaaChecked
import GoSem.Claim
import GoSem.ClaimJoined
import GoSem.ClaimMapViews
import Derived.JoinedTies
import Derived.KernelRfl
namespace Go.Proofs.Ytoibmgnmnmeklaa
/- THE CELL 'sum', in the pinned program and in every row, IS THE sha256 OF THE DUMP (.gsa) THAT YtoibmgnmnmeklaaProg.lean LOADS. Nothing in Lean hashes anything: it is a label: what it is worth is what the hold of that sum in a sandbox is worth. -/
noncomputable def Try.pinned : Pinned := { name := "ytoibmgnmnmeklaa", sum := "c9ca84c0afd8daeb8edb6186e0e336a69f611b7025fcd926b436c2446e64e3a4", checked := Try.checked }
namespace Rows
def none {H : Type} : Left H := { results := [], args := [] }

/-- 'laws.FnPats': WHATEVER THE INPUT: true; the input reads as it did. -/
def fnPatsSpec : ChangeSpec := { name := "fnPats", fn := fun _ => fun
  | [d] => { results := [.lit (.bool true)], args := [d] }
  | _ => none }
def fnPatsRow : OpenClaim := { program := "ytoibmgnmnmeklaa", sum := "c9ca84c0afd8daeb8edb6186e0e336a69f611b7025fcd926b436c2446e64e3a4", func := "loop.example/g00507/laws.FnPats", spec := "fnPats", inPlace := ["internal/abi.NoEscape", "internal/bytealg.MakeNoZero"], unfollowed := true, recurses := true, apart := false }
def FnPatsSaid : Prop := fnPatsRow.holds Try.pinned (OpenSpec.ofChange fnPatsSpec)

/-- ITS FALSE NEIGHBOUR: 'it returns false'. Refute it at one input. -/
def fnPatsWrong : ChangeSpec := { name := "fnPats", fn := fun _ => fun
  | [d] => { results := [.lit (.bool false)], args := [d] }
  | _ => none }
def FnPatsWrongFalsely : Prop := fnPatsRow.holds Try.pinned (OpenSpec.ofChange fnPatsWrong)

/-- 'laws.FnExactValidPattern': WHATEVER THE INPUT: true; the input reads as it did. -/
def fnExactValidPatternSpec : ChangeSpec := { name := "fnExactValidPattern", fn := fun _ => fun
  | [d] => { results := [.lit (.bool true)], args := [d] }
  | _ => none }
def fnExactValidPatternRow : OpenClaim := { program := "ytoibmgnmnmeklaa", sum := "c9ca84c0afd8daeb8edb6186e0e336a69f611b7025fcd926b436c2446e64e3a4", func := "loop.example/g00507/laws.FnExactValidPattern", spec := "fnExactValidPattern", apart := false }
def FnExactValidPatternSaid : Prop := fnExactValidPatternRow.holds Try.pinned (OpenSpec.ofChange fnExactValidPatternSpec)

/-- ITS FALSE NEIGHBOUR: 'it returns false'. Refute it at one input. -/
def fnExactValidPatternWrong : ChangeSpec := { name := "fnExactValidPattern", fn := fun _ => fun
  | [d] => { results := [.lit (.bool false)], args := [d] }
  | _ => none }
def FnExactValidPatternWrongFalsely : Prop := fnExactValidPatternRow.holds Try.pinned (OpenSpec.ofChange fnExactValidPatternWrong)

/-- 'laws.FnExactMatch': WHATEVER THE INPUT: true; the input reads as it did. -/
def fnExactMatchSpec : ChangeSpec := { name := "fnExactMatch", fn := fun _ => fun
  | [d1, d2, d3] => { results := [.lit (.bool true)], args := [d1, d2, d3] }
  | _ => none }
def fnExactMatchRow : OpenClaim := { program := "ytoibmgnmnmeklaa", sum := "c9ca84c0afd8daeb8edb6186e0e336a69f611b7025fcd926b436c2446e64e3a4", func := "loop.example/g00507/laws.FnExactMatch", spec := "fnExactMatch", unfollowed := true, recurses := true, apart := false }
def FnExactMatchSaid : Prop := fnExactMatchRow.holds Try.pinned (OpenSpec.ofChange fnExactMatchSpec)

/-- ITS FALSE NEIGHBOUR: 'it returns false'. Refute it at one input. -/
def fnExactMatchWrong : ChangeSpec := { name := "fnExactMatch", fn := fun _ => fun
  | [d1, d2, d3] => { results := [.lit (.bool false)], args := [d1, d2, d3] }
  | _ => none }
def FnExactMatchWrongFalsely : Prop := fnExactMatchRow.holds Try.pinned (OpenSpec.ofChange fnExactMatchWrong)

/-- 'laws.FnExactMatches': WHATEVER THE INPUT: true; the input reads as it did. -/
def fnExactMatchesSpec : ChangeSpec := { name := "fnExactMatches", fn := fun _ => fun
  | [d1, d2] => { results := [.lit (.bool true)], args := [d1, d2] }
  | _ => none }
def fnExactMatchesRow : OpenClaim := { program := "ytoibmgnmnmeklaa", sum := "c9ca84c0afd8daeb8edb6186e0e336a69f611b7025fcd926b436c2446e64e3a4", func := "loop.example/g00507/laws.FnExactMatches", spec := "fnExactMatches", unfollowed := true, recurses := true, apart := false }
def FnExactMatchesSaid : Prop := fnExactMatchesRow.holds Try.pinned (OpenSpec.ofChange fnExactMatchesSpec)

/-- ITS FALSE NEIGHBOUR: 'it returns false'. Refute it at one input. -/
def fnExactMatchesWrong : ChangeSpec := { name := "fnExactMatches", fn := fun _ => fun
  | [d1, d2] => { results := [.lit (.bool false)], args := [d1, d2] }
  | _ => none }
def FnExactMatchesWrongFalsely : Prop := fnExactMatchesRow.holds Try.pinned (OpenSpec.ofChange fnExactMatchesWrong)

/-- 'laws.FnExactBindingValue': WHATEVER THE INPUT: true; the input reads as it did. -/
def fnExactBindingValueSpec : ChangeSpec := { name := "fnExactBindingValue", fn := fun _ => fun
  | [d1, d2] => { results := [.lit (.bool true)], args := [d1, d2] }
  | _ => none }
def fnExactBindingValueRow : OpenClaim := { program := "ytoibmgnmnmeklaa", sum := "c9ca84c0afd8daeb8edb6186e0e336a69f611b7025fcd926b436c2446e64e3a4", func := "loop.example/g00507/laws.FnExactBindingValue", spec := "fnExactBindingValue", unfollowed := true, recurses := true, apart := false }
def FnExactBindingValueSaid : Prop := fnExactBindingValueRow.holds Try.pinned (OpenSpec.ofChange fnExactBindingValueSpec)

/-- ITS FALSE NEIGHBOUR: 'it returns false'. Refute it at one input. -/
def fnExactBindingValueWrong : ChangeSpec := { name := "fnExactBindingValue", fn := fun _ => fun
  | [d1, d2] => { results := [.lit (.bool false)], args := [d1, d2] }
  | _ => none }
def FnExactBindingValueWrongFalsely : Prop := fnExactBindingValueRow.holds Try.pinned (OpenSpec.ofChange fnExactBindingValueWrong)

/-- 'laws.FnExactFormatPattern': WHATEVER THE INPUT: true; the input reads as it did. -/
def fnExactFormatPatternSpec : ChangeSpec := { name := "fnExactFormatPattern", fn := fun _ => fun
  | [d] => { results := [.lit (.bool true)], args := [d] }
  | _ => none }
def fnExactFormatPatternRow : OpenClaim := { program := "ytoibmgnmnmeklaa", sum := "c9ca84c0afd8daeb8edb6186e0e336a69f611b7025fcd926b436c2446e64e3a4", func := "loop.example/g00507/laws.FnExactFormatPattern", spec := "fnExactFormatPattern", inPlace := ["internal/abi.NoEscape", "internal/bytealg.MakeNoZero"], apart := false }
def FnExactFormatPatternSaid : Prop := fnExactFormatPatternRow.holds Try.pinned (OpenSpec.ofChange fnExactFormatPatternSpec)

/-- ITS FALSE NEIGHBOUR: 'it returns false'. Refute it at one input. -/
def fnExactFormatPatternWrong : ChangeSpec := { name := "fnExactFormatPattern", fn := fun _ => fun
  | [d] => { results := [.lit (.bool false)], args := [d] }
  | _ => none }
def FnExactFormatPatternWrongFalsely : Prop := fnExactFormatPatternRow.holds Try.pinned (OpenSpec.ofChange fnExactFormatPatternWrong)

/-- 'laws.FnExactParsePattern': WHATEVER THE INPUT: true; the input reads as it did. -/
def fnExactParsePatternSpec : ChangeSpec := { name := "fnExactParsePattern", fn := fun _ => fun
  | [d] => { results := [.lit (.bool true)], args := [d] }
  | _ => none }
def fnExactParsePatternRow : OpenClaim := { program := "ytoibmgnmnmeklaa", sum := "c9ca84c0afd8daeb8edb6186e0e336a69f611b7025fcd926b436c2446e64e3a4", func := "loop.example/g00507/laws.FnExactParsePattern", spec := "fnExactParsePattern", inPlace := ["internal/abi.NoEscape", "internal/bytealg.MakeNoZero"], apart := false }
def FnExactParsePatternSaid : Prop := fnExactParsePatternRow.holds Try.pinned (OpenSpec.ofChange fnExactParsePatternSpec)

/-- ITS FALSE NEIGHBOUR: 'it returns false'. Refute it at one input. -/
def fnExactParsePatternWrong : ChangeSpec := { name := "fnExactParsePattern", fn := fun _ => fun
  | [d] => { results := [.lit (.bool false)], args := [d] }
  | _ => none }
def FnExactParsePatternWrongFalsely : Prop := fnExactParsePatternRow.holds Try.pinned (OpenSpec.ofChange fnExactParsePatternWrong)

/-- 'laws.FnExactInstantiate': WHATEVER THE INPUT: true; the input reads as it did. -/
def fnExactInstantiateSpec : ChangeSpec := { name := "fnExactInstantiate", fn := fun _ => fun
  | [d1, d2] => { results := [.lit (.bool true)], args := [d1, d2] }
  | _ => none }
def fnExactInstantiateRow : OpenClaim := { program := "ytoibmgnmnmeklaa", sum := "c9ca84c0afd8daeb8edb6186e0e336a69f611b7025fcd926b436c2446e64e3a4", func := "loop.example/g00507/laws.FnExactInstantiate", spec := "fnExactInstantiate", unfollowed := true, recurses := true, apart := false }
def FnExactInstantiateSaid : Prop := fnExactInstantiateRow.holds Try.pinned (OpenSpec.ofChange fnExactInstantiateSpec)

/-- ITS FALSE NEIGHBOUR: 'it returns false'. Refute it at one input. -/
def fnExactInstantiateWrong : ChangeSpec := { name := "fnExactInstantiate", fn := fun _ => fun
  | [d1, d2] => { results := [.lit (.bool false)], args := [d1, d2] }
  | _ => none }
def FnExactInstantiateWrongFalsely : Prop := fnExactInstantiateRow.holds Try.pinned (OpenSpec.ofChange fnExactInstantiateWrong)

/- THE SECOND FORM. 'bulk': how many values and letters a reading holds, each counted each time it is reached (what is shared counts as often as it is met; a slice's spare places count too). A statement '..UptoSaid' is the law's where the arguments, and the package variables that the reading takes, are together of bulk at most 1048576: NARROWER than '..Said'. Prove '..Said' where nothing that the law and all that it calls make is longer than what came in: it says more and counts as full. Else prove '..UptoSaid'. A law counts once. -/
mutual
def uptoBulk {H : Type} : DataW H → Nat
  | .lit (.string bytes) => bytes.length + 1
  | .lit _ => 1
  | .nil => 1
  | .ptr d => uptoBulk d + 1
  | .slice elems spare => uptoBulkAll elems + uptoBulkAll spare + 1
  | .agg parts => uptoBulkAll parts + 1
  | .iface _ d => uptoBulk d + 1
  | .map entries => uptoBulkEntries entries + 1
  | .held _ => 1
def uptoBulkAll {H : Type} : List (DataW H) → Nat
  | [] => 0
  | d :: r => uptoBulk d + uptoBulkAll r
def uptoBulkEntries {H : Type} : List (Lit × DataW H) → Nat
  | [] => 0
  | x :: r => uptoBulkEntry x + uptoBulkEntries r
def uptoBulkEntry {H : Type} : Lit × DataW H → Nat
  | (.string bytes, d) => bytes.length + uptoBulk d + 1
  | (_, d) => uptoBulk d + 1
 end
def uptoSmall : (H : Type) → List (DataW H) → Bool := fun _ ds => decide (uptoBulkAll ds ≤ 1048576)
def OpenSpec.upto (s : _root_.Go.ChangeSpec) : _root_.Go.OpenSpec := { _root_.Go.OpenSpec.ofChange s with cond := some uptoSmall }

/-- 'laws.FnPats', WHERE WHAT IT READS IS OF BULK AT MOST 1048576: true; the input reads as it did. -/
def fnPatsUptoRow : OpenClaim := { program := "ytoibmgnmnmeklaa", sum := "c9ca84c0afd8daeb8edb6186e0e336a69f611b7025fcd926b436c2446e64e3a4", func := "loop.example/g00507/laws.FnPats", spec := "fnPats", inPlace := ["internal/abi.NoEscape", "internal/bytealg.MakeNoZero"], unfollowed := true, recurses := true, apart := false, narrowed := true }
def FnPatsUptoSaid : Prop := fnPatsUptoRow.holds Try.pinned (OpenSpec.upto fnPatsSpec)

/-- 'laws.FnExactValidPattern', WHERE WHAT IT READS IS OF BULK AT MOST 1048576: true; the input reads as it did. -/
def fnExactValidPatternUptoRow : OpenClaim := { program := "ytoibmgnmnmeklaa", sum := "c9ca84c0afd8daeb8edb6186e0e336a69f611b7025fcd926b436c2446e64e3a4", func := "loop.example/g00507/laws.FnExactValidPattern", spec := "fnExactValidPattern", apart := false, narrowed := true }
def FnExactValidPatternUptoSaid : Prop := fnExactValidPatternUptoRow.holds Try.pinned (OpenSpec.upto fnExactValidPatternSpec)

/-- 'laws.FnExactMatch', WHERE WHAT IT READS IS OF BULK AT MOST 1048576: true; the input reads as it did. -/
def fnExactMatchUptoRow : OpenClaim := { program := "ytoibmgnmnmeklaa", sum := "c9ca84c0afd8daeb8edb6186e0e336a69f611b7025fcd926b436c2446e64e3a4", func := "loop.example/g00507/laws.FnExactMatch", spec := "fnExactMatch", unfollowed := true, recurses := true, apart := false, narrowed := true }
def FnExactMatchUptoSaid : Prop := fnExactMatchUptoRow.holds Try.pinned (OpenSpec.upto fnExactMatchSpec)

/-- 'laws.FnExactMatches', WHERE WHAT IT READS IS OF BULK AT MOST 1048576: true; the input reads as it did. -/
def fnExactMatchesUptoRow : OpenClaim := { program := "ytoibmgnmnmeklaa", sum := "c9ca84c0afd8daeb8edb6186e0e336a69f611b7025fcd926b436c2446e64e3a4", func := "loop.example/g00507/laws.FnExactMatches", spec := "fnExactMatches", unfollowed := true, recurses := true, apart := false, narrowed := true }
def FnExactMatchesUptoSaid : Prop := fnExactMatchesUptoRow.holds Try.pinned (OpenSpec.upto fnExactMatchesSpec)

/-- 'laws.FnExactBindingValue', WHERE WHAT IT READS IS OF BULK AT MOST 1048576: true; the input reads as it did. -/
def fnExactBindingValueUptoRow : OpenClaim := { program := "ytoibmgnmnmeklaa", sum := "c9ca84c0afd8daeb8edb6186e0e336a69f611b7025fcd926b436c2446e64e3a4", func := "loop.example/g00507/laws.FnExactBindingValue", spec := "fnExactBindingValue", unfollowed := true, recurses := true, apart := false, narrowed := true }
def FnExactBindingValueUptoSaid : Prop := fnExactBindingValueUptoRow.holds Try.pinned (OpenSpec.upto fnExactBindingValueSpec)

/-- 'laws.FnExactFormatPattern', WHERE WHAT IT READS IS OF BULK AT MOST 1048576: true; the input reads as it did. -/
def fnExactFormatPatternUptoRow : OpenClaim := { program := "ytoibmgnmnmeklaa", sum := "c9ca84c0afd8daeb8edb6186e0e336a69f611b7025fcd926b436c2446e64e3a4", func := "loop.example/g00507/laws.FnExactFormatPattern", spec := "fnExactFormatPattern", inPlace := ["internal/abi.NoEscape", "internal/bytealg.MakeNoZero"], apart := false, narrowed := true }
def FnExactFormatPatternUptoSaid : Prop := fnExactFormatPatternUptoRow.holds Try.pinned (OpenSpec.upto fnExactFormatPatternSpec)

/-- 'laws.FnExactParsePattern', WHERE WHAT IT READS IS OF BULK AT MOST 1048576: true; the input reads as it did. -/
def fnExactParsePatternUptoRow : OpenClaim := { program := "ytoibmgnmnmeklaa", sum := "c9ca84c0afd8daeb8edb6186e0e336a69f611b7025fcd926b436c2446e64e3a4", func := "loop.example/g00507/laws.FnExactParsePattern", spec := "fnExactParsePattern", inPlace := ["internal/abi.NoEscape", "internal/bytealg.MakeNoZero"], apart := false, narrowed := true }
def FnExactParsePatternUptoSaid : Prop := fnExactParsePatternUptoRow.holds Try.pinned (OpenSpec.upto fnExactParsePatternSpec)

/-- 'laws.FnExactInstantiate', WHERE WHAT IT READS IS OF BULK AT MOST 1048576: true; the input reads as it did. -/
def fnExactInstantiateUptoRow : OpenClaim := { program := "ytoibmgnmnmeklaa", sum := "c9ca84c0afd8daeb8edb6186e0e336a69f611b7025fcd926b436c2446e64e3a4", func := "loop.example/g00507/laws.FnExactInstantiate", spec := "fnExactInstantiate", unfollowed := true, recurses := true, apart := false, narrowed := true }
def FnExactInstantiateUptoSaid : Prop := fnExactInstantiateUptoRow.holds Try.pinned (OpenSpec.upto fnExactInstantiateSpec)

end Rows
end Go.Proofs.Ytoibmgnmnmeklaa
