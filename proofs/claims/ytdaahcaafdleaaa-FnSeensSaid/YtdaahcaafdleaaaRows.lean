/-
  No cell of these rows narrows 'for every input' (looked for: loops, veiled, ifaces, maps, wideKeys, modest, calm, conditions, laid).
  DERIVED. THE GIVEN ROWS OF THIS SEAT. 5 by the template 'for every input the law returns true; each argument reads behind the call as it read before'; 0 by the template 'total and deterministic' (their statements: YtdaahcaafdleaaaTotals.lean).
  GIVEN WITH THE SEED: the statements are not yours to turn. If you find one false, say at which input.
  Laid BY PROGRAM, IN A SANDBOX (cutbox-rows.mjs): the forced cells as the released guide's own fill.sh prints them over the translation 57b65a147c18dada… (all of the seat's roots in one cut). By AI agents, Wed Nov 11 2026. No macro, syntax, notation, axiom, sorry.
-/
import Derived.Test.YtdaahcaafdleaaaChecked
import GoSem.Claim
import GoSem.ClaimJoined
import GoSem.ClaimMapViews
import Derived.JoinedTies
import Derived.KernelRfl
namespace Go.Proofs.Ytdaahcaafdleaaa
/- THE CELL 'sum', in the pinned program and in every row, IS THE sha256 OF THE DUMP (.gsa) THAT YtdaahcaafdleaaaProg.lean LOADS. Nothing in Lean hashes anything: it is a label: what it is worth is what the hold of that sum in a sandbox is worth. -/
noncomputable def Try.pinned : Pinned := { name := "ytdaahcaafdleaaa", sum := "57b65a147c18dada0c515134f348d6191cacba68ded368951f713a49ee72e0e6", checked := Try.checked }
namespace Rows
def none {H : Type} : Left H := { results := [], args := [] }

/-- 'laws.FnSeens': WHATEVER THE INPUT: true; the input reads as it did. -/
def fnSeensSpec : ChangeSpec := { name := "fnSeens", fn := fun _ => fun
  | [d] => { results := [.lit (.bool true)], args := [d] }
  | _ => none }
def fnSeensRow : OpenClaim := { program := "ytdaahcaafdleaaa", sum := "57b65a147c18dada0c515134f348d6191cacba68ded368951f713a49ee72e0e6", func := "loop.example/g00507/laws.FnSeens", spec := "fnSeens", unfollowed := true, recurses := true, plainKeys := false, apart := false }
def FnSeensSaid : Prop := fnSeensRow.holds Try.pinned (OpenSpec.ofChange fnSeensSpec)

/-- ITS FALSE NEIGHBOUR: 'it returns false'. Refute it at one input. -/
def fnSeensWrong : ChangeSpec := { name := "fnSeens", fn := fun _ => fun
  | [d] => { results := [.lit (.bool false)], args := [d] }
  | _ => none }
def FnSeensWrongFalsely : Prop := fnSeensRow.holds Try.pinned (OpenSpec.ofChange fnSeensWrong)

/-- 'laws.FnExactValidRoutes': WHATEVER THE INPUT: true; the input reads as it did. -/
def fnExactValidRoutesSpec : ChangeSpec := { name := "fnExactValidRoutes", fn := fun _ => fun
  | [d] => { results := [.lit (.bool true)], args := [d] }
  | _ => none }
def fnExactValidRoutesRow : OpenClaim := { program := "ytdaahcaafdleaaa", sum := "57b65a147c18dada0c515134f348d6191cacba68ded368951f713a49ee72e0e6", func := "loop.example/g00507/laws.FnExactValidRoutes", spec := "fnExactValidRoutes", plainKeys := false, apart := false }
def FnExactValidRoutesSaid : Prop := fnExactValidRoutesRow.holds Try.pinned (OpenSpec.ofChange fnExactValidRoutesSpec)

/-- ITS FALSE NEIGHBOUR: 'it returns false'. Refute it at one input. -/
def fnExactValidRoutesWrong : ChangeSpec := { name := "fnExactValidRoutes", fn := fun _ => fun
  | [d] => { results := [.lit (.bool false)], args := [d] }
  | _ => none }
def FnExactValidRoutesWrongFalsely : Prop := fnExactValidRoutesRow.holds Try.pinned (OpenSpec.ofChange fnExactValidRoutesWrong)

/-- 'laws.FnExactAddRoute': WHATEVER THE INPUT: true; the input reads as it did. -/
def fnExactAddRouteSpec : ChangeSpec := { name := "fnExactAddRoute", fn := fun _ => fun
  | [d1, d2] => { results := [.lit (.bool true)], args := [d1, d2] }
  | _ => none }
def fnExactAddRouteRow : OpenClaim := { program := "ytdaahcaafdleaaa", sum := "57b65a147c18dada0c515134f348d6191cacba68ded368951f713a49ee72e0e6", func := "loop.example/g00507/laws.FnExactAddRoute", spec := "fnExactAddRoute", plainKeys := false, apart := false }
def FnExactAddRouteSaid : Prop := fnExactAddRouteRow.holds Try.pinned (OpenSpec.ofChange fnExactAddRouteSpec)

/-- ITS FALSE NEIGHBOUR: 'it returns false'. Refute it at one input. -/
def fnExactAddRouteWrong : ChangeSpec := { name := "fnExactAddRoute", fn := fun _ => fun
  | [d1, d2] => { results := [.lit (.bool false)], args := [d1, d2] }
  | _ => none }
def FnExactAddRouteWrongFalsely : Prop := fnExactAddRouteRow.holds Try.pinned (OpenSpec.ofChange fnExactAddRouteWrong)

/-- 'laws.FnExactRemoveFace': WHATEVER THE INPUT: true; the input reads as it did. -/
def fnExactRemoveFaceSpec : ChangeSpec := { name := "fnExactRemoveFace", fn := fun _ => fun
  | [d1, d2] => { results := [.lit (.bool true)], args := [d1, d2] }
  | _ => none }
def fnExactRemoveFaceRow : OpenClaim := { program := "ytdaahcaafdleaaa", sum := "57b65a147c18dada0c515134f348d6191cacba68ded368951f713a49ee72e0e6", func := "loop.example/g00507/laws.FnExactRemoveFace", spec := "fnExactRemoveFace", unfollowed := true, recurses := true, plainKeys := false, apart := false }
def FnExactRemoveFaceSaid : Prop := fnExactRemoveFaceRow.holds Try.pinned (OpenSpec.ofChange fnExactRemoveFaceSpec)

/-- ITS FALSE NEIGHBOUR: 'it returns false'. Refute it at one input. -/
def fnExactRemoveFaceWrong : ChangeSpec := { name := "fnExactRemoveFace", fn := fun _ => fun
  | [d1, d2] => { results := [.lit (.bool false)], args := [d1, d2] }
  | _ => none }
def FnExactRemoveFaceWrongFalsely : Prop := fnExactRemoveFaceRow.holds Try.pinned (OpenSpec.ofChange fnExactRemoveFaceWrong)

/-- 'laws.FnExactMatchingPrefix': WHATEVER THE INPUT: true; the input reads as it did. -/
def fnExactMatchingPrefixSpec : ChangeSpec := { name := "fnExactMatchingPrefix", fn := fun _ => fun
  | [d1, d2] => { results := [.lit (.bool true)], args := [d1, d2] }
  | _ => none }
def fnExactMatchingPrefixRow : OpenClaim := { program := "ytdaahcaafdleaaa", sum := "57b65a147c18dada0c515134f348d6191cacba68ded368951f713a49ee72e0e6", func := "loop.example/g00507/laws.FnExactMatchingPrefix", spec := "fnExactMatchingPrefix", plainKeys := false, apart := false }
def FnExactMatchingPrefixSaid : Prop := fnExactMatchingPrefixRow.holds Try.pinned (OpenSpec.ofChange fnExactMatchingPrefixSpec)

/-- ITS FALSE NEIGHBOUR: 'it returns false'. Refute it at one input. -/
def fnExactMatchingPrefixWrong : ChangeSpec := { name := "fnExactMatchingPrefix", fn := fun _ => fun
  | [d1, d2] => { results := [.lit (.bool false)], args := [d1, d2] }
  | _ => none }
def FnExactMatchingPrefixWrongFalsely : Prop := fnExactMatchingPrefixRow.holds Try.pinned (OpenSpec.ofChange fnExactMatchingPrefixWrong)

/- THE SECOND FORM. 'bulk': how many values and letters a reading holds, each counted each time it is reached (what is shared counts as often as it is met; a slice's spare places count too). A statement '..UptoSaid' is the law's where the arguments, and the package variables that the reading takes, are together of bulk at most 1048576: NARROWER than '..Said'. Prove '..Said' where nothing that the law and all that it calls make is longer than what came in: it says more and counts as full. Else prove '..UptoSaid'. A law counts once. -/
mutual
def uptoBulk {H : Type} : DataW H → Nat
  | .lit (.string bytes) => bytes.length + 1
  | .lit _ => 1
  | .nil => 1
  | .ptr d => uptoBulk d + 1
  | .slice elems spare => uptoBulkAll elems + uptoBulkAll spare + 1
  | .agg parts => uptoBulkAll parts + 1
  | .iface _ d => uptoBulk d + 1
  | .map entries => uptoBulkEntries entries + 1
  | .held _ => 1
def uptoBulkAll {H : Type} : List (DataW H) → Nat
  | [] => 0
  | d :: r => uptoBulk d + uptoBulkAll r
def uptoBulkEntries {H : Type} : List (Lit × DataW H) → Nat
  | [] => 0
  | x :: r => uptoBulkEntry x + uptoBulkEntries r
def uptoBulkEntry {H : Type} : Lit × DataW H → Nat
  | (.string bytes, d) => bytes.length + uptoBulk d + 1
  | (_, d) => uptoBulk d + 1
 end
def uptoSmall : (H : Type) → List (DataW H) → Bool := fun _ ds => decide (uptoBulkAll ds ≤ 1048576)
def OpenSpec.upto (s : _root_.Go.ChangeSpec) : _root_.Go.OpenSpec := { _root_.Go.OpenSpec.ofChange s with cond := some uptoSmall }

/-- 'laws.FnSeens', WHERE WHAT IT READS IS OF BULK AT MOST 1048576: true; the input reads as it did. -/
def fnSeensUptoRow : OpenClaim := { program := "ytdaahcaafdleaaa", sum := "57b65a147c18dada0c515134f348d6191cacba68ded368951f713a49ee72e0e6", func := "loop.example/g00507/laws.FnSeens", spec := "fnSeens", unfollowed := true, recurses := true, plainKeys := false, apart := false, narrowed := true }
def FnSeensUptoSaid : Prop := fnSeensUptoRow.holds Try.pinned (OpenSpec.upto fnSeensSpec)

/-- 'laws.FnExactValidRoutes', WHERE WHAT IT READS IS OF BULK AT MOST 1048576: true; the input reads as it did. -/
def fnExactValidRoutesUptoRow : OpenClaim := { program := "ytdaahcaafdleaaa", sum := "57b65a147c18dada0c515134f348d6191cacba68ded368951f713a49ee72e0e6", func := "loop.example/g00507/laws.FnExactValidRoutes", spec := "fnExactValidRoutes", plainKeys := false, apart := false, narrowed := true }
def FnExactValidRoutesUptoSaid : Prop := fnExactValidRoutesUptoRow.holds Try.pinned (OpenSpec.upto fnExactValidRoutesSpec)

/-- 'laws.FnExactAddRoute', WHERE WHAT IT READS IS OF BULK AT MOST 1048576: true; the input reads as it did. -/
def fnExactAddRouteUptoRow : OpenClaim := { program := "ytdaahcaafdleaaa", sum := "57b65a147c18dada0c515134f348d6191cacba68ded368951f713a49ee72e0e6", func := "loop.example/g00507/laws.FnExactAddRoute", spec := "fnExactAddRoute", plainKeys := false, apart := false, narrowed := true }
def FnExactAddRouteUptoSaid : Prop := fnExactAddRouteUptoRow.holds Try.pinned (OpenSpec.upto fnExactAddRouteSpec)

/-- 'laws.FnExactRemoveFace', WHERE WHAT IT READS IS OF BULK AT MOST 1048576: true; the input reads as it did. -/
def fnExactRemoveFaceUptoRow : OpenClaim := { program := "ytdaahcaafdleaaa", sum := "57b65a147c18dada0c515134f348d6191cacba68ded368951f713a49ee72e0e6", func := "loop.example/g00507/laws.FnExactRemoveFace", spec := "fnExactRemoveFace", unfollowed := true, recurses := true, plainKeys := false, apart := false, narrowed := true }
def FnExactRemoveFaceUptoSaid : Prop := fnExactRemoveFaceUptoRow.holds Try.pinned (OpenSpec.upto fnExactRemoveFaceSpec)

/-- 'laws.FnExactMatchingPrefix', WHERE WHAT IT READS IS OF BULK AT MOST 1048576: true; the input reads as it did. -/
def fnExactMatchingPrefixUptoRow : OpenClaim := { program := "ytdaahcaafdleaaa", sum := "57b65a147c18dada0c515134f348d6191cacba68ded368951f713a49ee72e0e6", func := "loop.example/g00507/laws.FnExactMatchingPrefix", spec := "fnExactMatchingPrefix", plainKeys := false, apart := false, narrowed := true }
def FnExactMatchingPrefixUptoSaid : Prop := fnExactMatchingPrefixUptoRow.holds Try.pinned (OpenSpec.upto fnExactMatchingPrefixSpec)

end Rows
end Go.Proofs.Ytdaahcaafdleaaa
