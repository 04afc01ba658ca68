/-
  No cell of these rows narrows 'for every input' (looked for: loops, veiled, ifaces, maps, wideKeys, modest, calm, conditions, laid).
  DERIVED. THE GIVEN ROWS OF THIS SEAT. 11 by the template 'for every input the law returns true; each argument reads behind the call as it read before'; 0 by the template 'total and deterministic' (their statements: YtnhfdgjbbjogmaaTotals.lean).
  GIVEN WITH THE SEED: the statements are not yours to turn. If you find one false, say at which input.
  Laid BY PROGRAM, IN A SANDBOX (cutbox-rows.mjs): the forced cells as the released guide's own fill.sh prints them over the translation e9042d50f03554c6… (all of the seat's roots in one cut). By AI agents, Wed Nov 11 2026. No macro, syntax, notation, axiom, sorry.
-/
import Derived.Test.YtnhfdgjbbjogmaaChecked
import GoSem.Claim
import GoSem.ClaimJoined
import GoSem.ClaimMapViews
import Derived.JoinedTies
import Derived.KernelRfl
namespace Go.Proofs.Ytnhfdgjbbjogmaa
/- THE CELL 'sum', in the pinned program and in every row, IS THE sha256 OF THE DUMP (.gsa) THAT YtnhfdgjbbjogmaaProg.lean LOADS. Nothing in Lean hashes anything: it is a label: what it is worth is what the hold of that sum in a sandbox is worth. -/
noncomputable def Try.pinned : Pinned := { name := "ytnhfdgjbbjogmaa", sum := "e9042d50f03554c6b5dd34df16d4f77352a91391dc999ca5ca9ee52830c7094c", checked := Try.checked }
namespace Rows
def none {H : Type} : Left H := { results := [], args := [] }

/-- 'laws.FnNames': WHATEVER THE INPUT: true; the input reads as it did. -/
def fnNamesSpec : ChangeSpec := { name := "fnNames", fn := fun _ => fun
  | [d] => { results := [.lit (.bool true)], args := [d] }
  | _ => none }
def fnNamesRow : OpenClaim := { program := "ytnhfdgjbbjogmaa", sum := "e9042d50f03554c6b5dd34df16d4f77352a91391dc999ca5ca9ee52830c7094c", func := "loop.example/g00507/laws.FnNames", spec := "fnNames", inPlace := ["internal/abi.NoEscape", "internal/bytealg.MakeNoZero"], apart := false }
def FnNamesSaid : Prop := fnNamesRow.holds Try.pinned (OpenSpec.ofChange fnNamesSpec)

/-- ITS FALSE NEIGHBOUR: 'it returns false'. Refute it at one input. -/
def fnNamesWrong : ChangeSpec := { name := "fnNames", fn := fun _ => fun
  | [d] => { results := [.lit (.bool false)], args := [d] }
  | _ => none }
def FnNamesWrongFalsely : Prop := fnNamesRow.holds Try.pinned (OpenSpec.ofChange fnNamesWrong)

/-- 'laws.FnWiths': WHATEVER THE INPUT: true; the input reads as it did. -/
def fnWithsSpec : ChangeSpec := { name := "fnWiths", fn := fun _ => fun
  | [d] => { results := [.lit (.bool true)], args := [d] }
  | _ => none }
def fnWithsRow : OpenClaim := { program := "ytnhfdgjbbjogmaa", sum := "e9042d50f03554c6b5dd34df16d4f77352a91391dc999ca5ca9ee52830c7094c", func := "loop.example/g00507/laws.FnWiths", spec := "fnWiths", apart := false }
def FnWithsSaid : Prop := fnWithsRow.holds Try.pinned (OpenSpec.ofChange fnWithsSpec)

/-- ITS FALSE NEIGHBOUR: 'it returns false'. Refute it at one input. -/
def fnWithsWrong : ChangeSpec := { name := "fnWiths", fn := fun _ => fun
  | [d] => { results := [.lit (.bool false)], args := [d] }
  | _ => none }
def FnWithsWrongFalsely : Prop := fnWithsRow.holds Try.pinned (OpenSpec.ofChange fnWithsWrong)

/-- 'laws.FnExactValidPart': WHATEVER THE INPUT: true; the input reads as it did. -/
def fnExactValidPartSpec : ChangeSpec := { name := "fnExactValidPart", fn := fun _ => fun
  | [d] => { results := [.lit (.bool true)], args := [d] }
  | _ => none }
def fnExactValidPartRow : OpenClaim := { program := "ytnhfdgjbbjogmaa", sum := "e9042d50f03554c6b5dd34df16d4f77352a91391dc999ca5ca9ee52830c7094c", func := "loop.example/g00507/laws.FnExactValidPart", spec := "fnExactValidPart", apart := false }
def FnExactValidPartSaid : Prop := fnExactValidPartRow.holds Try.pinned (OpenSpec.ofChange fnExactValidPartSpec)

/-- ITS FALSE NEIGHBOUR: 'it returns false'. Refute it at one input. -/
def fnExactValidPartWrong : ChangeSpec := { name := "fnExactValidPart", fn := fun _ => fun
  | [d] => { results := [.lit (.bool false)], args := [d] }
  | _ => none }
def FnExactValidPartWrongFalsely : Prop := fnExactValidPartRow.holds Try.pinned (OpenSpec.ofChange fnExactValidPartWrong)

/-- 'laws.FnExactValidName': WHATEVER THE INPUT: true; the input reads as it did. -/
def fnExactValidNameSpec : ChangeSpec := { name := "fnExactValidName", fn := fun _ => fun
  | [d] => { results := [.lit (.bool true)], args := [d] }
  | _ => none }
def fnExactValidNameRow : OpenClaim := { program := "ytnhfdgjbbjogmaa", sum := "e9042d50f03554c6b5dd34df16d4f77352a91391dc999ca5ca9ee52830c7094c", func := "loop.example/g00507/laws.FnExactValidName", spec := "fnExactValidName", apart := false }
def FnExactValidNameSaid : Prop := fnExactValidNameRow.holds Try.pinned (OpenSpec.ofChange fnExactValidNameSpec)

/-- ITS FALSE NEIGHBOUR: 'it returns false'. Refute it at one input. -/
def fnExactValidNameWrong : ChangeSpec := { name := "fnExactValidName", fn := fun _ => fun
  | [d] => { results := [.lit (.bool false)], args := [d] }
  | _ => none }
def FnExactValidNameWrongFalsely : Prop := fnExactValidNameRow.holds Try.pinned (OpenSpec.ofChange fnExactValidNameWrong)

/-- 'laws.FnExactFormatName': WHATEVER THE INPUT: true; the input reads as it did. -/
def fnExactFormatNameSpec : ChangeSpec := { name := "fnExactFormatName", fn := fun _ => fun
  | [d] => { results := [.lit (.bool true)], args := [d] }
  | _ => none }
def fnExactFormatNameRow : OpenClaim := { program := "ytnhfdgjbbjogmaa", sum := "e9042d50f03554c6b5dd34df16d4f77352a91391dc999ca5ca9ee52830c7094c", func := "loop.example/g00507/laws.FnExactFormatName", spec := "fnExactFormatName", inPlace := ["internal/abi.NoEscape", "internal/bytealg.MakeNoZero"], apart := false }
def FnExactFormatNameSaid : Prop := fnExactFormatNameRow.holds Try.pinned (OpenSpec.ofChange fnExactFormatNameSpec)

/-- ITS FALSE NEIGHBOUR: 'it returns false'. Refute it at one input. -/
def fnExactFormatNameWrong : ChangeSpec := { name := "fnExactFormatName", fn := fun _ => fun
  | [d] => { results := [.lit (.bool false)], args := [d] }
  | _ => none }
def FnExactFormatNameWrongFalsely : Prop := fnExactFormatNameRow.holds Try.pinned (OpenSpec.ofChange fnExactFormatNameWrong)

/-- 'laws.FnExactParseName': WHATEVER THE INPUT: true; the input reads as it did. -/
def fnExactParseNameSpec : ChangeSpec := { name := "fnExactParseName", fn := fun _ => fun
  | [d] => { results := [.lit (.bool true)], args := [d] }
  | _ => none }
def fnExactParseNameRow : OpenClaim := { program := "ytnhfdgjbbjogmaa", sum := "e9042d50f03554c6b5dd34df16d4f77352a91391dc999ca5ca9ee52830c7094c", func := "loop.example/g00507/laws.FnExactParseName", spec := "fnExactParseName", inPlace := ["internal/abi.NoEscape", "internal/bytealg.MakeNoZero"], apart := false }
def FnExactParseNameSaid : Prop := fnExactParseNameRow.holds Try.pinned (OpenSpec.ofChange fnExactParseNameSpec)

/-- ITS FALSE NEIGHBOUR: 'it returns false'. Refute it at one input. -/
def fnExactParseNameWrong : ChangeSpec := { name := "fnExactParseName", fn := fun _ => fun
  | [d] => { results := [.lit (.bool false)], args := [d] }
  | _ => none }
def FnExactParseNameWrongFalsely : Prop := fnExactParseNameRow.holds Try.pinned (OpenSpec.ofChange fnExactParseNameWrong)

/-- 'laws.FnExactCompareNames': WHATEVER THE INPUT: true; the input reads as it did. -/
def fnExactCompareNamesSpec : ChangeSpec := { name := "fnExactCompareNames", fn := fun _ => fun
  | [d1, d2] => { results := [.lit (.bool true)], args := [d1, d2] }
  | _ => none }
def fnExactCompareNamesRow : OpenClaim := { program := "ytnhfdgjbbjogmaa", sum := "e9042d50f03554c6b5dd34df16d4f77352a91391dc999ca5ca9ee52830c7094c", func := "loop.example/g00507/laws.FnExactCompareNames", spec := "fnExactCompareNames", apart := false }
def FnExactCompareNamesSaid : Prop := fnExactCompareNamesRow.holds Try.pinned (OpenSpec.ofChange fnExactCompareNamesSpec)

/-- ITS FALSE NEIGHBOUR: 'it returns false'. Refute it at one input. -/
def fnExactCompareNamesWrong : ChangeSpec := { name := "fnExactCompareNames", fn := fun _ => fun
  | [d1, d2] => { results := [.lit (.bool false)], args := [d1, d2] }
  | _ => none }
def FnExactCompareNamesWrongFalsely : Prop := fnExactCompareNamesRow.holds Try.pinned (OpenSpec.ofChange fnExactCompareNamesWrong)

/-- 'laws.FnExactEqualNames': WHATEVER THE INPUT: true; the input reads as it did. -/
def fnExactEqualNamesSpec : ChangeSpec := { name := "fnExactEqualNames", fn := fun _ => fun
  | [d1, d2] => { results := [.lit (.bool true)], args := [d1, d2] }
  | _ => none }
def fnExactEqualNamesRow : OpenClaim := { program := "ytnhfdgjbbjogmaa", sum := "e9042d50f03554c6b5dd34df16d4f77352a91391dc999ca5ca9ee52830c7094c", func := "loop.example/g00507/laws.FnExactEqualNames", spec := "fnExactEqualNames", apart := false }
def FnExactEqualNamesSaid : Prop := fnExactEqualNamesRow.holds Try.pinned (OpenSpec.ofChange fnExactEqualNamesSpec)

/-- ITS FALSE NEIGHBOUR: 'it returns false'. Refute it at one input. -/
def fnExactEqualNamesWrong : ChangeSpec := { name := "fnExactEqualNames", fn := fun _ => fun
  | [d1, d2] => { results := [.lit (.bool false)], args := [d1, d2] }
  | _ => none }
def FnExactEqualNamesWrongFalsely : Prop := fnExactEqualNamesRow.holds Try.pinned (OpenSpec.ofChange fnExactEqualNamesWrong)

/-- 'laws.FnExactHasPrefix': WHATEVER THE INPUT: true; the input reads as it did. -/
def fnExactHasPrefixSpec : ChangeSpec := { name := "fnExactHasPrefix", fn := fun _ => fun
  | [d1, d2] => { results := [.lit (.bool true)], args := [d1, d2] }
  | _ => none }
def fnExactHasPrefixRow : OpenClaim := { program := "ytnhfdgjbbjogmaa", sum := "e9042d50f03554c6b5dd34df16d4f77352a91391dc999ca5ca9ee52830c7094c", func := "loop.example/g00507/laws.FnExactHasPrefix", spec := "fnExactHasPrefix", apart := false }
def FnExactHasPrefixSaid : Prop := fnExactHasPrefixRow.holds Try.pinned (OpenSpec.ofChange fnExactHasPrefixSpec)

/-- ITS FALSE NEIGHBOUR: 'it returns false'. Refute it at one input. -/
def fnExactHasPrefixWrong : ChangeSpec := { name := "fnExactHasPrefix", fn := fun _ => fun
  | [d1, d2] => { results := [.lit (.bool false)], args := [d1, d2] }
  | _ => none }
def FnExactHasPrefixWrongFalsely : Prop := fnExactHasPrefixRow.holds Try.pinned (OpenSpec.ofChange fnExactHasPrefixWrong)

/-- 'laws.FnExactTruncate': WHATEVER THE INPUT: true; the input reads as it did. -/
def fnExactTruncateSpec : ChangeSpec := { name := "fnExactTruncate", fn := fun _ => fun
  | [d1, d2] => { results := [.lit (.bool true)], args := [d1, d2] }
  | _ => none }
def fnExactTruncateRow : OpenClaim := { program := "ytnhfdgjbbjogmaa", sum := "e9042d50f03554c6b5dd34df16d4f77352a91391dc999ca5ca9ee52830c7094c", func := "loop.example/g00507/laws.FnExactTruncate", spec := "fnExactTruncate", apart := false }
def FnExactTruncateSaid : Prop := fnExactTruncateRow.holds Try.pinned (OpenSpec.ofChange fnExactTruncateSpec)

/-- ITS FALSE NEIGHBOUR: 'it returns false'. Refute it at one input. -/
def fnExactTruncateWrong : ChangeSpec := { name := "fnExactTruncate", fn := fun _ => fun
  | [d1, d2] => { results := [.lit (.bool false)], args := [d1, d2] }
  | _ => none }
def FnExactTruncateWrongFalsely : Prop := fnExactTruncateRow.holds Try.pinned (OpenSpec.ofChange fnExactTruncateWrong)

/-- 'laws.FnExactAppendPart': WHATEVER THE INPUT: true; the input reads as it did. -/
def fnExactAppendPartSpec : ChangeSpec := { name := "fnExactAppendPart", fn := fun _ => fun
  | [d1, d2] => { results := [.lit (.bool true)], args := [d1, d2] }
  | _ => none }
def fnExactAppendPartRow : OpenClaim := { program := "ytnhfdgjbbjogmaa", sum := "e9042d50f03554c6b5dd34df16d4f77352a91391dc999ca5ca9ee52830c7094c", func := "loop.example/g00507/laws.FnExactAppendPart", spec := "fnExactAppendPart", apart := false }
def FnExactAppendPartSaid : Prop := fnExactAppendPartRow.holds Try.pinned (OpenSpec.ofChange fnExactAppendPartSpec)

/-- ITS FALSE NEIGHBOUR: 'it returns false'. Refute it at one input. -/
def fnExactAppendPartWrong : ChangeSpec := { name := "fnExactAppendPart", fn := fun _ => fun
  | [d1, d2] => { results := [.lit (.bool false)], args := [d1, d2] }
  | _ => none }
def FnExactAppendPartWrongFalsely : Prop := fnExactAppendPartRow.holds Try.pinned (OpenSpec.ofChange fnExactAppendPartWrong)

/- THE SECOND FORM. 'bulk': how many values and letters a reading holds, each counted each time it is reached (what is shared counts as often as it is met; a slice's spare places count too). A statement '..UptoSaid' is the law's where the arguments, and the package variables that the reading takes, are together of bulk at most 1048576: NARROWER than '..Said'. Prove '..Said' where nothing that the law and all that it calls make is longer than what came in: it says more and counts as full. Else prove '..UptoSaid'. A law counts once. -/
mutual
def uptoBulk {H : Type} : DataW H → Nat
  | .lit (.string bytes) => bytes.length + 1
  | .lit _ => 1
  | .nil => 1
  | .ptr d => uptoBulk d + 1
  | .slice elems spare => uptoBulkAll elems + uptoBulkAll spare + 1
  | .agg parts => uptoBulkAll parts + 1
  | .iface _ d => uptoBulk d + 1
  | .map entries => uptoBulkEntries entries + 1
  | .held _ => 1
def uptoBulkAll {H : Type} : List (DataW H) → Nat
  | [] => 0
  | d :: r => uptoBulk d + uptoBulkAll r
def uptoBulkEntries {H : Type} : List (Lit × DataW H) → Nat
  | [] => 0
  | x :: r => uptoBulkEntry x + uptoBulkEntries r
def uptoBulkEntry {H : Type} : Lit × DataW H → Nat
  | (.string bytes, d) => bytes.length + uptoBulk d + 1
  | (_, d) => uptoBulk d + 1
 end
def uptoSmall : (H : Type) → List (DataW H) → Bool := fun _ ds => decide (uptoBulkAll ds ≤ 1048576)
def OpenSpec.upto (s : _root_.Go.ChangeSpec) : _root_.Go.OpenSpec := { _root_.Go.OpenSpec.ofChange s with cond := some uptoSmall }

/-- 'laws.FnNames', WHERE WHAT IT READS IS OF BULK AT MOST 1048576: true; the input reads as it did. -/
def fnNamesUptoRow : OpenClaim := { program := "ytnhfdgjbbjogmaa", sum := "e9042d50f03554c6b5dd34df16d4f77352a91391dc999ca5ca9ee52830c7094c", func := "loop.example/g00507/laws.FnNames", spec := "fnNames", inPlace := ["internal/abi.NoEscape", "internal/bytealg.MakeNoZero"], apart := false, narrowed := true }
def FnNamesUptoSaid : Prop := fnNamesUptoRow.holds Try.pinned (OpenSpec.upto fnNamesSpec)

/-- 'laws.FnWiths', WHERE WHAT IT READS IS OF BULK AT MOST 1048576: true; the input reads as it did. -/
def fnWithsUptoRow : OpenClaim := { program := "ytnhfdgjbbjogmaa", sum := "e9042d50f03554c6b5dd34df16d4f77352a91391dc999ca5ca9ee52830c7094c", func := "loop.example/g00507/laws.FnWiths", spec := "fnWiths", apart := false, narrowed := true }
def FnWithsUptoSaid : Prop := fnWithsUptoRow.holds Try.pinned (OpenSpec.upto fnWithsSpec)

/-- 'laws.FnExactValidPart', WHERE WHAT IT READS IS OF BULK AT MOST 1048576: true; the input reads as it did. -/
def fnExactValidPartUptoRow : OpenClaim := { program := "ytnhfdgjbbjogmaa", sum := "e9042d50f03554c6b5dd34df16d4f77352a91391dc999ca5ca9ee52830c7094c", func := "loop.example/g00507/laws.FnExactValidPart", spec := "fnExactValidPart", apart := false, narrowed := true }
def FnExactValidPartUptoSaid : Prop := fnExactValidPartUptoRow.holds Try.pinned (OpenSpec.upto fnExactValidPartSpec)

/-- 'laws.FnExactValidName', WHERE WHAT IT READS IS OF BULK AT MOST 1048576: true; the input reads as it did. -/
def fnExactValidNameUptoRow : OpenClaim := { program := "ytnhfdgjbbjogmaa", sum := "e9042d50f03554c6b5dd34df16d4f77352a91391dc999ca5ca9ee52830c7094c", func := "loop.example/g00507/laws.FnExactValidName", spec := "fnExactValidName", apart := false, narrowed := true }
def FnExactValidNameUptoSaid : Prop := fnExactValidNameUptoRow.holds Try.pinned (OpenSpec.upto fnExactValidNameSpec)

/-- 'laws.FnExactFormatName', WHERE WHAT IT READS IS OF BULK AT MOST 1048576: true; the input reads as it did. -/
def fnExactFormatNameUptoRow : OpenClaim := { program := "ytnhfdgjbbjogmaa", sum := "e9042d50f03554c6b5dd34df16d4f77352a91391dc999ca5ca9ee52830c7094c", func := "loop.example/g00507/laws.FnExactFormatName", spec := "fnExactFormatName", inPlace := ["internal/abi.NoEscape", "internal/bytealg.MakeNoZero"], apart := false, narrowed := true }
def FnExactFormatNameUptoSaid : Prop := fnExactFormatNameUptoRow.holds Try.pinned (OpenSpec.upto fnExactFormatNameSpec)

/-- 'laws.FnExactParseName', WHERE WHAT IT READS IS OF BULK AT MOST 1048576: true; the input reads as it did. -/
def fnExactParseNameUptoRow : OpenClaim := { program := "ytnhfdgjbbjogmaa", sum := "e9042d50f03554c6b5dd34df16d4f77352a91391dc999ca5ca9ee52830c7094c", func := "loop.example/g00507/laws.FnExactParseName", spec := "fnExactParseName", inPlace := ["internal/abi.NoEscape", "internal/bytealg.MakeNoZero"], apart := false, narrowed := true }
def FnExactParseNameUptoSaid : Prop := fnExactParseNameUptoRow.holds Try.pinned (OpenSpec.upto fnExactParseNameSpec)

/-- 'laws.FnExactCompareNames', WHERE WHAT IT READS IS OF BULK AT MOST 1048576: true; the input reads as it did. -/
def fnExactCompareNamesUptoRow : OpenClaim := { program := "ytnhfdgjbbjogmaa", sum := "e9042d50f03554c6b5dd34df16d4f77352a91391dc999ca5ca9ee52830c7094c", func := "loop.example/g00507/laws.FnExactCompareNames", spec := "fnExactCompareNames", apart := false, narrowed := true }
def FnExactCompareNamesUptoSaid : Prop := fnExactCompareNamesUptoRow.holds Try.pinned (OpenSpec.upto fnExactCompareNamesSpec)

/-- 'laws.FnExactEqualNames', WHERE WHAT IT READS IS OF BULK AT MOST 1048576: true; the input reads as it did. -/
def fnExactEqualNamesUptoRow : OpenClaim := { program := "ytnhfdgjbbjogmaa", sum := "e9042d50f03554c6b5dd34df16d4f77352a91391dc999ca5ca9ee52830c7094c", func := "loop.example/g00507/laws.FnExactEqualNames", spec := "fnExactEqualNames", apart := false, narrowed := true }
def FnExactEqualNamesUptoSaid : Prop := fnExactEqualNamesUptoRow.holds Try.pinned (OpenSpec.upto fnExactEqualNamesSpec)

/-- 'laws.FnExactHasPrefix', WHERE WHAT IT READS IS OF BULK AT MOST 1048576: true; the input reads as it did. -/
def fnExactHasPrefixUptoRow : OpenClaim := { program := "ytnhfdgjbbjogmaa", sum := "e9042d50f03554c6b5dd34df16d4f77352a91391dc999ca5ca9ee52830c7094c", func := "loop.example/g00507/laws.FnExactHasPrefix", spec := "fnExactHasPrefix", apart := false, narrowed := true }
def FnExactHasPrefixUptoSaid : Prop := fnExactHasPrefixUptoRow.holds Try.pinned (OpenSpec.upto fnExactHasPrefixSpec)

/-- 'laws.FnExactTruncate', WHERE WHAT IT READS IS OF BULK AT MOST 1048576: true; the input reads as it did. -/
def fnExactTruncateUptoRow : OpenClaim := { program := "ytnhfdgjbbjogmaa", sum := "e9042d50f03554c6b5dd34df16d4f77352a91391dc999ca5ca9ee52830c7094c", func := "loop.example/g00507/laws.FnExactTruncate", spec := "fnExactTruncate", apart := false, narrowed := true }
def FnExactTruncateUptoSaid : Prop := fnExactTruncateUptoRow.holds Try.pinned (OpenSpec.upto fnExactTruncateSpec)

/-- 'laws.FnExactAppendPart', WHERE WHAT IT READS IS OF BULK AT MOST 1048576: true; the input reads as it did. -/
def fnExactAppendPartUptoRow : OpenClaim := { program := "ytnhfdgjbbjogmaa", sum := "e9042d50f03554c6b5dd34df16d4f77352a91391dc999ca5ca9ee52830c7094c", func := "loop.example/g00507/laws.FnExactAppendPart", spec := "fnExactAppendPart", apart := false, narrowed := true }
def FnExactAppendPartUptoSaid : Prop := fnExactAppendPartUptoRow.holds Try.pinned (OpenSpec.upto fnExactAppendPartSpec)

end Rows
end Go.Proofs.Ytnhfdgjbbjogmaa
