/-
  No cell of these rows narrows 'for every input' (looked for: loops, veiled, ifaces, maps, wideKeys, modest, calm, conditions, laid).
  DERIVED. THE GIVEN ROWS OF THIS SEAT. 8 by the template 'for every input the law returns true; each argument reads behind the call as it read before'; 0 by the template 'total and deterministic' (their statements: YtihcebjbkifbpaaTotals.lean).
  GIVEN WITH THE SEED: the statements are not yours to turn. If you find one false, say at which input.
  Laid BY PROGRAM, IN A SANDBOX (cutbox-rows.mjs): the forced cells as the released guide's own fill.sh prints them over the translation dc10922efcb1d57e… (all of the seat's roots in one cut). By AI agents, Wed Nov 11 2026. No macro, syntax, notation, axiom, sorry.
-/
import Derived.Test.YtihcebjbkifbpaaChecked
import GoSem.Claim
import GoSem.ClaimJoined
import GoSem.ClaimMapViews
import Derived.JoinedTies
import Derived.KernelRfl
namespace Go.Proofs.Ytihcebjbkifbpaa
/- THE CELL 'sum', in the pinned program and in every row, IS THE sha256 OF THE DUMP (.gsa) THAT YtihcebjbkifbpaaProg.lean LOADS. Nothing in Lean hashes anything: it is a label: what it is worth is what the hold of that sum in a sandbox is worth. -/
noncomputable def Try.pinned : Pinned := { name := "ytihcebjbkifbpaa", sum := "dc10922efcb1d57e4b2142145d20ad145f9679ef4de7abc18c8289e6983e52d7", checked := Try.checked }
namespace Rows
def none {H : Type} : Left H := { results := [], args := [] }

/-- 'laws.FnTables': WHATEVER THE INPUT: true; the input reads as it did. -/
def fnTablesSpec : ChangeSpec := { name := "fnTables", fn := fun _ => fun
  | [d] => { results := [.lit (.bool true)], args := [d] }
  | _ => none }
def fnTablesRow : OpenClaim := { program := "ytihcebjbkifbpaa", sum := "dc10922efcb1d57e4b2142145d20ad145f9679ef4de7abc18c8289e6983e52d7", func := "loop.example/g00507/laws.FnTables", spec := "fnTables", unfollowed := true, recurses := true, apart := false }
def FnTablesSaid : Prop := fnTablesRow.holds Try.pinned (OpenSpec.ofChange fnTablesSpec)

/-- ITS FALSE NEIGHBOUR: 'it returns false'. Refute it at one input. -/
def fnTablesWrong : ChangeSpec := { name := "fnTables", fn := fun _ => fun
  | [d] => { results := [.lit (.bool false)], args := [d] }
  | _ => none }
def FnTablesWrongFalsely : Prop := fnTablesRow.holds Try.pinned (OpenSpec.ofChange fnTablesWrong)

/-- 'laws.FnExactValidTable': WHATEVER THE INPUT: true; the input reads as it did. -/
def fnExactValidTableSpec : ChangeSpec := { name := "fnExactValidTable", fn := fun _ => fun
  | [d] => { results := [.lit (.bool true)], args := [d] }
  | _ => none }
def fnExactValidTableRow : OpenClaim := { program := "ytihcebjbkifbpaa", sum := "dc10922efcb1d57e4b2142145d20ad145f9679ef4de7abc18c8289e6983e52d7", func := "loop.example/g00507/laws.FnExactValidTable", spec := "fnExactValidTable", apart := false }
def FnExactValidTableSaid : Prop := fnExactValidTableRow.holds Try.pinned (OpenSpec.ofChange fnExactValidTableSpec)

/-- ITS FALSE NEIGHBOUR: 'it returns false'. Refute it at one input. -/
def fnExactValidTableWrong : ChangeSpec := { name := "fnExactValidTable", fn := fun _ => fun
  | [d] => { results := [.lit (.bool false)], args := [d] }
  | _ => none }
def FnExactValidTableWrongFalsely : Prop := fnExactValidTableRow.holds Try.pinned (OpenSpec.ofChange fnExactValidTableWrong)

/-- 'laws.FnExactPutEntry': WHATEVER THE INPUT: true; the input reads as it did. -/
def fnExactPutEntrySpec : ChangeSpec := { name := "fnExactPutEntry", fn := fun _ => fun
  | [d1, d2, d3] => { results := [.lit (.bool true)], args := [d1, d2, d3] }
  | _ => none }
def fnExactPutEntryRow : OpenClaim := { program := "ytihcebjbkifbpaa", sum := "dc10922efcb1d57e4b2142145d20ad145f9679ef4de7abc18c8289e6983e52d7", func := "loop.example/g00507/laws.FnExactPutEntry", spec := "fnExactPutEntry", unfollowed := true, recurses := true, apart := false }
def FnExactPutEntrySaid : Prop := fnExactPutEntryRow.holds Try.pinned (OpenSpec.ofChange fnExactPutEntrySpec)

/-- ITS FALSE NEIGHBOUR: 'it returns false'. Refute it at one input. -/
def fnExactPutEntryWrong : ChangeSpec := { name := "fnExactPutEntry", fn := fun _ => fun
  | [d1, d2, d3] => { results := [.lit (.bool false)], args := [d1, d2, d3] }
  | _ => none }
def FnExactPutEntryWrongFalsely : Prop := fnExactPutEntryRow.holds Try.pinned (OpenSpec.ofChange fnExactPutEntryWrong)

/-- 'laws.FnExactRemoveEntry': WHATEVER THE INPUT: true; the input reads as it did. -/
def fnExactRemoveEntrySpec : ChangeSpec := { name := "fnExactRemoveEntry", fn := fun _ => fun
  | [d1, d2] => { results := [.lit (.bool true)], args := [d1, d2] }
  | _ => none }
def fnExactRemoveEntryRow : OpenClaim := { program := "ytihcebjbkifbpaa", sum := "dc10922efcb1d57e4b2142145d20ad145f9679ef4de7abc18c8289e6983e52d7", func := "loop.example/g00507/laws.FnExactRemoveEntry", spec := "fnExactRemoveEntry", unfollowed := true, recurses := true, apart := false }
def FnExactRemoveEntrySaid : Prop := fnExactRemoveEntryRow.holds Try.pinned (OpenSpec.ofChange fnExactRemoveEntrySpec)

/-- ITS FALSE NEIGHBOUR: 'it returns false'. Refute it at one input. -/
def fnExactRemoveEntryWrong : ChangeSpec := { name := "fnExactRemoveEntry", fn := fun _ => fun
  | [d1, d2] => { results := [.lit (.bool false)], args := [d1, d2] }
  | _ => none }
def FnExactRemoveEntryWrongFalsely : Prop := fnExactRemoveEntryRow.holds Try.pinned (OpenSpec.ofChange fnExactRemoveEntryWrong)

/-- 'laws.FnExactLookupEntry': WHATEVER THE INPUT: true; the input reads as it did. -/
def fnExactLookupEntrySpec : ChangeSpec := { name := "fnExactLookupEntry", fn := fun _ => fun
  | [d1, d2] => { results := [.lit (.bool true)], args := [d1, d2] }
  | _ => none }
def fnExactLookupEntryRow : OpenClaim := { program := "ytihcebjbkifbpaa", sum := "dc10922efcb1d57e4b2142145d20ad145f9679ef4de7abc18c8289e6983e52d7", func := "loop.example/g00507/laws.FnExactLookupEntry", spec := "fnExactLookupEntry", unfollowed := true, recurses := true, apart := false }
def FnExactLookupEntrySaid : Prop := fnExactLookupEntryRow.holds Try.pinned (OpenSpec.ofChange fnExactLookupEntrySpec)

/-- ITS FALSE NEIGHBOUR: 'it returns false'. Refute it at one input. -/
def fnExactLookupEntryWrong : ChangeSpec := { name := "fnExactLookupEntry", fn := fun _ => fun
  | [d1, d2] => { results := [.lit (.bool false)], args := [d1, d2] }
  | _ => none }
def FnExactLookupEntryWrongFalsely : Prop := fnExactLookupEntryRow.holds Try.pinned (OpenSpec.ofChange fnExactLookupEntryWrong)

/-- 'laws.FnExactLongestPrefix': WHATEVER THE INPUT: true; the input reads as it did. -/
def fnExactLongestPrefixSpec : ChangeSpec := { name := "fnExactLongestPrefix", fn := fun _ => fun
  | [d1, d2] => { results := [.lit (.bool true)], args := [d1, d2] }
  | _ => none }
def fnExactLongestPrefixRow : OpenClaim := { program := "ytihcebjbkifbpaa", sum := "dc10922efcb1d57e4b2142145d20ad145f9679ef4de7abc18c8289e6983e52d7", func := "loop.example/g00507/laws.FnExactLongestPrefix", spec := "fnExactLongestPrefix", apart := false }
def FnExactLongestPrefixSaid : Prop := fnExactLongestPrefixRow.holds Try.pinned (OpenSpec.ofChange fnExactLongestPrefixSpec)

/-- ITS FALSE NEIGHBOUR: 'it returns false'. Refute it at one input. -/
def fnExactLongestPrefixWrong : ChangeSpec := { name := "fnExactLongestPrefix", fn := fun _ => fun
  | [d1, d2] => { results := [.lit (.bool false)], args := [d1, d2] }
  | _ => none }
def FnExactLongestPrefixWrongFalsely : Prop := fnExactLongestPrefixRow.holds Try.pinned (OpenSpec.ofChange fnExactLongestPrefixWrong)

/-- 'laws.FnExactEntriesUnder': WHATEVER THE INPUT: true; the input reads as it did. -/
def fnExactEntriesUnderSpec : ChangeSpec := { name := "fnExactEntriesUnder", fn := fun _ => fun
  | [d1, d2] => { results := [.lit (.bool true)], args := [d1, d2] }
  | _ => none }
def fnExactEntriesUnderRow : OpenClaim := { program := "ytihcebjbkifbpaa", sum := "dc10922efcb1d57e4b2142145d20ad145f9679ef4de7abc18c8289e6983e52d7", func := "loop.example/g00507/laws.FnExactEntriesUnder", spec := "fnExactEntriesUnder", unfollowed := true, recurses := true, apart := false }
def FnExactEntriesUnderSaid : Prop := fnExactEntriesUnderRow.holds Try.pinned (OpenSpec.ofChange fnExactEntriesUnderSpec)

/-- ITS FALSE NEIGHBOUR: 'it returns false'. Refute it at one input. -/
def fnExactEntriesUnderWrong : ChangeSpec := { name := "fnExactEntriesUnder", fn := fun _ => fun
  | [d1, d2] => { results := [.lit (.bool false)], args := [d1, d2] }
  | _ => none }
def FnExactEntriesUnderWrongFalsely : Prop := fnExactEntriesUnderRow.holds Try.pinned (OpenSpec.ofChange fnExactEntriesUnderWrong)

/-- 'laws.FnExactEqualTables': WHATEVER THE INPUT: true; the input reads as it did. -/
def fnExactEqualTablesSpec : ChangeSpec := { name := "fnExactEqualTables", fn := fun _ => fun
  | [d1, d2] => { results := [.lit (.bool true)], args := [d1, d2] }
  | _ => none }
def fnExactEqualTablesRow : OpenClaim := { program := "ytihcebjbkifbpaa", sum := "dc10922efcb1d57e4b2142145d20ad145f9679ef4de7abc18c8289e6983e52d7", func := "loop.example/g00507/laws.FnExactEqualTables", spec := "fnExactEqualTables", unfollowed := true, recurses := true, apart := false }
def FnExactEqualTablesSaid : Prop := fnExactEqualTablesRow.holds Try.pinned (OpenSpec.ofChange fnExactEqualTablesSpec)

/-- ITS FALSE NEIGHBOUR: 'it returns false'. Refute it at one input. -/
def fnExactEqualTablesWrong : ChangeSpec := { name := "fnExactEqualTables", fn := fun _ => fun
  | [d1, d2] => { results := [.lit (.bool false)], args := [d1, d2] }
  | _ => none }
def FnExactEqualTablesWrongFalsely : Prop := fnExactEqualTablesRow.holds Try.pinned (OpenSpec.ofChange fnExactEqualTablesWrong)

/- THE SECOND FORM. 'bulk': how many values and letters a reading holds, each counted each time it is reached (what is shared counts as often as it is met; a slice's spare places count too). A statement '..UptoSaid' is the law's where the arguments, and the package variables that the reading takes, are together of bulk at most 1048576: NARROWER than '..Said'. Prove '..Said' where nothing that the law and all that it calls make is longer than what came in: it says more and counts as full. Else prove '..UptoSaid'. A law counts once. -/
mutual
def uptoBulk {H : Type} : DataW H → Nat
  | .lit (.string bytes) => bytes.length + 1
  | .lit _ => 1
  | .nil => 1
  | .ptr d => uptoBulk d + 1
  | .slice elems spare => uptoBulkAll elems + uptoBulkAll spare + 1
  | .agg parts => uptoBulkAll parts + 1
  | .iface _ d => uptoBulk d + 1
  | .map entries => uptoBulkEntries entries + 1
  | .held _ => 1
def uptoBulkAll {H : Type} : List (DataW H) → Nat
  | [] => 0
  | d :: r => uptoBulk d + uptoBulkAll r
def uptoBulkEntries {H : Type} : List (Lit × DataW H) → Nat
  | [] => 0
  | x :: r => uptoBulkEntry x + uptoBulkEntries r
def uptoBulkEntry {H : Type} : Lit × DataW H → Nat
  | (.string bytes, d) => bytes.length + uptoBulk d + 1
  | (_, d) => uptoBulk d + 1
 end
def uptoSmall : (H : Type) → List (DataW H) → Bool := fun _ ds => decide (uptoBulkAll ds ≤ 1048576)
def OpenSpec.upto (s : _root_.Go.ChangeSpec) : _root_.Go.OpenSpec := { _root_.Go.OpenSpec.ofChange s with cond := some uptoSmall }

/-- 'laws.FnTables', WHERE WHAT IT READS IS OF BULK AT MOST 1048576: true; the input reads as it did. -/
def fnTablesUptoRow : OpenClaim := { program := "ytihcebjbkifbpaa", sum := "dc10922efcb1d57e4b2142145d20ad145f9679ef4de7abc18c8289e6983e52d7", func := "loop.example/g00507/laws.FnTables", spec := "fnTables", unfollowed := true, recurses := true, apart := false, narrowed := true }
def FnTablesUptoSaid : Prop := fnTablesUptoRow.holds Try.pinned (OpenSpec.upto fnTablesSpec)

/-- 'laws.FnExactValidTable', WHERE WHAT IT READS IS OF BULK AT MOST 1048576: true; the input reads as it did. -/
def fnExactValidTableUptoRow : OpenClaim := { program := "ytihcebjbkifbpaa", sum := "dc10922efcb1d57e4b2142145d20ad145f9679ef4de7abc18c8289e6983e52d7", func := "loop.example/g00507/laws.FnExactValidTable", spec := "fnExactValidTable", apart := false, narrowed := true }
def FnExactValidTableUptoSaid : Prop := fnExactValidTableUptoRow.holds Try.pinned (OpenSpec.upto fnExactValidTableSpec)

/-- 'laws.FnExactPutEntry', WHERE WHAT IT READS IS OF BULK AT MOST 1048576: true; the input reads as it did. -/
def fnExactPutEntryUptoRow : OpenClaim := { program := "ytihcebjbkifbpaa", sum := "dc10922efcb1d57e4b2142145d20ad145f9679ef4de7abc18c8289e6983e52d7", func := "loop.example/g00507/laws.FnExactPutEntry", spec := "fnExactPutEntry", unfollowed := true, recurses := true, apart := false, narrowed := true }
def FnExactPutEntryUptoSaid : Prop := fnExactPutEntryUptoRow.holds Try.pinned (OpenSpec.upto fnExactPutEntrySpec)

/-- 'laws.FnExactRemoveEntry', WHERE WHAT IT READS IS OF BULK AT MOST 1048576: true; the input reads as it did. -/
def fnExactRemoveEntryUptoRow : OpenClaim := { program := "ytihcebjbkifbpaa", sum := "dc10922efcb1d57e4b2142145d20ad145f9679ef4de7abc18c8289e6983e52d7", func := "loop.example/g00507/laws.FnExactRemoveEntry", spec := "fnExactRemoveEntry", unfollowed := true, recurses := true, apart := false, narrowed := true }
def FnExactRemoveEntryUptoSaid : Prop := fnExactRemoveEntryUptoRow.holds Try.pinned (OpenSpec.upto fnExactRemoveEntrySpec)

/-- 'laws.FnExactLookupEntry', WHERE WHAT IT READS IS OF BULK AT MOST 1048576: true; the input reads as it did. -/
def fnExactLookupEntryUptoRow : OpenClaim := { program := "ytihcebjbkifbpaa", sum := "dc10922efcb1d57e4b2142145d20ad145f9679ef4de7abc18c8289e6983e52d7", func := "loop.example/g00507/laws.FnExactLookupEntry", spec := "fnExactLookupEntry", unfollowed := true, recurses := true, apart := false, narrowed := true }
def FnExactLookupEntryUptoSaid : Prop := fnExactLookupEntryUptoRow.holds Try.pinned (OpenSpec.upto fnExactLookupEntrySpec)

/-- 'laws.FnExactLongestPrefix', WHERE WHAT IT READS IS OF BULK AT MOST 1048576: true; the input reads as it did. -/
def fnExactLongestPrefixUptoRow : OpenClaim := { program := "ytihcebjbkifbpaa", sum := "dc10922efcb1d57e4b2142145d20ad145f9679ef4de7abc18c8289e6983e52d7", func := "loop.example/g00507/laws.FnExactLongestPrefix", spec := "fnExactLongestPrefix", apart := false, narrowed := true }
def FnExactLongestPrefixUptoSaid : Prop := fnExactLongestPrefixUptoRow.holds Try.pinned (OpenSpec.upto fnExactLongestPrefixSpec)

/-- 'laws.FnExactEntriesUnder', WHERE WHAT IT READS IS OF BULK AT MOST 1048576: true; the input reads as it did. -/
def fnExactEntriesUnderUptoRow : OpenClaim := { program := "ytihcebjbkifbpaa", sum := "dc10922efcb1d57e4b2142145d20ad145f9679ef4de7abc18c8289e6983e52d7", func := "loop.example/g00507/laws.FnExactEntriesUnder", spec := "fnExactEntriesUnder", unfollowed := true, recurses := true, apart := false, narrowed := true }
def FnExactEntriesUnderUptoSaid : Prop := fnExactEntriesUnderUptoRow.holds Try.pinned (OpenSpec.upto fnExactEntriesUnderSpec)

/-- 'laws.FnExactEqualTables', WHERE WHAT IT READS IS OF BULK AT MOST 1048576: true; the input reads as it did. -/
def fnExactEqualTablesUptoRow : OpenClaim := { program := "ytihcebjbkifbpaa", sum := "dc10922efcb1d57e4b2142145d20ad145f9679ef4de7abc18c8289e6983e52d7", func := "loop.example/g00507/laws.FnExactEqualTables", spec := "fnExactEqualTables", unfollowed := true, recurses := true, apart := false, narrowed := true }
def FnExactEqualTablesUptoSaid : Prop := fnExactEqualTablesUptoRow.holds Try.pinned (OpenSpec.upto fnExactEqualTablesSpec)

end Rows
end Go.Proofs.Ytihcebjbkifbpaa
