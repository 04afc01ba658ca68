/-
  No cell of these rows narrows 'for every input' (looked for: loops, veiled, ifaces, maps, wideKeys, modest, calm, conditions, laid).
  DERIVED. THE GIVEN ROWS OF THIS SEAT. 8 by the template 'for every input the law returns true; each argument reads behind the call as it read before'; 0 by the template 'total and deterministic' (their statements: YthfljbbigpophaaTotals.lean).
  GIVEN WITH THE SEED: the statements are not yours to turn. If you find one false, say at which input.
  Laid BY PROGRAM, IN A SANDBOX (cutbox-rows.mjs): the forced cells as the released guide's own fill.sh prints them over the translation a99edcc6ff430806… (all of the seat's roots in one cut). By AI agents, Wed Nov 11 2026. No macro, syntax, notation, axiom, sorry.
-/
import Derived.Test.YthfljbbigpophaaChecked
import GoSem.Claim
import GoSem.ClaimJoined
import GoSem.ClaimMapViews
import Derived.JoinedTies
import Derived.KernelRfl
namespace Go.Proofs.Ythfljbbigpophaa
/- THE CELL 'sum', in the pinned program and in every row, IS THE sha256 OF THE DUMP (.gsa) THAT YthfljbbigpophaaProg.lean LOADS. Nothing in Lean hashes anything: it is a label: what it is worth is what the hold of that sum in a sandbox is worth. -/
noncomputable def Try.pinned : Pinned := { name := "ythfljbbigpophaa", sum := "a99edcc6ff43080635794d54bde3428c6c674eba75e6fc794bbcc7c67cbe341d", checked := Try.checked }
namespace Rows
def none {H : Type} : Left H := { results := [], args := [] }

/-- 'laws.FnExactNewContentStore': WHATEVER THE INPUT: true; the input reads as it did. -/
def fnExactNewContentStoreSpec : ChangeSpec := { name := "fnExactNewContentStore", fn := fun _ => fun
  | [d] => { results := [.lit (.bool true)], args := [d] }
  | _ => none }
def fnExactNewContentStoreRow : OpenClaim := { program := "ythfljbbigpophaa", sum := "a99edcc6ff43080635794d54bde3428c6c674eba75e6fc794bbcc7c67cbe341d", func := "loop.example/g00507/laws.FnExactNewContentStore", spec := "fnExactNewContentStore", apart := false }
def FnExactNewContentStoreSaid : Prop := fnExactNewContentStoreRow.holds Try.pinned (OpenSpec.ofChange fnExactNewContentStoreSpec)

/-- ITS FALSE NEIGHBOUR: 'it returns false'. Refute it at one input. -/
def fnExactNewContentStoreWrong : ChangeSpec := { name := "fnExactNewContentStore", fn := fun _ => fun
  | [d] => { results := [.lit (.bool false)], args := [d] }
  | _ => none }
def FnExactNewContentStoreWrongFalsely : Prop := fnExactNewContentStoreRow.holds Try.pinned (OpenSpec.ofChange fnExactNewContentStoreWrong)

/-- 'laws.FnExactValidContentStore': WHATEVER THE INPUT: true; the input reads as it did. -/
def fnExactValidContentStoreSpec : ChangeSpec := { name := "fnExactValidContentStore", fn := fun _ => fun
  | [d] => { results := [.lit (.bool true)], args := [d] }
  | _ => none }
def fnExactValidContentStoreRow : OpenClaim := { program := "ythfljbbigpophaa", sum := "a99edcc6ff43080635794d54bde3428c6c674eba75e6fc794bbcc7c67cbe341d", func := "loop.example/g00507/laws.FnExactValidContentStore", spec := "fnExactValidContentStore", unfollowed := true, recurses := true, apart := false }
def FnExactValidContentStoreSaid : Prop := fnExactValidContentStoreRow.holds Try.pinned (OpenSpec.ofChange fnExactValidContentStoreSpec)

/-- ITS FALSE NEIGHBOUR: 'it returns false'. Refute it at one input. -/
def fnExactValidContentStoreWrong : ChangeSpec := { name := "fnExactValidContentStore", fn := fun _ => fun
  | [d] => { results := [.lit (.bool false)], args := [d] }
  | _ => none }
def FnExactValidContentStoreWrongFalsely : Prop := fnExactValidContentStoreRow.holds Try.pinned (OpenSpec.ofChange fnExactValidContentStoreWrong)

/-- 'laws.FnExactCacheData': WHATEVER THE INPUT: true; the input reads as it did. -/
def fnExactCacheDataSpec : ChangeSpec := { name := "fnExactCacheData", fn := fun _ => fun
  | [d1, d2, d3] => { results := [.lit (.bool true)], args := [d1, d2, d3] }
  | _ => none }
def fnExactCacheDataRow : OpenClaim := { program := "ythfljbbigpophaa", sum := "a99edcc6ff43080635794d54bde3428c6c674eba75e6fc794bbcc7c67cbe341d", func := "loop.example/g00507/laws.FnExactCacheData", spec := "fnExactCacheData", unfollowed := true, recurses := true, apart := false }
def FnExactCacheDataSaid : Prop := fnExactCacheDataRow.holds Try.pinned (OpenSpec.ofChange fnExactCacheDataSpec)

/-- ITS FALSE NEIGHBOUR: 'it returns false'. Refute it at one input. -/
def fnExactCacheDataWrong : ChangeSpec := { name := "fnExactCacheData", fn := fun _ => fun
  | [d1, d2, d3] => { results := [.lit (.bool false)], args := [d1, d2, d3] }
  | _ => none }
def FnExactCacheDataWrongFalsely : Prop := fnExactCacheDataRow.holds Try.pinned (OpenSpec.ofChange fnExactCacheDataWrong)

/-- 'laws.FnExactCacheLookup': WHATEVER THE INPUT: true; the input reads as it did. -/
def fnExactCacheLookupSpec : ChangeSpec := { name := "fnExactCacheLookup", fn := fun _ => fun
  | [d1, d2, d3] => { results := [.lit (.bool true)], args := [d1, d2, d3] }
  | _ => none }
def fnExactCacheLookupRow : OpenClaim := { program := "ythfljbbigpophaa", sum := "a99edcc6ff43080635794d54bde3428c6c674eba75e6fc794bbcc7c67cbe341d", func := "loop.example/g00507/laws.FnExactCacheLookup", spec := "fnExactCacheLookup", unfollowed := true, recurses := true, apart := false }
def FnExactCacheLookupSaid : Prop := fnExactCacheLookupRow.holds Try.pinned (OpenSpec.ofChange fnExactCacheLookupSpec)

/-- ITS FALSE NEIGHBOUR: 'it returns false'. Refute it at one input. -/
def fnExactCacheLookupWrong : ChangeSpec := { name := "fnExactCacheLookup", fn := fun _ => fun
  | [d1, d2, d3] => { results := [.lit (.bool false)], args := [d1, d2, d3] }
  | _ => none }
def FnExactCacheLookupWrongFalsely : Prop := fnExactCacheLookupRow.holds Try.pinned (OpenSpec.ofChange fnExactCacheLookupWrong)

/-- 'laws.FnExactTouch': WHATEVER THE INPUT: true; the input reads as it did. -/
def fnExactTouchSpec : ChangeSpec := { name := "fnExactTouch", fn := fun _ => fun
  | [d1, d2, d3] => { results := [.lit (.bool true)], args := [d1, d2, d3] }
  | _ => none }
def fnExactTouchRow : OpenClaim := { program := "ythfljbbigpophaa", sum := "a99edcc6ff43080635794d54bde3428c6c674eba75e6fc794bbcc7c67cbe341d", func := "loop.example/g00507/laws.FnExactTouch", spec := "fnExactTouch", unfollowed := true, recurses := true, apart := false }
def FnExactTouchSaid : Prop := fnExactTouchRow.holds Try.pinned (OpenSpec.ofChange fnExactTouchSpec)

/-- ITS FALSE NEIGHBOUR: 'it returns false'. Refute it at one input. -/
def fnExactTouchWrong : ChangeSpec := { name := "fnExactTouch", fn := fun _ => fun
  | [d1, d2, d3] => { results := [.lit (.bool false)], args := [d1, d2, d3] }
  | _ => none }
def FnExactTouchWrongFalsely : Prop := fnExactTouchRow.holds Try.pinned (OpenSpec.ofChange fnExactTouchWrong)

/-- 'laws.FnExactEvictStale': WHATEVER THE INPUT: true; the input reads as it did. -/
def fnExactEvictStaleSpec : ChangeSpec := { name := "fnExactEvictStale", fn := fun _ => fun
  | [d1, d2] => { results := [.lit (.bool true)], args := [d1, d2] }
  | _ => none }
def fnExactEvictStaleRow : OpenClaim := { program := "ythfljbbigpophaa", sum := "a99edcc6ff43080635794d54bde3428c6c674eba75e6fc794bbcc7c67cbe341d", func := "loop.example/g00507/laws.FnExactEvictStale", spec := "fnExactEvictStale", unfollowed := true, recurses := true, apart := false }
def FnExactEvictStaleSaid : Prop := fnExactEvictStaleRow.holds Try.pinned (OpenSpec.ofChange fnExactEvictStaleSpec)

/-- ITS FALSE NEIGHBOUR: 'it returns false'. Refute it at one input. -/
def fnExactEvictStaleWrong : ChangeSpec := { name := "fnExactEvictStale", fn := fun _ => fun
  | [d1, d2] => { results := [.lit (.bool false)], args := [d1, d2] }
  | _ => none }
def FnExactEvictStaleWrongFalsely : Prop := fnExactEvictStaleRow.holds Try.pinned (OpenSpec.ofChange fnExactEvictStaleWrong)

/-- 'laws.FnExactCachedNames': WHATEVER THE INPUT: true; the input reads as it did. -/
def fnExactCachedNamesSpec : ChangeSpec := { name := "fnExactCachedNames", fn := fun _ => fun
  | [d] => { results := [.lit (.bool true)], args := [d] }
  | _ => none }
def fnExactCachedNamesRow : OpenClaim := { program := "ythfljbbigpophaa", sum := "a99edcc6ff43080635794d54bde3428c6c674eba75e6fc794bbcc7c67cbe341d", func := "loop.example/g00507/laws.FnExactCachedNames", spec := "fnExactCachedNames", apart := false }
def FnExactCachedNamesSaid : Prop := fnExactCachedNamesRow.holds Try.pinned (OpenSpec.ofChange fnExactCachedNamesSpec)

/-- ITS FALSE NEIGHBOUR: 'it returns false'. Refute it at one input. -/
def fnExactCachedNamesWrong : ChangeSpec := { name := "fnExactCachedNames", fn := fun _ => fun
  | [d] => { results := [.lit (.bool false)], args := [d] }
  | _ => none }
def FnExactCachedNamesWrongFalsely : Prop := fnExactCachedNamesRow.holds Try.pinned (OpenSpec.ofChange fnExactCachedNamesWrong)

/-- 'laws.FnExactEqualContentStores': WHATEVER THE INPUT: true; the input reads as it did. -/
def fnExactEqualContentStoresSpec : ChangeSpec := { name := "fnExactEqualContentStores", fn := fun _ => fun
  | [d1, d2] => { results := [.lit (.bool true)], args := [d1, d2] }
  | _ => none }
def fnExactEqualContentStoresRow : OpenClaim := { program := "ythfljbbigpophaa", sum := "a99edcc6ff43080635794d54bde3428c6c674eba75e6fc794bbcc7c67cbe341d", func := "loop.example/g00507/laws.FnExactEqualContentStores", spec := "fnExactEqualContentStores", unfollowed := true, recurses := true, apart := false }
def FnExactEqualContentStoresSaid : Prop := fnExactEqualContentStoresRow.holds Try.pinned (OpenSpec.ofChange fnExactEqualContentStoresSpec)

/-- ITS FALSE NEIGHBOUR: 'it returns false'. Refute it at one input. -/
def fnExactEqualContentStoresWrong : ChangeSpec := { name := "fnExactEqualContentStores", fn := fun _ => fun
  | [d1, d2] => { results := [.lit (.bool false)], args := [d1, d2] }
  | _ => none }
def FnExactEqualContentStoresWrongFalsely : Prop := fnExactEqualContentStoresRow.holds Try.pinned (OpenSpec.ofChange fnExactEqualContentStoresWrong)

/- THE SECOND FORM. 'bulk': how many values and letters a reading holds, each counted each time it is reached (what is shared counts as often as it is met; a slice's spare places count too). A statement '..UptoSaid' is the law's where the arguments, and the package variables that the reading takes, are together of bulk at most 1048576: NARROWER than '..Said'. Prove '..Said' where nothing that the law and all that it calls make is longer than what came in: it says more and counts as full. Else prove '..UptoSaid'. A law counts once. -/
mutual
def uptoBulk {H : Type} : DataW H → Nat
  | .lit (.string bytes) => bytes.length + 1
  | .lit _ => 1
  | .nil => 1
  | .ptr d => uptoBulk d + 1
  | .slice elems spare => uptoBulkAll elems + uptoBulkAll spare + 1
  | .agg parts => uptoBulkAll parts + 1
  | .iface _ d => uptoBulk d + 1
  | .map entries => uptoBulkEntries entries + 1
  | .held _ => 1
def uptoBulkAll {H : Type} : List (DataW H) → Nat
  | [] => 0
  | d :: r => uptoBulk d + uptoBulkAll r
def uptoBulkEntries {H : Type} : List (Lit × DataW H) → Nat
  | [] => 0
  | x :: r => uptoBulkEntry x + uptoBulkEntries r
def uptoBulkEntry {H : Type} : Lit × DataW H → Nat
  | (.string bytes, d) => bytes.length + uptoBulk d + 1
  | (_, d) => uptoBulk d + 1
 end
def uptoSmall : (H : Type) → List (DataW H) → Bool := fun _ ds => decide (uptoBulkAll ds ≤ 1048576)
def OpenSpec.upto (s : _root_.Go.ChangeSpec) : _root_.Go.OpenSpec := { _root_.Go.OpenSpec.ofChange s with cond := some uptoSmall }

/-- 'laws.FnExactNewContentStore', WHERE WHAT IT READS IS OF BULK AT MOST 1048576: true; the input reads as it did. -/
def fnExactNewContentStoreUptoRow : OpenClaim := { program := "ythfljbbigpophaa", sum := "a99edcc6ff43080635794d54bde3428c6c674eba75e6fc794bbcc7c67cbe341d", func := "loop.example/g00507/laws.FnExactNewContentStore", spec := "fnExactNewContentStore", apart := false, narrowed := true }
def FnExactNewContentStoreUptoSaid : Prop := fnExactNewContentStoreUptoRow.holds Try.pinned (OpenSpec.upto fnExactNewContentStoreSpec)

/-- 'laws.FnExactValidContentStore', WHERE WHAT IT READS IS OF BULK AT MOST 1048576: true; the input reads as it did. -/
def fnExactValidContentStoreUptoRow : OpenClaim := { program := "ythfljbbigpophaa", sum := "a99edcc6ff43080635794d54bde3428c6c674eba75e6fc794bbcc7c67cbe341d", func := "loop.example/g00507/laws.FnExactValidContentStore", spec := "fnExactValidContentStore", unfollowed := true, recurses := true, apart := false, narrowed := true }
def FnExactValidContentStoreUptoSaid : Prop := fnExactValidContentStoreUptoRow.holds Try.pinned (OpenSpec.upto fnExactValidContentStoreSpec)

/-- 'laws.FnExactCacheData', WHERE WHAT IT READS IS OF BULK AT MOST 1048576: true; the input reads as it did. -/
def fnExactCacheDataUptoRow : OpenClaim := { program := "ythfljbbigpophaa", sum := "a99edcc6ff43080635794d54bde3428c6c674eba75e6fc794bbcc7c67cbe341d", func := "loop.example/g00507/laws.FnExactCacheData", spec := "fnExactCacheData", unfollowed := true, recurses := true, apart := false, narrowed := true }
def FnExactCacheDataUptoSaid : Prop := fnExactCacheDataUptoRow.holds Try.pinned (OpenSpec.upto fnExactCacheDataSpec)

/-- 'laws.FnExactCacheLookup', WHERE WHAT IT READS IS OF BULK AT MOST 1048576: true; the input reads as it did. -/
def fnExactCacheLookupUptoRow : OpenClaim := { program := "ythfljbbigpophaa", sum := "a99edcc6ff43080635794d54bde3428c6c674eba75e6fc794bbcc7c67cbe341d", func := "loop.example/g00507/laws.FnExactCacheLookup", spec := "fnExactCacheLookup", unfollowed := true, recurses := true, apart := false, narrowed := true }
def FnExactCacheLookupUptoSaid : Prop := fnExactCacheLookupUptoRow.holds Try.pinned (OpenSpec.upto fnExactCacheLookupSpec)

/-- 'laws.FnExactTouch', WHERE WHAT IT READS IS OF BULK AT MOST 1048576: true; the input reads as it did. -/
def fnExactTouchUptoRow : OpenClaim := { program := "ythfljbbigpophaa", sum := "a99edcc6ff43080635794d54bde3428c6c674eba75e6fc794bbcc7c67cbe341d", func := "loop.example/g00507/laws.FnExactTouch", spec := "fnExactTouch", unfollowed := true, recurses := true, apart := false, narrowed := true }
def FnExactTouchUptoSaid : Prop := fnExactTouchUptoRow.holds Try.pinned (OpenSpec.upto fnExactTouchSpec)

/-- 'laws.FnExactEvictStale', WHERE WHAT IT READS IS OF BULK AT MOST 1048576: true; the input reads as it did. -/
def fnExactEvictStaleUptoRow : OpenClaim := { program := "ythfljbbigpophaa", sum := "a99edcc6ff43080635794d54bde3428c6c674eba75e6fc794bbcc7c67cbe341d", func := "loop.example/g00507/laws.FnExactEvictStale", spec := "fnExactEvictStale", unfollowed := true, recurses := true, apart := false, narrowed := true }
def FnExactEvictStaleUptoSaid : Prop := fnExactEvictStaleUptoRow.holds Try.pinned (OpenSpec.upto fnExactEvictStaleSpec)

/-- 'laws.FnExactCachedNames', WHERE WHAT IT READS IS OF BULK AT MOST 1048576: true; the input reads as it did. -/
def fnExactCachedNamesUptoRow : OpenClaim := { program := "ythfljbbigpophaa", sum := "a99edcc6ff43080635794d54bde3428c6c674eba75e6fc794bbcc7c67cbe341d", func := "loop.example/g00507/laws.FnExactCachedNames", spec := "fnExactCachedNames", apart := false, narrowed := true }
def FnExactCachedNamesUptoSaid : Prop := fnExactCachedNamesUptoRow.holds Try.pinned (OpenSpec.upto fnExactCachedNamesSpec)

/-- 'laws.FnExactEqualContentStores', WHERE WHAT IT READS IS OF BULK AT MOST 1048576: true; the input reads as it did. -/
def fnExactEqualContentStoresUptoRow : OpenClaim := { program := "ythfljbbigpophaa", sum := "a99edcc6ff43080635794d54bde3428c6c674eba75e6fc794bbcc7c67cbe341d", func := "loop.example/g00507/laws.FnExactEqualContentStores", spec := "fnExactEqualContentStores", unfollowed := true, recurses := true, apart := false, narrowed := true }
def FnExactEqualContentStoresUptoSaid : Prop := fnExactEqualContentStoresUptoRow.holds Try.pinned (OpenSpec.upto fnExactEqualContentStoresSpec)

end Rows
end Go.Proofs.Ythfljbbigpophaa
