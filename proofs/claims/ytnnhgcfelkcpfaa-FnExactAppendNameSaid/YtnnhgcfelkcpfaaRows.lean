/-
  No cell of these rows narrows 'for every input' (looked for: loops, veiled, ifaces, maps, wideKeys, modest, calm, conditions, laid).
  DERIVED. THE GIVEN ROWS OF THIS SEAT. 7 by the template 'for every input the law returns true; each argument reads behind the call as it read before'; 0 by the template 'total and deterministic' (their statements: YtnnhgcfelkcpfaaTotals.lean).
  GIVEN WITH THE SEED: the statements are not yours to turn. If you find one false, say at which input.
  Laid BY PROGRAM, IN A SANDBOX (cutbox-rows.mjs): the forced cells as the released guide's own fill.sh prints them over the translation cbf2f24a40a8f109… (all of the seat's roots in one cut). By AI agents, Wed Nov 11 2026. No macro, syntax, notation, axiom, sorry.
-/
import Derived.Test.YtnnhgcfelkcpfaaChecked
import GoSem.Claim
import GoSem.ClaimJoined
import GoSem.ClaimMapViews
import Derived.JoinedTies
import Derived.KernelRfl
namespace Go.Proofs.Ytnnhgcfelkcpfaa
/- THE CELL 'sum', in the pinned program and in every row, IS THE sha256 OF THE DUMP (.gsa) THAT YtnnhgcfelkcpfaaProg.lean LOADS. Nothing in Lean hashes anything: it is a label: what it is worth is what the hold of that sum in a sandbox is worth. -/
noncomputable def Try.pinned : Pinned := { name := "ytnnhgcfelkcpfaa", sum := "cbf2f24a40a8f109a607639d550e6e4a02d3823e80c573d86ad80949859fea42", checked := Try.checked }
namespace Rows
def none {H : Type} : Left H := { results := [], args := [] }

/-- 'laws.FnExactValidInterest': WHATEVER THE INPUT: true; the input reads as it did. -/
def fnExactValidInterestSpec : ChangeSpec := { name := "fnExactValidInterest", fn := fun _ => fun
  | [d] => { results := [.lit (.bool true)], args := [d] }
  | _ => none }
def fnExactValidInterestRow : OpenClaim := { program := "ytnnhgcfelkcpfaa", sum := "cbf2f24a40a8f109a607639d550e6e4a02d3823e80c573d86ad80949859fea42", func := "loop.example/g00507/laws.FnExactValidInterest", spec := "fnExactValidInterest", apart := false }
def FnExactValidInterestSaid : Prop := fnExactValidInterestRow.holds Try.pinned (OpenSpec.ofChange fnExactValidInterestSpec)

/-- ITS FALSE NEIGHBOUR: 'it returns false'. Refute it at one input. -/
def fnExactValidInterestWrong : ChangeSpec := { name := "fnExactValidInterest", fn := fun _ => fun
  | [d] => { results := [.lit (.bool false)], args := [d] }
  | _ => none }
def FnExactValidInterestWrongFalsely : Prop := fnExactValidInterestRow.holds Try.pinned (OpenSpec.ofChange fnExactValidInterestWrong)

/-- 'laws.FnExactAppendName': WHATEVER THE INPUT: true; the input reads as it did. -/
def fnExactAppendNameSpec : ChangeSpec := { name := "fnExactAppendName", fn := fun _ => fun
  | [d1, d2] => { results := [.lit (.bool true)], args := [d1, d2] }
  | _ => none }
def fnExactAppendNameRow : OpenClaim := { program := "ytnnhgcfelkcpfaa", sum := "cbf2f24a40a8f109a607639d550e6e4a02d3823e80c573d86ad80949859fea42", func := "loop.example/g00507/laws.FnExactAppendName", spec := "fnExactAppendName", apart := false }
def FnExactAppendNameSaid : Prop := fnExactAppendNameRow.holds Try.pinned (OpenSpec.ofChange fnExactAppendNameSpec)

/-- ITS FALSE NEIGHBOUR: 'it returns false'. Refute it at one input. -/
def fnExactAppendNameWrong : ChangeSpec := { name := "fnExactAppendName", fn := fun _ => fun
  | [d1, d2] => { results := [.lit (.bool false)], args := [d1, d2] }
  | _ => none }
def FnExactAppendNameWrongFalsely : Prop := fnExactAppendNameRow.holds Try.pinned (OpenSpec.ofChange fnExactAppendNameWrong)

/-- 'laws.FnExactReadName': WHATEVER THE INPUT: true; the input reads as it did. -/
def fnExactReadNameSpec : ChangeSpec := { name := "fnExactReadName", fn := fun _ => fun
  | [d1, d2] => { results := [.lit (.bool true)], args := [d1, d2] }
  | _ => none }
def fnExactReadNameRow : OpenClaim := { program := "ytnnhgcfelkcpfaa", sum := "cbf2f24a40a8f109a607639d550e6e4a02d3823e80c573d86ad80949859fea42", func := "loop.example/g00507/laws.FnExactReadName", spec := "fnExactReadName", apart := false }
def FnExactReadNameSaid : Prop := fnExactReadNameRow.holds Try.pinned (OpenSpec.ofChange fnExactReadNameSpec)

/-- ITS FALSE NEIGHBOUR: 'it returns false'. Refute it at one input. -/
def fnExactReadNameWrong : ChangeSpec := { name := "fnExactReadName", fn := fun _ => fun
  | [d1, d2] => { results := [.lit (.bool false)], args := [d1, d2] }
  | _ => none }
def FnExactReadNameWrongFalsely : Prop := fnExactReadNameRow.holds Try.pinned (OpenSpec.ofChange fnExactReadNameWrong)

/-- 'laws.FnExactEncodeInterest': WHATEVER THE INPUT: true; the input reads as it did. -/
def fnExactEncodeInterestSpec : ChangeSpec := { name := "fnExactEncodeInterest", fn := fun _ => fun
  | [d] => { results := [.lit (.bool true)], args := [d] }
  | _ => none }
def fnExactEncodeInterestRow : OpenClaim := { program := "ytnnhgcfelkcpfaa", sum := "cbf2f24a40a8f109a607639d550e6e4a02d3823e80c573d86ad80949859fea42", func := "loop.example/g00507/laws.FnExactEncodeInterest", spec := "fnExactEncodeInterest", apart := false }
def FnExactEncodeInterestSaid : Prop := fnExactEncodeInterestRow.holds Try.pinned (OpenSpec.ofChange fnExactEncodeInterestSpec)

/-- ITS FALSE NEIGHBOUR: 'it returns false'. Refute it at one input. -/
def fnExactEncodeInterestWrong : ChangeSpec := { name := "fnExactEncodeInterest", fn := fun _ => fun
  | [d] => { results := [.lit (.bool false)], args := [d] }
  | _ => none }
def FnExactEncodeInterestWrongFalsely : Prop := fnExactEncodeInterestRow.holds Try.pinned (OpenSpec.ofChange fnExactEncodeInterestWrong)

/-- 'laws.FnExactDecodeInterest': WHATEVER THE INPUT: true; the input reads as it did. -/
def fnExactDecodeInterestSpec : ChangeSpec := { name := "fnExactDecodeInterest", fn := fun _ => fun
  | [d] => { results := [.lit (.bool true)], args := [d] }
  | _ => none }
def fnExactDecodeInterestRow : OpenClaim := { program := "ytnnhgcfelkcpfaa", sum := "cbf2f24a40a8f109a607639d550e6e4a02d3823e80c573d86ad80949859fea42", func := "loop.example/g00507/laws.FnExactDecodeInterest", spec := "fnExactDecodeInterest", apart := false }
def FnExactDecodeInterestSaid : Prop := fnExactDecodeInterestRow.holds Try.pinned (OpenSpec.ofChange fnExactDecodeInterestSpec)

/-- ITS FALSE NEIGHBOUR: 'it returns false'. Refute it at one input. -/
def fnExactDecodeInterestWrong : ChangeSpec := { name := "fnExactDecodeInterest", fn := fun _ => fun
  | [d] => { results := [.lit (.bool false)], args := [d] }
  | _ => none }
def FnExactDecodeInterestWrongFalsely : Prop := fnExactDecodeInterestRow.holds Try.pinned (OpenSpec.ofChange fnExactDecodeInterestWrong)

/-- 'laws.FnExactDecrementHops': WHATEVER THE INPUT: true; the input reads as it did. -/
def fnExactDecrementHopsSpec : ChangeSpec := { name := "fnExactDecrementHops", fn := fun _ => fun
  | [d] => { results := [.lit (.bool true)], args := [d] }
  | _ => none }
def fnExactDecrementHopsRow : OpenClaim := { program := "ytnnhgcfelkcpfaa", sum := "cbf2f24a40a8f109a607639d550e6e4a02d3823e80c573d86ad80949859fea42", func := "loop.example/g00507/laws.FnExactDecrementHops", spec := "fnExactDecrementHops", unfollowed := true, recurses := true, apart := false }
def FnExactDecrementHopsSaid : Prop := fnExactDecrementHopsRow.holds Try.pinned (OpenSpec.ofChange fnExactDecrementHopsSpec)

/-- ITS FALSE NEIGHBOUR: 'it returns false'. Refute it at one input. -/
def fnExactDecrementHopsWrong : ChangeSpec := { name := "fnExactDecrementHops", fn := fun _ => fun
  | [d] => { results := [.lit (.bool false)], args := [d] }
  | _ => none }
def FnExactDecrementHopsWrongFalsely : Prop := fnExactDecrementHopsRow.holds Try.pinned (OpenSpec.ofChange fnExactDecrementHopsWrong)

/-- 'laws.FnExactEqualInterests': WHATEVER THE INPUT: true; the input reads as it did. -/
def fnExactEqualInterestsSpec : ChangeSpec := { name := "fnExactEqualInterests", fn := fun _ => fun
  | [d1, d2] => { results := [.lit (.bool true)], args := [d1, d2] }
  | _ => none }
def fnExactEqualInterestsRow : OpenClaim := { program := "ytnnhgcfelkcpfaa", sum := "cbf2f24a40a8f109a607639d550e6e4a02d3823e80c573d86ad80949859fea42", func := "loop.example/g00507/laws.FnExactEqualInterests", spec := "fnExactEqualInterests", apart := false }
def FnExactEqualInterestsSaid : Prop := fnExactEqualInterestsRow.holds Try.pinned (OpenSpec.ofChange fnExactEqualInterestsSpec)

/-- ITS FALSE NEIGHBOUR: 'it returns false'. Refute it at one input. -/
def fnExactEqualInterestsWrong : ChangeSpec := { name := "fnExactEqualInterests", fn := fun _ => fun
  | [d1, d2] => { results := [.lit (.bool false)], args := [d1, d2] }
  | _ => none }
def FnExactEqualInterestsWrongFalsely : Prop := fnExactEqualInterestsRow.holds Try.pinned (OpenSpec.ofChange fnExactEqualInterestsWrong)

/- THE SECOND FORM. 'bulk': how many values and letters a reading holds, each counted each time it is reached (what is shared counts as often as it is met; a slice's spare places count too). A statement '..UptoSaid' is the law's where the arguments, and the package variables that the reading takes, are together of bulk at most 1048576: NARROWER than '..Said'. Prove '..Said' where nothing that the law and all that it calls make is longer than what came in: it says more and counts as full. Else prove '..UptoSaid'. A law counts once. -/
mutual
def uptoBulk {H : Type} : DataW H → Nat
  | .lit (.string bytes) => bytes.length + 1
  | .lit _ => 1
  | .nil => 1
  | .ptr d => uptoBulk d + 1
  | .slice elems spare => uptoBulkAll elems + uptoBulkAll spare + 1
  | .agg parts => uptoBulkAll parts + 1
  | .iface _ d => uptoBulk d + 1
  | .map entries => uptoBulkEntries entries + 1
  | .held _ => 1
def uptoBulkAll {H : Type} : List (DataW H) → Nat
  | [] => 0
  | d :: r => uptoBulk d + uptoBulkAll r
def uptoBulkEntries {H : Type} : List (Lit × DataW H) → Nat
  | [] => 0
  | x :: r => uptoBulkEntry x + uptoBulkEntries r
def uptoBulkEntry {H : Type} : Lit × DataW H → Nat
  | (.string bytes, d) => bytes.length + uptoBulk d + 1
  | (_, d) => uptoBulk d + 1
 end
def uptoSmall : (H : Type) → List (DataW H) → Bool := fun _ ds => decide (uptoBulkAll ds ≤ 1048576)
def OpenSpec.upto (s : _root_.Go.ChangeSpec) : _root_.Go.OpenSpec := { _root_.Go.OpenSpec.ofChange s with cond := some uptoSmall }

/-- 'laws.FnExactValidInterest', WHERE WHAT IT READS IS OF BULK AT MOST 1048576: true; the input reads as it did. -/
def fnExactValidInterestUptoRow : OpenClaim := { program := "ytnnhgcfelkcpfaa", sum := "cbf2f24a40a8f109a607639d550e6e4a02d3823e80c573d86ad80949859fea42", func := "loop.example/g00507/laws.FnExactValidInterest", spec := "fnExactValidInterest", apart := false, narrowed := true }
def FnExactValidInterestUptoSaid : Prop := fnExactValidInterestUptoRow.holds Try.pinned (OpenSpec.upto fnExactValidInterestSpec)

/-- 'laws.FnExactAppendName', WHERE WHAT IT READS IS OF BULK AT MOST 1048576: true; the input reads as it did. -/
def fnExactAppendNameUptoRow : OpenClaim := { program := "ytnnhgcfelkcpfaa", sum := "cbf2f24a40a8f109a607639d550e6e4a02d3823e80c573d86ad80949859fea42", func := "loop.example/g00507/laws.FnExactAppendName", spec := "fnExactAppendName", apart := false, narrowed := true }
def FnExactAppendNameUptoSaid : Prop := fnExactAppendNameUptoRow.holds Try.pinned (OpenSpec.upto fnExactAppendNameSpec)

/-- 'laws.FnExactReadName', WHERE WHAT IT READS IS OF BULK AT MOST 1048576: true; the input reads as it did. -/
def fnExactReadNameUptoRow : OpenClaim := { program := "ytnnhgcfelkcpfaa", sum := "cbf2f24a40a8f109a607639d550e6e4a02d3823e80c573d86ad80949859fea42", func := "loop.example/g00507/laws.FnExactReadName", spec := "fnExactReadName", apart := false, narrowed := true }
def FnExactReadNameUptoSaid : Prop := fnExactReadNameUptoRow.holds Try.pinned (OpenSpec.upto fnExactReadNameSpec)

/-- 'laws.FnExactEncodeInterest', WHERE WHAT IT READS IS OF BULK AT MOST 1048576: true; the input reads as it did. -/
def fnExactEncodeInterestUptoRow : OpenClaim := { program := "ytnnhgcfelkcpfaa", sum := "cbf2f24a40a8f109a607639d550e6e4a02d3823e80c573d86ad80949859fea42", func := "loop.example/g00507/laws.FnExactEncodeInterest", spec := "fnExactEncodeInterest", apart := false, narrowed := true }
def FnExactEncodeInterestUptoSaid : Prop := fnExactEncodeInterestUptoRow.holds Try.pinned (OpenSpec.upto fnExactEncodeInterestSpec)

/-- 'laws.FnExactDecodeInterest', WHERE WHAT IT READS IS OF BULK AT MOST 1048576: true; the input reads as it did. -/
def fnExactDecodeInterestUptoRow : OpenClaim := { program := "ytnnhgcfelkcpfaa", sum := "cbf2f24a40a8f109a607639d550e6e4a02d3823e80c573d86ad80949859fea42", func := "loop.example/g00507/laws.FnExactDecodeInterest", spec := "fnExactDecodeInterest", apart := false, narrowed := true }
def FnExactDecodeInterestUptoSaid : Prop := fnExactDecodeInterestUptoRow.holds Try.pinned (OpenSpec.upto fnExactDecodeInterestSpec)

/-- 'laws.FnExactDecrementHops', WHERE WHAT IT READS IS OF BULK AT MOST 1048576: true; the input reads as it did. -/
def fnExactDecrementHopsUptoRow : OpenClaim := { program := "ytnnhgcfelkcpfaa", sum := "cbf2f24a40a8f109a607639d550e6e4a02d3823e80c573d86ad80949859fea42", func := "loop.example/g00507/laws.FnExactDecrementHops", spec := "fnExactDecrementHops", unfollowed := true, recurses := true, apart := false, narrowed := true }
def FnExactDecrementHopsUptoSaid : Prop := fnExactDecrementHopsUptoRow.holds Try.pinned (OpenSpec.upto fnExactDecrementHopsSpec)

/-- 'laws.FnExactEqualInterests', WHERE WHAT IT READS IS OF BULK AT MOST 1048576: true; the input reads as it did. -/
def fnExactEqualInterestsUptoRow : OpenClaim := { program := "ytnnhgcfelkcpfaa", sum := "cbf2f24a40a8f109a607639d550e6e4a02d3823e80c573d86ad80949859fea42", func := "loop.example/g00507/laws.FnExactEqualInterests", spec := "fnExactEqualInterests", apart := false, narrowed := true }
def FnExactEqualInterestsUptoSaid : Prop := fnExactEqualInterestsUptoRow.holds Try.pinned (OpenSpec.upto fnExactEqualInterestsSpec)

end Rows
end Go.Proofs.Ytnnhgcfelkcpfaa
