/-
  No cell of these rows narrows 'for every input' (looked for: loops, veiled, ifaces, maps, wideKeys, modest, calm, conditions, laid).
  DERIVED. THE GIVEN ROWS OF THIS SEAT. 11 by the template 'for every input the law returns true; each argument reads behind the call as it read before'; 0 by the template 'total and deterministic' (their statements: YtjphnlkdbhcblaaTotals.lean).
  GIVEN WITH THE SEED: the statements are not yours to turn. If you find one false, say at which input.
  Laid BY PROGRAM, IN A SANDBOX (cutbox-rows.mjs): the forced cells as the released guide's own fill.sh prints them over the translation 9f18ff8a261cadb7… (all of the seat's roots in one cut). By AI agents, Wed Nov 11 2026. No macro, syntax, notation, axiom, sorry.
-/
import Derived.Test.YtjphnlkdbhcblaaChecked
import GoSem.Claim
import GoSem.ClaimJoined
import GoSem.ClaimMapViews
import Derived.JoinedTies
import Derived.KernelRfl
namespace Go.Proofs.Ytjphnlkdbhcblaa
/- THE CELL 'sum', in the pinned program and in every row, IS THE sha256 OF THE DUMP (.gsa) THAT YtjphnlkdbhcblaaProg.lean LOADS. Nothing in Lean hashes anything: it is a label: what it is worth is what the hold of that sum in a sandbox is worth. -/
noncomputable def Try.pinned : Pinned := { name := "ytjphnlkdbhcblaa", sum := "9f18ff8a261cadb769e02dd8e05f34b99db47e8ccd8c60ea31656ecf656930d9", checked := Try.checked }
namespace Rows
def none {H : Type} : Left H := { results := [], args := [] }

/-- 'laws.FnSeens': WHATEVER THE INPUT: true; the input reads as it did. -/
def fnSeensSpec : ChangeSpec := { name := "fnSeens", fn := fun _ => fun
  | [d] => { results := [.lit (.bool true)], args := [d] }
  | _ => none }
def fnSeensRow : OpenClaim := { program := "ytjphnlkdbhcblaa", sum := "9f18ff8a261cadb769e02dd8e05f34b99db47e8ccd8c60ea31656ecf656930d9", func := "loop.example/g00507/laws.FnSeens", spec := "fnSeens", unfollowed := true, recurses := true, apart := false }
def FnSeensSaid : Prop := fnSeensRow.holds Try.pinned (OpenSpec.ofChange fnSeensSpec)

/-- ITS FALSE NEIGHBOUR: 'it returns false'. Refute it at one input. -/
def fnSeensWrong : ChangeSpec := { name := "fnSeens", fn := fun _ => fun
  | [d] => { results := [.lit (.bool false)], args := [d] }
  | _ => none }
def FnSeensWrongFalsely : Prop := fnSeensRow.holds Try.pinned (OpenSpec.ofChange fnSeensWrong)

/-- 'laws.FnExactValidPending': WHATEVER THE INPUT: true; the input reads as it did. -/
def fnExactValidPendingSpec : ChangeSpec := { name := "fnExactValidPending", fn := fun _ => fun
  | [d] => { results := [.lit (.bool true)], args := [d] }
  | _ => none }
def fnExactValidPendingRow : OpenClaim := { program := "ytjphnlkdbhcblaa", sum := "9f18ff8a261cadb769e02dd8e05f34b99db47e8ccd8c60ea31656ecf656930d9", func := "loop.example/g00507/laws.FnExactValidPending", spec := "fnExactValidPending", unfollowed := true, recurses := true, apart := false }
def FnExactValidPendingSaid : Prop := fnExactValidPendingRow.holds Try.pinned (OpenSpec.ofChange fnExactValidPendingSpec)

/-- ITS FALSE NEIGHBOUR: 'it returns false'. Refute it at one input. -/
def fnExactValidPendingWrong : ChangeSpec := { name := "fnExactValidPending", fn := fun _ => fun
  | [d] => { results := [.lit (.bool false)], args := [d] }
  | _ => none }
def FnExactValidPendingWrongFalsely : Prop := fnExactValidPendingRow.holds Try.pinned (OpenSpec.ofChange fnExactValidPendingWrong)

/-- 'laws.FnExactIsLoop': WHATEVER THE INPUT: true; the input reads as it did. -/
def fnExactIsLoopSpec : ChangeSpec := { name := "fnExactIsLoop", fn := fun _ => fun
  | [d1, d2, d3] => { results := [.lit (.bool true)], args := [d1, d2, d3] }
  | _ => none }
def fnExactIsLoopRow : OpenClaim := { program := "ytjphnlkdbhcblaa", sum := "9f18ff8a261cadb769e02dd8e05f34b99db47e8ccd8c60ea31656ecf656930d9", func := "loop.example/g00507/laws.FnExactIsLoop", spec := "fnExactIsLoop", unfollowed := true, recurses := true, apart := false }
def FnExactIsLoopSaid : Prop := fnExactIsLoopRow.holds Try.pinned (OpenSpec.ofChange fnExactIsLoopSpec)

/-- ITS FALSE NEIGHBOUR: 'it returns false'. Refute it at one input. -/
def fnExactIsLoopWrong : ChangeSpec := { name := "fnExactIsLoop", fn := fun _ => fun
  | [d1, d2, d3] => { results := [.lit (.bool false)], args := [d1, d2, d3] }
  | _ => none }
def FnExactIsLoopWrongFalsely : Prop := fnExactIsLoopRow.holds Try.pinned (OpenSpec.ofChange fnExactIsLoopWrong)

/-- 'laws.FnExactHasPending': WHATEVER THE INPUT: true; the input reads as it did. -/
def fnExactHasPendingSpec : ChangeSpec := { name := "fnExactHasPending", fn := fun _ => fun
  | [d1, d2] => { results := [.lit (.bool true)], args := [d1, d2] }
  | _ => none }
def fnExactHasPendingRow : OpenClaim := { program := "ytjphnlkdbhcblaa", sum := "9f18ff8a261cadb769e02dd8e05f34b99db47e8ccd8c60ea31656ecf656930d9", func := "loop.example/g00507/laws.FnExactHasPending", spec := "fnExactHasPending", unfollowed := true, recurses := true, apart := false }
def FnExactHasPendingSaid : Prop := fnExactHasPendingRow.holds Try.pinned (OpenSpec.ofChange fnExactHasPendingSpec)

/-- ITS FALSE NEIGHBOUR: 'it returns false'. Refute it at one input. -/
def fnExactHasPendingWrong : ChangeSpec := { name := "fnExactHasPending", fn := fun _ => fun
  | [d1, d2] => { results := [.lit (.bool false)], args := [d1, d2] }
  | _ => none }
def FnExactHasPendingWrongFalsely : Prop := fnExactHasPendingRow.holds Try.pinned (OpenSpec.ofChange fnExactHasPendingWrong)

/-- 'laws.FnExactAddRequester': WHATEVER THE INPUT: true; the input reads as it did. -/
def fnExactAddRequesterSpec : ChangeSpec := { name := "fnExactAddRequester", fn := fun _ => fun
  | [d1, d2, d3, d4] => { results := [.lit (.bool true)], args := [d1, d2, d3, d4] }
  | _ => none }
def fnExactAddRequesterRow : OpenClaim := { program := "ytjphnlkdbhcblaa", sum := "9f18ff8a261cadb769e02dd8e05f34b99db47e8ccd8c60ea31656ecf656930d9", func := "loop.example/g00507/laws.FnExactAddRequester", spec := "fnExactAddRequester", inPlace := ["slices.overlaps[loop.example/g00507/impl.Requester]"], unfollowed := true, recurses := true, apart := false }
def FnExactAddRequesterSaid : Prop := fnExactAddRequesterRow.holds Try.pinned (OpenSpec.ofChange fnExactAddRequesterSpec)

/-- ITS FALSE NEIGHBOUR: 'it returns false'. Refute it at one input. -/
def fnExactAddRequesterWrong : ChangeSpec := { name := "fnExactAddRequester", fn := fun _ => fun
  | [d1, d2, d3, d4] => { results := [.lit (.bool false)], args := [d1, d2, d3, d4] }
  | _ => none }
def FnExactAddRequesterWrongFalsely : Prop := fnExactAddRequesterRow.holds Try.pinned (OpenSpec.ofChange fnExactAddRequesterWrong)

/-- 'laws.FnExactLastSentAt': WHATEVER THE INPUT: true; the input reads as it did. -/
def fnExactLastSentAtSpec : ChangeSpec := { name := "fnExactLastSentAt", fn := fun _ => fun
  | [d1, d2] => { results := [.lit (.bool true)], args := [d1, d2] }
  | _ => none }
def fnExactLastSentAtRow : OpenClaim := { program := "ytjphnlkdbhcblaa", sum := "9f18ff8a261cadb769e02dd8e05f34b99db47e8ccd8c60ea31656ecf656930d9", func := "loop.example/g00507/laws.FnExactLastSentAt", spec := "fnExactLastSentAt", unfollowed := true, recurses := true, apart := false }
def FnExactLastSentAtSaid : Prop := fnExactLastSentAtRow.holds Try.pinned (OpenSpec.ofChange fnExactLastSentAtSpec)

/-- ITS FALSE NEIGHBOUR: 'it returns false'. Refute it at one input. -/
def fnExactLastSentAtWrong : ChangeSpec := { name := "fnExactLastSentAt", fn := fun _ => fun
  | [d1, d2] => { results := [.lit (.bool false)], args := [d1, d2] }
  | _ => none }
def FnExactLastSentAtWrongFalsely : Prop := fnExactLastSentAtRow.holds Try.pinned (OpenSpec.ofChange fnExactLastSentAtWrong)

/-- 'laws.FnExactMarkSent': WHATEVER THE INPUT: true; the input reads as it did. -/
def fnExactMarkSentSpec : ChangeSpec := { name := "fnExactMarkSent", fn := fun _ => fun
  | [d1, d2, d3] => { results := [.lit (.bool true)], args := [d1, d2, d3] }
  | _ => none }
def fnExactMarkSentRow : OpenClaim := { program := "ytjphnlkdbhcblaa", sum := "9f18ff8a261cadb769e02dd8e05f34b99db47e8ccd8c60ea31656ecf656930d9", func := "loop.example/g00507/laws.FnExactMarkSent", spec := "fnExactMarkSent", unfollowed := true, recurses := true, apart := false }
def FnExactMarkSentSaid : Prop := fnExactMarkSentRow.holds Try.pinned (OpenSpec.ofChange fnExactMarkSentSpec)

/-- ITS FALSE NEIGHBOUR: 'it returns false'. Refute it at one input. -/
def fnExactMarkSentWrong : ChangeSpec := { name := "fnExactMarkSent", fn := fun _ => fun
  | [d1, d2, d3] => { results := [.lit (.bool false)], args := [d1, d2, d3] }
  | _ => none }
def FnExactMarkSentWrongFalsely : Prop := fnExactMarkSentRow.holds Try.pinned (OpenSpec.ofChange fnExactMarkSentWrong)

/-- 'laws.FnExactSatisfy': WHATEVER THE INPUT: true; the input reads as it did. -/
def fnExactSatisfySpec : ChangeSpec := { name := "fnExactSatisfy", fn := fun _ => fun
  | [d1, d2] => { results := [.lit (.bool true)], args := [d1, d2] }
  | _ => none }
def fnExactSatisfyRow : OpenClaim := { program := "ytjphnlkdbhcblaa", sum := "9f18ff8a261cadb769e02dd8e05f34b99db47e8ccd8c60ea31656ecf656930d9", func := "loop.example/g00507/laws.FnExactSatisfy", spec := "fnExactSatisfy", unfollowed := true, recurses := true, apart := false }
def FnExactSatisfySaid : Prop := fnExactSatisfyRow.holds Try.pinned (OpenSpec.ofChange fnExactSatisfySpec)

/-- ITS FALSE NEIGHBOUR: 'it returns false'. Refute it at one input. -/
def fnExactSatisfyWrong : ChangeSpec := { name := "fnExactSatisfy", fn := fun _ => fun
  | [d1, d2] => { results := [.lit (.bool false)], args := [d1, d2] }
  | _ => none }
def FnExactSatisfyWrongFalsely : Prop := fnExactSatisfyRow.holds Try.pinned (OpenSpec.ofChange fnExactSatisfyWrong)

/-- 'laws.FnExactExpirePending': WHATEVER THE INPUT: true; the input reads as it did. -/
def fnExactExpirePendingSpec : ChangeSpec := { name := "fnExactExpirePending", fn := fun _ => fun
  | [d1, d2] => { results := [.lit (.bool true)], args := [d1, d2] }
  | _ => none }
def fnExactExpirePendingRow : OpenClaim := { program := "ytjphnlkdbhcblaa", sum := "9f18ff8a261cadb769e02dd8e05f34b99db47e8ccd8c60ea31656ecf656930d9", func := "loop.example/g00507/laws.FnExactExpirePending", spec := "fnExactExpirePending", unfollowed := true, recurses := true, apart := false }
def FnExactExpirePendingSaid : Prop := fnExactExpirePendingRow.holds Try.pinned (OpenSpec.ofChange fnExactExpirePendingSpec)

/-- ITS FALSE NEIGHBOUR: 'it returns false'. Refute it at one input. -/
def fnExactExpirePendingWrong : ChangeSpec := { name := "fnExactExpirePending", fn := fun _ => fun
  | [d1, d2] => { results := [.lit (.bool false)], args := [d1, d2] }
  | _ => none }
def FnExactExpirePendingWrongFalsely : Prop := fnExactExpirePendingRow.holds Try.pinned (OpenSpec.ofChange fnExactExpirePendingWrong)

/-- 'laws.FnExactAddSeenNonce': WHATEVER THE INPUT: true; the input reads as it did. -/
def fnExactAddSeenNonceSpec : ChangeSpec := { name := "fnExactAddSeenNonce", fn := fun _ => fun
  | [d1, d2, d3] => { results := [.lit (.bool true)], args := [d1, d2, d3] }
  | _ => none }
def fnExactAddSeenNonceRow : OpenClaim := { program := "ytjphnlkdbhcblaa", sum := "9f18ff8a261cadb769e02dd8e05f34b99db47e8ccd8c60ea31656ecf656930d9", func := "loop.example/g00507/laws.FnExactAddSeenNonce", spec := "fnExactAddSeenNonce", apart := false }
def FnExactAddSeenNonceSaid : Prop := fnExactAddSeenNonceRow.holds Try.pinned (OpenSpec.ofChange fnExactAddSeenNonceSpec)

/-- ITS FALSE NEIGHBOUR: 'it returns false'. Refute it at one input. -/
def fnExactAddSeenNonceWrong : ChangeSpec := { name := "fnExactAddSeenNonce", fn := fun _ => fun
  | [d1, d2, d3] => { results := [.lit (.bool false)], args := [d1, d2, d3] }
  | _ => none }
def FnExactAddSeenNonceWrongFalsely : Prop := fnExactAddSeenNonceRow.holds Try.pinned (OpenSpec.ofChange fnExactAddSeenNonceWrong)

/-- 'laws.FnExactEqualPending': WHATEVER THE INPUT: true; the input reads as it did. -/
def fnExactEqualPendingSpec : ChangeSpec := { name := "fnExactEqualPending", fn := fun _ => fun
  | [d1, d2] => { results := [.lit (.bool true)], args := [d1, d2] }
  | _ => none }
def fnExactEqualPendingRow : OpenClaim := { program := "ytjphnlkdbhcblaa", sum := "9f18ff8a261cadb769e02dd8e05f34b99db47e8ccd8c60ea31656ecf656930d9", func := "loop.example/g00507/laws.FnExactEqualPending", spec := "fnExactEqualPending", unfollowed := true, recurses := true, apart := false }
def FnExactEqualPendingSaid : Prop := fnExactEqualPendingRow.holds Try.pinned (OpenSpec.ofChange fnExactEqualPendingSpec)

/-- ITS FALSE NEIGHBOUR: 'it returns false'. Refute it at one input. -/
def fnExactEqualPendingWrong : ChangeSpec := { name := "fnExactEqualPending", fn := fun _ => fun
  | [d1, d2] => { results := [.lit (.bool false)], args := [d1, d2] }
  | _ => none }
def FnExactEqualPendingWrongFalsely : Prop := fnExactEqualPendingRow.holds Try.pinned (OpenSpec.ofChange fnExactEqualPendingWrong)

/- THE SECOND FORM. 'bulk': how many values and letters a reading holds, each counted each time it is reached (what is shared counts as often as it is met; a slice's spare places count too). A statement '..UptoSaid' is the law's where the arguments, and the package variables that the reading takes, are together of bulk at most 1048576: NARROWER than '..Said'. Prove '..Said' where nothing that the law and all that it calls make is longer than what came in: it says more and counts as full. Else prove '..UptoSaid'. A law counts once. -/
mutual
def uptoBulk {H : Type} : DataW H → Nat
  | .lit (.string bytes) => bytes.length + 1
  | .lit _ => 1
  | .nil => 1
  | .ptr d => uptoBulk d + 1
  | .slice elems spare => uptoBulkAll elems + uptoBulkAll spare + 1
  | .agg parts => uptoBulkAll parts + 1
  | .iface _ d => uptoBulk d + 1
  | .map entries => uptoBulkEntries entries + 1
  | .held _ => 1
def uptoBulkAll {H : Type} : List (DataW H) → Nat
  | [] => 0
  | d :: r => uptoBulk d + uptoBulkAll r
def uptoBulkEntries {H : Type} : List (Lit × DataW H) → Nat
  | [] => 0
  | x :: r => uptoBulkEntry x + uptoBulkEntries r
def uptoBulkEntry {H : Type} : Lit × DataW H → Nat
  | (.string bytes, d) => bytes.length + uptoBulk d + 1
  | (_, d) => uptoBulk d + 1
 end
def uptoSmall : (H : Type) → List (DataW H) → Bool := fun _ ds => decide (uptoBulkAll ds ≤ 1048576)
def OpenSpec.upto (s : _root_.Go.ChangeSpec) : _root_.Go.OpenSpec := { _root_.Go.OpenSpec.ofChange s with cond := some uptoSmall }

/-- 'laws.FnSeens', WHERE WHAT IT READS IS OF BULK AT MOST 1048576: true; the input reads as it did. -/
def fnSeensUptoRow : OpenClaim := { program := "ytjphnlkdbhcblaa", sum := "9f18ff8a261cadb769e02dd8e05f34b99db47e8ccd8c60ea31656ecf656930d9", func := "loop.example/g00507/laws.FnSeens", spec := "fnSeens", unfollowed := true, recurses := true, apart := false, narrowed := true }
def FnSeensUptoSaid : Prop := fnSeensUptoRow.holds Try.pinned (OpenSpec.upto fnSeensSpec)

/-- 'laws.FnExactValidPending', WHERE WHAT IT READS IS OF BULK AT MOST 1048576: true; the input reads as it did. -/
def fnExactValidPendingUptoRow : OpenClaim := { program := "ytjphnlkdbhcblaa", sum := "9f18ff8a261cadb769e02dd8e05f34b99db47e8ccd8c60ea31656ecf656930d9", func := "loop.example/g00507/laws.FnExactValidPending", spec := "fnExactValidPending", unfollowed := true, recurses := true, apart := false, narrowed := true }
def FnExactValidPendingUptoSaid : Prop := fnExactValidPendingUptoRow.holds Try.pinned (OpenSpec.upto fnExactValidPendingSpec)

/-- 'laws.FnExactIsLoop', WHERE WHAT IT READS IS OF BULK AT MOST 1048576: true; the input reads as it did. -/
def fnExactIsLoopUptoRow : OpenClaim := { program := "ytjphnlkdbhcblaa", sum := "9f18ff8a261cadb769e02dd8e05f34b99db47e8ccd8c60ea31656ecf656930d9", func := "loop.example/g00507/laws.FnExactIsLoop", spec := "fnExactIsLoop", unfollowed := true, recurses := true, apart := false, narrowed := true }
def FnExactIsLoopUptoSaid : Prop := fnExactIsLoopUptoRow.holds Try.pinned (OpenSpec.upto fnExactIsLoopSpec)

/-- 'laws.FnExactHasPending', WHERE WHAT IT READS IS OF BULK AT MOST 1048576: true; the input reads as it did. -/
def fnExactHasPendingUptoRow : OpenClaim := { program := "ytjphnlkdbhcblaa", sum := "9f18ff8a261cadb769e02dd8e05f34b99db47e8ccd8c60ea31656ecf656930d9", func := "loop.example/g00507/laws.FnExactHasPending", spec := "fnExactHasPending", unfollowed := true, recurses := true, apart := false, narrowed := true }
def FnExactHasPendingUptoSaid : Prop := fnExactHasPendingUptoRow.holds Try.pinned (OpenSpec.upto fnExactHasPendingSpec)

/-- 'laws.FnExactAddRequester', WHERE WHAT IT READS IS OF BULK AT MOST 1048576: true; the input reads as it did. -/
def fnExactAddRequesterUptoRow : OpenClaim := { program := "ytjphnlkdbhcblaa", sum := "9f18ff8a261cadb769e02dd8e05f34b99db47e8ccd8c60ea31656ecf656930d9", func := "loop.example/g00507/laws.FnExactAddRequester", spec := "fnExactAddRequester", inPlace := ["slices.overlaps[loop.example/g00507/impl.Requester]"], unfollowed := true, recurses := true, apart := false, narrowed := true }
def FnExactAddRequesterUptoSaid : Prop := fnExactAddRequesterUptoRow.holds Try.pinned (OpenSpec.upto fnExactAddRequesterSpec)

/-- 'laws.FnExactLastSentAt', WHERE WHAT IT READS IS OF BULK AT MOST 1048576: true; the input reads as it did. -/
def fnExactLastSentAtUptoRow : OpenClaim := { program := "ytjphnlkdbhcblaa", sum := "9f18ff8a261cadb769e02dd8e05f34b99db47e8ccd8c60ea31656ecf656930d9", func := "loop.example/g00507/laws.FnExactLastSentAt", spec := "fnExactLastSentAt", unfollowed := true, recurses := true, apart := false, narrowed := true }
def FnExactLastSentAtUptoSaid : Prop := fnExactLastSentAtUptoRow.holds Try.pinned (OpenSpec.upto fnExactLastSentAtSpec)

/-- 'laws.FnExactMarkSent', WHERE WHAT IT READS IS OF BULK AT MOST 1048576: true; the input reads as it did. -/
def fnExactMarkSentUptoRow : OpenClaim := { program := "ytjphnlkdbhcblaa", sum := "9f18ff8a261cadb769e02dd8e05f34b99db47e8ccd8c60ea31656ecf656930d9", func := "loop.example/g00507/laws.FnExactMarkSent", spec := "fnExactMarkSent", unfollowed := true, recurses := true, apart := false, narrowed := true }
def FnExactMarkSentUptoSaid : Prop := fnExactMarkSentUptoRow.holds Try.pinned (OpenSpec.upto fnExactMarkSentSpec)

/-- 'laws.FnExactSatisfy', WHERE WHAT IT READS IS OF BULK AT MOST 1048576: true; the input reads as it did. -/
def fnExactSatisfyUptoRow : OpenClaim := { program := "ytjphnlkdbhcblaa", sum := "9f18ff8a261cadb769e02dd8e05f34b99db47e8ccd8c60ea31656ecf656930d9", func := "loop.example/g00507/laws.FnExactSatisfy", spec := "fnExactSatisfy", unfollowed := true, recurses := true, apart := false, narrowed := true }
def FnExactSatisfyUptoSaid : Prop := fnExactSatisfyUptoRow.holds Try.pinned (OpenSpec.upto fnExactSatisfySpec)

/-- 'laws.FnExactExpirePending', WHERE WHAT IT READS IS OF BULK AT MOST 1048576: true; the input reads as it did. -/
def fnExactExpirePendingUptoRow : OpenClaim := { program := "ytjphnlkdbhcblaa", sum := "9f18ff8a261cadb769e02dd8e05f34b99db47e8ccd8c60ea31656ecf656930d9", func := "loop.example/g00507/laws.FnExactExpirePending", spec := "fnExactExpirePending", unfollowed := true, recurses := true, apart := false, narrowed := true }
def FnExactExpirePendingUptoSaid : Prop := fnExactExpirePendingUptoRow.holds Try.pinned (OpenSpec.upto fnExactExpirePendingSpec)

/-- 'laws.FnExactAddSeenNonce', WHERE WHAT IT READS IS OF BULK AT MOST 1048576: true; the input reads as it did. -/
def fnExactAddSeenNonceUptoRow : OpenClaim := { program := "ytjphnlkdbhcblaa", sum := "9f18ff8a261cadb769e02dd8e05f34b99db47e8ccd8c60ea31656ecf656930d9", func := "loop.example/g00507/laws.FnExactAddSeenNonce", spec := "fnExactAddSeenNonce", apart := false, narrowed := true }
def FnExactAddSeenNonceUptoSaid : Prop := fnExactAddSeenNonceUptoRow.holds Try.pinned (OpenSpec.upto fnExactAddSeenNonceSpec)

/-- 'laws.FnExactEqualPending', WHERE WHAT IT READS IS OF BULK AT MOST 1048576: true; the input reads as it did. -/
def fnExactEqualPendingUptoRow : OpenClaim := { program := "ytjphnlkdbhcblaa", sum := "9f18ff8a261cadb769e02dd8e05f34b99db47e8ccd8c60ea31656ecf656930d9", func := "loop.example/g00507/laws.FnExactEqualPending", spec := "fnExactEqualPending", unfollowed := true, recurses := true, apart := false, narrowed := true }
def FnExactEqualPendingUptoSaid : Prop := fnExactEqualPendingUptoRow.holds Try.pinned (OpenSpec.upto fnExactEqualPendingSpec)

end Rows
end Go.Proofs.Ytjphnlkdbhcblaa
