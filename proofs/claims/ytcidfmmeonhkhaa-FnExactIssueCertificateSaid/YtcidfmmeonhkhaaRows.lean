/-
  No cell of these rows narrows 'for every input' (looked for: loops, veiled, ifaces, maps, wideKeys, modest, calm, conditions, laid).
  DERIVED. THE GIVEN ROWS OF THIS SEAT. 5 by the template 'for every input the law returns true; each argument reads behind the call as it read before'; 0 by the template 'total and deterministic' (their statements: YtcidfmmeonhkhaaTotals.lean).
  GIVEN WITH THE SEED: the statements are not yours to turn. If you find one false, say at which input.
  Laid BY PROGRAM, IN A SANDBOX (cutbox-rows.mjs): the forced cells as the released guide's own fill.sh prints them over the translation 6a531a582bb6c461… (all of the seat's roots in one cut). By AI agents, Wed Nov 11 2026. No macro, syntax, notation, axiom, sorry.
-/
import Derived.Test.YtcidfmmeonhkhaaChecked
import GoSem.Claim
import GoSem.ClaimJoined
import GoSem.ClaimMapViews
import Derived.JoinedTies
import Derived.KernelRfl
namespace Go.Proofs.Ytcidfmmeonhkhaa
/- THE CELL 'sum', in the pinned program and in every row, IS THE sha256 OF THE DUMP (.gsa) THAT YtcidfmmeonhkhaaProg.lean LOADS. Nothing in Lean hashes anything: it is a label: what it is worth is what the hold of that sum in a sandbox is worth. -/
noncomputable def Try.pinned : Pinned := { name := "ytcidfmmeonhkhaa", sum := "6a531a582bb6c461b9560198378fea70737d0bc02520c214cf95b112d3789fb0", checked := Try.checked }
namespace Rows
def none {H : Type} : Left H := { results := [], args := [] }

/-- 'laws.FnExactValidTrust': WHATEVER THE INPUT: true; the input reads as it did. -/
def fnExactValidTrustSpec : ChangeSpec := { name := "fnExactValidTrust", fn := fun _ => fun
  | [d] => { results := [.lit (.bool true)], args := [d] }
  | _ => none }
def fnExactValidTrustRow : OpenClaim := { program := "ytcidfmmeonhkhaa", sum := "6a531a582bb6c461b9560198378fea70737d0bc02520c214cf95b112d3789fb0", func := "loop.example/g00507/laws.FnExactValidTrust", spec := "fnExactValidTrust", unfollowed := true, recurses := true, apart := false }
def FnExactValidTrustSaid : Prop := fnExactValidTrustRow.holds Try.pinned (OpenSpec.ofChange fnExactValidTrustSpec)

/-- ITS FALSE NEIGHBOUR: 'it returns false'. Refute it at one input. -/
def fnExactValidTrustWrong : ChangeSpec := { name := "fnExactValidTrust", fn := fun _ => fun
  | [d] => { results := [.lit (.bool false)], args := [d] }
  | _ => none }
def FnExactValidTrustWrongFalsely : Prop := fnExactValidTrustRow.holds Try.pinned (OpenSpec.ofChange fnExactValidTrustWrong)

/-- 'laws.FnExactKeyDigest': WHATEVER THE INPUT: true; the input reads as it did. -/
def fnExactKeyDigestSpec : ChangeSpec := { name := "fnExactKeyDigest", fn := fun _ => fun
  | [d1, d2] => { results := [.lit (.bool true)], args := [d1, d2] }
  | _ => none }
def fnExactKeyDigestRow : OpenClaim := { program := "ytcidfmmeonhkhaa", sum := "6a531a582bb6c461b9560198378fea70737d0bc02520c214cf95b112d3789fb0", func := "loop.example/g00507/laws.FnExactKeyDigest", spec := "fnExactKeyDigest", apart := false }
def FnExactKeyDigestSaid : Prop := fnExactKeyDigestRow.holds Try.pinned (OpenSpec.ofChange fnExactKeyDigestSpec)

/-- ITS FALSE NEIGHBOUR: 'it returns false'. Refute it at one input. -/
def fnExactKeyDigestWrong : ChangeSpec := { name := "fnExactKeyDigest", fn := fun _ => fun
  | [d1, d2] => { results := [.lit (.bool false)], args := [d1, d2] }
  | _ => none }
def FnExactKeyDigestWrongFalsely : Prop := fnExactKeyDigestRow.holds Try.pinned (OpenSpec.ofChange fnExactKeyDigestWrong)

/-- 'laws.FnExactFindCertificate': WHATEVER THE INPUT: true; the input reads as it did. -/
def fnExactFindCertificateSpec : ChangeSpec := { name := "fnExactFindCertificate", fn := fun _ => fun
  | [d1, d2, d3] => { results := [.lit (.bool true)], args := [d1, d2, d3] }
  | _ => none }
def fnExactFindCertificateRow : OpenClaim := { program := "ytcidfmmeonhkhaa", sum := "6a531a582bb6c461b9560198378fea70737d0bc02520c214cf95b112d3789fb0", func := "loop.example/g00507/laws.FnExactFindCertificate", spec := "fnExactFindCertificate", unfollowed := true, recurses := true, apart := false }
def FnExactFindCertificateSaid : Prop := fnExactFindCertificateRow.holds Try.pinned (OpenSpec.ofChange fnExactFindCertificateSpec)

/-- ITS FALSE NEIGHBOUR: 'it returns false'. Refute it at one input. -/
def fnExactFindCertificateWrong : ChangeSpec := { name := "fnExactFindCertificate", fn := fun _ => fun
  | [d1, d2, d3] => { results := [.lit (.bool false)], args := [d1, d2, d3] }
  | _ => none }
def FnExactFindCertificateWrongFalsely : Prop := fnExactFindCertificateRow.holds Try.pinned (OpenSpec.ofChange fnExactFindCertificateWrong)

/-- 'laws.FnExactIsAnchor': WHATEVER THE INPUT: true; the input reads as it did. -/
def fnExactIsAnchorSpec : ChangeSpec := { name := "fnExactIsAnchor", fn := fun _ => fun
  | [d1, d2] => { results := [.lit (.bool true)], args := [d1, d2] }
  | _ => none }
def fnExactIsAnchorRow : OpenClaim := { program := "ytcidfmmeonhkhaa", sum := "6a531a582bb6c461b9560198378fea70737d0bc02520c214cf95b112d3789fb0", func := "loop.example/g00507/laws.FnExactIsAnchor", spec := "fnExactIsAnchor", unfollowed := true, recurses := true, apart := false }
def FnExactIsAnchorSaid : Prop := fnExactIsAnchorRow.holds Try.pinned (OpenSpec.ofChange fnExactIsAnchorSpec)

/-- ITS FALSE NEIGHBOUR: 'it returns false'. Refute it at one input. -/
def fnExactIsAnchorWrong : ChangeSpec := { name := "fnExactIsAnchor", fn := fun _ => fun
  | [d1, d2] => { results := [.lit (.bool false)], args := [d1, d2] }
  | _ => none }
def FnExactIsAnchorWrongFalsely : Prop := fnExactIsAnchorRow.holds Try.pinned (OpenSpec.ofChange fnExactIsAnchorWrong)

/-- 'laws.FnExactIssueCertificate': WHATEVER THE INPUT: true; the input reads as it did. -/
def fnExactIssueCertificateSpec : ChangeSpec := { name := "fnExactIssueCertificate", fn := fun _ => fun
  | [d1, d2, d3, d4] => { results := [.lit (.bool true)], args := [d1, d2, d3, d4] }
  | _ => none }
def fnExactIssueCertificateRow : OpenClaim := { program := "ytcidfmmeonhkhaa", sum := "6a531a582bb6c461b9560198378fea70737d0bc02520c214cf95b112d3789fb0", func := "loop.example/g00507/laws.FnExactIssueCertificate", spec := "fnExactIssueCertificate", apart := false }
def FnExactIssueCertificateSaid : Prop := fnExactIssueCertificateRow.holds Try.pinned (OpenSpec.ofChange fnExactIssueCertificateSpec)

/-- ITS FALSE NEIGHBOUR: 'it returns false'. Refute it at one input. -/
def fnExactIssueCertificateWrong : ChangeSpec := { name := "fnExactIssueCertificate", fn := fun _ => fun
  | [d1, d2, d3, d4] => { results := [.lit (.bool false)], args := [d1, d2, d3, d4] }
  | _ => none }
def FnExactIssueCertificateWrongFalsely : Prop := fnExactIssueCertificateRow.holds Try.pinned (OpenSpec.ofChange fnExactIssueCertificateWrong)

/- THE SECOND FORM. 'bulk': how many values and letters a reading holds, each counted each time it is reached (what is shared counts as often as it is met; a slice's spare places count too). A statement '..UptoSaid' is the law's where the arguments, and the package variables that the reading takes, are together of bulk at most 1048576: NARROWER than '..Said'. Prove '..Said' where nothing that the law and all that it calls make is longer than what came in: it says more and counts as full. Else prove '..UptoSaid'. A law counts once. -/
mutual
def uptoBulk {H : Type} : DataW H → Nat
  | .lit (.string bytes) => bytes.length + 1
  | .lit _ => 1
  | .nil => 1
  | .ptr d => uptoBulk d + 1
  | .slice elems spare => uptoBulkAll elems + uptoBulkAll spare + 1
  | .agg parts => uptoBulkAll parts + 1
  | .iface _ d => uptoBulk d + 1
  | .map entries => uptoBulkEntries entries + 1
  | .held _ => 1
def uptoBulkAll {H : Type} : List (DataW H) → Nat
  | [] => 0
  | d :: r => uptoBulk d + uptoBulkAll r
def uptoBulkEntries {H : Type} : List (Lit × DataW H) → Nat
  | [] => 0
  | x :: r => uptoBulkEntry x + uptoBulkEntries r
def uptoBulkEntry {H : Type} : Lit × DataW H → Nat
  | (.string bytes, d) => bytes.length + uptoBulk d + 1
  | (_, d) => uptoBulk d + 1
 end
def uptoSmall : (H : Type) → List (DataW H) → Bool := fun _ ds => decide (uptoBulkAll ds ≤ 1048576)
def OpenSpec.upto (s : _root_.Go.ChangeSpec) : _root_.Go.OpenSpec := { _root_.Go.OpenSpec.ofChange s with cond := some uptoSmall }

/-- 'laws.FnExactValidTrust', WHERE WHAT IT READS IS OF BULK AT MOST 1048576: true; the input reads as it did. -/
def fnExactValidTrustUptoRow : OpenClaim := { program := "ytcidfmmeonhkhaa", sum := "6a531a582bb6c461b9560198378fea70737d0bc02520c214cf95b112d3789fb0", func := "loop.example/g00507/laws.FnExactValidTrust", spec := "fnExactValidTrust", unfollowed := true, recurses := true, apart := false, narrowed := true }
def FnExactValidTrustUptoSaid : Prop := fnExactValidTrustUptoRow.holds Try.pinned (OpenSpec.upto fnExactValidTrustSpec)

/-- 'laws.FnExactKeyDigest', WHERE WHAT IT READS IS OF BULK AT MOST 1048576: true; the input reads as it did. -/
def fnExactKeyDigestUptoRow : OpenClaim := { program := "ytcidfmmeonhkhaa", sum := "6a531a582bb6c461b9560198378fea70737d0bc02520c214cf95b112d3789fb0", func := "loop.example/g00507/laws.FnExactKeyDigest", spec := "fnExactKeyDigest", apart := false, narrowed := true }
def FnExactKeyDigestUptoSaid : Prop := fnExactKeyDigestUptoRow.holds Try.pinned (OpenSpec.upto fnExactKeyDigestSpec)

/-- 'laws.FnExactFindCertificate', WHERE WHAT IT READS IS OF BULK AT MOST 1048576: true; the input reads as it did. -/
def fnExactFindCertificateUptoRow : OpenClaim := { program := "ytcidfmmeonhkhaa", sum := "6a531a582bb6c461b9560198378fea70737d0bc02520c214cf95b112d3789fb0", func := "loop.example/g00507/laws.FnExactFindCertificate", spec := "fnExactFindCertificate", unfollowed := true, recurses := true, apart := false, narrowed := true }
def FnExactFindCertificateUptoSaid : Prop := fnExactFindCertificateUptoRow.holds Try.pinned (OpenSpec.upto fnExactFindCertificateSpec)

/-- 'laws.FnExactIsAnchor', WHERE WHAT IT READS IS OF BULK AT MOST 1048576: true; the input reads as it did. -/
def fnExactIsAnchorUptoRow : OpenClaim := { program := "ytcidfmmeonhkhaa", sum := "6a531a582bb6c461b9560198378fea70737d0bc02520c214cf95b112d3789fb0", func := "loop.example/g00507/laws.FnExactIsAnchor", spec := "fnExactIsAnchor", unfollowed := true, recurses := true, apart := false, narrowed := true }
def FnExactIsAnchorUptoSaid : Prop := fnExactIsAnchorUptoRow.holds Try.pinned (OpenSpec.upto fnExactIsAnchorSpec)

/-- 'laws.FnExactIssueCertificate', WHERE WHAT IT READS IS OF BULK AT MOST 1048576: true; the input reads as it did. -/
def fnExactIssueCertificateUptoRow : OpenClaim := { program := "ytcidfmmeonhkhaa", sum := "6a531a582bb6c461b9560198378fea70737d0bc02520c214cf95b112d3789fb0", func := "loop.example/g00507/laws.FnExactIssueCertificate", spec := "fnExactIssueCertificate", apart := false, narrowed := true }
def FnExactIssueCertificateUptoSaid : Prop := fnExactIssueCertificateUptoRow.holds Try.pinned (OpenSpec.upto fnExactIssueCertificateSpec)

end Rows
end Go.Proofs.Ytcidfmmeonhkhaa
