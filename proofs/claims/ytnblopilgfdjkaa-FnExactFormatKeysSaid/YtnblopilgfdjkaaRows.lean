/-
  No cell of these rows narrows 'for every input' (looked for: loops, veiled, ifaces, maps, wideKeys, modest, calm, conditions, laid).
  DERIVED. THE GIVEN ROWS OF THIS SEAT. 7 by the template 'for every input the law returns true; each argument reads behind the call as it read before'; 0 by the template 'total and deterministic' (their statements: YtnblopilgfdjkaaTotals.lean).
  GIVEN WITH THE SEED: the statements are not yours to turn. If you find one false, say at which input.
  Laid BY PROGRAM, IN A SANDBOX (cutbox-rows.mjs): the forced cells as the released guide's own fill.sh prints them over the translation 787b781f1940fd0c… (all of the seat's roots in one cut). By AI agents, Wed Nov 11 2026. No macro, syntax, notation, axiom, sorry.
-/
import Derived.Test.YtnblopilgfdjkaaChecked
import GoSem.Claim
import GoSem.ClaimJoined
import GoSem.ClaimMapViews
import Derived.JoinedTies
import Derived.KernelRfl
namespace Go.Proofs.Ytnblopilgfdjkaa
/- THE CELL 'sum', in the pinned program and in every row, IS THE sha256 OF THE DUMP (.gsa) THAT YtnblopilgfdjkaaProg.lean LOADS. Nothing in Lean hashes anything: it is a label: what it is worth is what the hold of that sum in a sandbox is worth. -/
noncomputable def Try.pinned : Pinned := { name := "ytnblopilgfdjkaa", sum := "787b781f1940fd0c3c693866f513ee4bcf91545ee82eb7bbbdad8f836811f027", checked := Try.checked }
namespace Rows
def none {H : Type} : Left H := { results := [], args := [] }

/-- 'laws.FnExactValidKeys': WHATEVER THE INPUT: true; the input reads as it did. -/
def fnExactValidKeysSpec : ChangeSpec := { name := "fnExactValidKeys", fn := fun _ => fun
  | [d] => { results := [.lit (.bool true)], args := [d] }
  | _ => none }
def fnExactValidKeysRow : OpenClaim := { program := "ytnblopilgfdjkaa", sum := "787b781f1940fd0c3c693866f513ee4bcf91545ee82eb7bbbdad8f836811f027", func := "loop.example/g00507/laws.FnExactValidKeys", spec := "fnExactValidKeys", apart := false }
def FnExactValidKeysSaid : Prop := fnExactValidKeysRow.holds Try.pinned (OpenSpec.ofChange fnExactValidKeysSpec)

/-- ITS FALSE NEIGHBOUR: 'it returns false'. Refute it at one input. -/
def fnExactValidKeysWrong : ChangeSpec := { name := "fnExactValidKeys", fn := fun _ => fun
  | [d] => { results := [.lit (.bool false)], args := [d] }
  | _ => none }
def FnExactValidKeysWrongFalsely : Prop := fnExactValidKeysRow.holds Try.pinned (OpenSpec.ofChange fnExactValidKeysWrong)

/-- 'laws.FnExactSecretOf': WHATEVER THE INPUT: true; the input reads as it did. -/
def fnExactSecretOfSpec : ChangeSpec := { name := "fnExactSecretOf", fn := fun _ => fun
  | [d1, d2] => { results := [.lit (.bool true)], args := [d1, d2] }
  | _ => none }
def fnExactSecretOfRow : OpenClaim := { program := "ytnblopilgfdjkaa", sum := "787b781f1940fd0c3c693866f513ee4bcf91545ee82eb7bbbdad8f836811f027", func := "loop.example/g00507/laws.FnExactSecretOf", spec := "fnExactSecretOf", apart := false }
def FnExactSecretOfSaid : Prop := fnExactSecretOfRow.holds Try.pinned (OpenSpec.ofChange fnExactSecretOfSpec)

/-- ITS FALSE NEIGHBOUR: 'it returns false'. Refute it at one input. -/
def fnExactSecretOfWrong : ChangeSpec := { name := "fnExactSecretOf", fn := fun _ => fun
  | [d1, d2] => { results := [.lit (.bool false)], args := [d1, d2] }
  | _ => none }
def FnExactSecretOfWrongFalsely : Prop := fnExactSecretOfRow.holds Try.pinned (OpenSpec.ofChange fnExactSecretOfWrong)

/-- 'laws.FnExactSignWithKey': WHATEVER THE INPUT: true; the input reads as it did. -/
def fnExactSignWithKeySpec : ChangeSpec := { name := "fnExactSignWithKey", fn := fun _ => fun
  | [d1, d2, d3, d4, d5] => { results := [.lit (.bool true)], args := [d1, d2, d3, d4, d5] }
  | _ => none }
def fnExactSignWithKeyRow : OpenClaim := { program := "ytnblopilgfdjkaa", sum := "787b781f1940fd0c3c693866f513ee4bcf91545ee82eb7bbbdad8f836811f027", func := "loop.example/g00507/laws.FnExactSignWithKey", spec := "fnExactSignWithKey", apart := false }
def FnExactSignWithKeySaid : Prop := fnExactSignWithKeyRow.holds Try.pinned (OpenSpec.ofChange fnExactSignWithKeySpec)

/-- ITS FALSE NEIGHBOUR: 'it returns false'. Refute it at one input. -/
def fnExactSignWithKeyWrong : ChangeSpec := { name := "fnExactSignWithKey", fn := fun _ => fun
  | [d1, d2, d3, d4, d5] => { results := [.lit (.bool false)], args := [d1, d2, d3, d4, d5] }
  | _ => none }
def FnExactSignWithKeyWrongFalsely : Prop := fnExactSignWithKeyRow.holds Try.pinned (OpenSpec.ofChange fnExactSignWithKeyWrong)

/-- 'laws.FnExactVerifySignature': WHATEVER THE INPUT: true; the input reads as it did. -/
def fnExactVerifySignatureSpec : ChangeSpec := { name := "fnExactVerifySignature", fn := fun _ => fun
  | [d1, d2] => { results := [.lit (.bool true)], args := [d1, d2] }
  | _ => none }
def fnExactVerifySignatureRow : OpenClaim := { program := "ytnblopilgfdjkaa", sum := "787b781f1940fd0c3c693866f513ee4bcf91545ee82eb7bbbdad8f836811f027", func := "loop.example/g00507/laws.FnExactVerifySignature", spec := "fnExactVerifySignature", apart := false }
def FnExactVerifySignatureSaid : Prop := fnExactVerifySignatureRow.holds Try.pinned (OpenSpec.ofChange fnExactVerifySignatureSpec)

/-- ITS FALSE NEIGHBOUR: 'it returns false'. Refute it at one input. -/
def fnExactVerifySignatureWrong : ChangeSpec := { name := "fnExactVerifySignature", fn := fun _ => fun
  | [d1, d2] => { results := [.lit (.bool false)], args := [d1, d2] }
  | _ => none }
def FnExactVerifySignatureWrongFalsely : Prop := fnExactVerifySignatureRow.holds Try.pinned (OpenSpec.ofChange fnExactVerifySignatureWrong)

/-- 'laws.FnExactMatchingKeys': WHATEVER THE INPUT: true; the input reads as it did. -/
def fnExactMatchingKeysSpec : ChangeSpec := { name := "fnExactMatchingKeys", fn := fun _ => fun
  | [d1, d2] => { results := [.lit (.bool true)], args := [d1, d2] }
  | _ => none }
def fnExactMatchingKeysRow : OpenClaim := { program := "ytnblopilgfdjkaa", sum := "787b781f1940fd0c3c693866f513ee4bcf91545ee82eb7bbbdad8f836811f027", func := "loop.example/g00507/laws.FnExactMatchingKeys", spec := "fnExactMatchingKeys", apart := false }
def FnExactMatchingKeysSaid : Prop := fnExactMatchingKeysRow.holds Try.pinned (OpenSpec.ofChange fnExactMatchingKeysSpec)

/-- ITS FALSE NEIGHBOUR: 'it returns false'. Refute it at one input. -/
def fnExactMatchingKeysWrong : ChangeSpec := { name := "fnExactMatchingKeys", fn := fun _ => fun
  | [d1, d2] => { results := [.lit (.bool false)], args := [d1, d2] }
  | _ => none }
def FnExactMatchingKeysWrongFalsely : Prop := fnExactMatchingKeysRow.holds Try.pinned (OpenSpec.ofChange fnExactMatchingKeysWrong)

/-- 'laws.FnExactAddKey': WHATEVER THE INPUT: true; the input reads as it did. -/
def fnExactAddKeySpec : ChangeSpec := { name := "fnExactAddKey", fn := fun _ => fun
  | [d1, d2] => { results := [.lit (.bool true)], args := [d1, d2] }
  | _ => none }
def fnExactAddKeyRow : OpenClaim := { program := "ytnblopilgfdjkaa", sum := "787b781f1940fd0c3c693866f513ee4bcf91545ee82eb7bbbdad8f836811f027", func := "loop.example/g00507/laws.FnExactAddKey", spec := "fnExactAddKey", apart := false }
def FnExactAddKeySaid : Prop := fnExactAddKeyRow.holds Try.pinned (OpenSpec.ofChange fnExactAddKeySpec)

/-- ITS FALSE NEIGHBOUR: 'it returns false'. Refute it at one input. -/
def fnExactAddKeyWrong : ChangeSpec := { name := "fnExactAddKey", fn := fun _ => fun
  | [d1, d2] => { results := [.lit (.bool false)], args := [d1, d2] }
  | _ => none }
def FnExactAddKeyWrongFalsely : Prop := fnExactAddKeyRow.holds Try.pinned (OpenSpec.ofChange fnExactAddKeyWrong)

/-- 'laws.FnExactFormatKeys': WHATEVER THE INPUT: true; the input reads as it did. -/
def fnExactFormatKeysSpec : ChangeSpec := { name := "fnExactFormatKeys", fn := fun _ => fun
  | [d] => { results := [.lit (.bool true)], args := [d] }
  | _ => none }
def fnExactFormatKeysRow : OpenClaim := { program := "ytnblopilgfdjkaa", sum := "787b781f1940fd0c3c693866f513ee4bcf91545ee82eb7bbbdad8f836811f027", func := "loop.example/g00507/laws.FnExactFormatKeys", spec := "fnExactFormatKeys", inPlace := ["internal/abi.NoEscape", "internal/bytealg.MakeNoZero"], apart := false }
def FnExactFormatKeysSaid : Prop := fnExactFormatKeysRow.holds Try.pinned (OpenSpec.ofChange fnExactFormatKeysSpec)

/-- ITS FALSE NEIGHBOUR: 'it returns false'. Refute it at one input. -/
def fnExactFormatKeysWrong : ChangeSpec := { name := "fnExactFormatKeys", fn := fun _ => fun
  | [d] => { results := [.lit (.bool false)], args := [d] }
  | _ => none }
def FnExactFormatKeysWrongFalsely : Prop := fnExactFormatKeysRow.holds Try.pinned (OpenSpec.ofChange fnExactFormatKeysWrong)

/- THE SECOND FORM. 'bulk': how many values and letters a reading holds, each counted each time it is reached (what is shared counts as often as it is met; a slice's spare places count too). A statement '..UptoSaid' is the law's where the arguments, and the package variables that the reading takes, are together of bulk at most 1048576: NARROWER than '..Said'. Prove '..Said' where nothing that the law and all that it calls make is longer than what came in: it says more and counts as full. Else prove '..UptoSaid'. A law counts once. -/
mutual
def uptoBulk {H : Type} : DataW H → Nat
  | .lit (.string bytes) => bytes.length + 1
  | .lit _ => 1
  | .nil => 1
  | .ptr d => uptoBulk d + 1
  | .slice elems spare => uptoBulkAll elems + uptoBulkAll spare + 1
  | .agg parts => uptoBulkAll parts + 1
  | .iface _ d => uptoBulk d + 1
  | .map entries => uptoBulkEntries entries + 1
  | .held _ => 1
def uptoBulkAll {H : Type} : List (DataW H) → Nat
  | [] => 0
  | d :: r => uptoBulk d + uptoBulkAll r
def uptoBulkEntries {H : Type} : List (Lit × DataW H) → Nat
  | [] => 0
  | x :: r => uptoBulkEntry x + uptoBulkEntries r
def uptoBulkEntry {H : Type} : Lit × DataW H → Nat
  | (.string bytes, d) => bytes.length + uptoBulk d + 1
  | (_, d) => uptoBulk d + 1
 end
def uptoSmall : (H : Type) → List (DataW H) → Bool := fun _ ds => decide (uptoBulkAll ds ≤ 1048576)
def OpenSpec.upto (s : _root_.Go.ChangeSpec) : _root_.Go.OpenSpec := { _root_.Go.OpenSpec.ofChange s with cond := some uptoSmall }

/-- 'laws.FnExactValidKeys', WHERE WHAT IT READS IS OF BULK AT MOST 1048576: true; the input reads as it did. -/
def fnExactValidKeysUptoRow : OpenClaim := { program := "ytnblopilgfdjkaa", sum := "787b781f1940fd0c3c693866f513ee4bcf91545ee82eb7bbbdad8f836811f027", func := "loop.example/g00507/laws.FnExactValidKeys", spec := "fnExactValidKeys", apart := false, narrowed := true }
def FnExactValidKeysUptoSaid : Prop := fnExactValidKeysUptoRow.holds Try.pinned (OpenSpec.upto fnExactValidKeysSpec)

/-- 'laws.FnExactSecretOf', WHERE WHAT IT READS IS OF BULK AT MOST 1048576: true; the input reads as it did. -/
def fnExactSecretOfUptoRow : OpenClaim := { program := "ytnblopilgfdjkaa", sum := "787b781f1940fd0c3c693866f513ee4bcf91545ee82eb7bbbdad8f836811f027", func := "loop.example/g00507/laws.FnExactSecretOf", spec := "fnExactSecretOf", apart := false, narrowed := true }
def FnExactSecretOfUptoSaid : Prop := fnExactSecretOfUptoRow.holds Try.pinned (OpenSpec.upto fnExactSecretOfSpec)

/-- 'laws.FnExactSignWithKey', WHERE WHAT IT READS IS OF BULK AT MOST 1048576: true; the input reads as it did. -/
def fnExactSignWithKeyUptoRow : OpenClaim := { program := "ytnblopilgfdjkaa", sum := "787b781f1940fd0c3c693866f513ee4bcf91545ee82eb7bbbdad8f836811f027", func := "loop.example/g00507/laws.FnExactSignWithKey", spec := "fnExactSignWithKey", apart := false, narrowed := true }
def FnExactSignWithKeyUptoSaid : Prop := fnExactSignWithKeyUptoRow.holds Try.pinned (OpenSpec.upto fnExactSignWithKeySpec)

/-- 'laws.FnExactVerifySignature', WHERE WHAT IT READS IS OF BULK AT MOST 1048576: true; the input reads as it did. -/
def fnExactVerifySignatureUptoRow : OpenClaim := { program := "ytnblopilgfdjkaa", sum := "787b781f1940fd0c3c693866f513ee4bcf91545ee82eb7bbbdad8f836811f027", func := "loop.example/g00507/laws.FnExactVerifySignature", spec := "fnExactVerifySignature", apart := false, narrowed := true }
def FnExactVerifySignatureUptoSaid : Prop := fnExactVerifySignatureUptoRow.holds Try.pinned (OpenSpec.upto fnExactVerifySignatureSpec)

/-- 'laws.FnExactMatchingKeys', WHERE WHAT IT READS IS OF BULK AT MOST 1048576: true; the input reads as it did. -/
def fnExactMatchingKeysUptoRow : OpenClaim := { program := "ytnblopilgfdjkaa", sum := "787b781f1940fd0c3c693866f513ee4bcf91545ee82eb7bbbdad8f836811f027", func := "loop.example/g00507/laws.FnExactMatchingKeys", spec := "fnExactMatchingKeys", apart := false, narrowed := true }
def FnExactMatchingKeysUptoSaid : Prop := fnExactMatchingKeysUptoRow.holds Try.pinned (OpenSpec.upto fnExactMatchingKeysSpec)

/-- 'laws.FnExactAddKey', WHERE WHAT IT READS IS OF BULK AT MOST 1048576: true; the input reads as it did. -/
def fnExactAddKeyUptoRow : OpenClaim := { program := "ytnblopilgfdjkaa", sum := "787b781f1940fd0c3c693866f513ee4bcf91545ee82eb7bbbdad8f836811f027", func := "loop.example/g00507/laws.FnExactAddKey", spec := "fnExactAddKey", apart := false, narrowed := true }
def FnExactAddKeyUptoSaid : Prop := fnExactAddKeyUptoRow.holds Try.pinned (OpenSpec.upto fnExactAddKeySpec)

/-- 'laws.FnExactFormatKeys', WHERE WHAT IT READS IS OF BULK AT MOST 1048576: true; the input reads as it did. -/
def fnExactFormatKeysUptoRow : OpenClaim := { program := "ytnblopilgfdjkaa", sum := "787b781f1940fd0c3c693866f513ee4bcf91545ee82eb7bbbdad8f836811f027", func := "loop.example/g00507/laws.FnExactFormatKeys", spec := "fnExactFormatKeys", inPlace := ["internal/abi.NoEscape", "internal/bytealg.MakeNoZero"], apart := false, narrowed := true }
def FnExactFormatKeysUptoSaid : Prop := fnExactFormatKeysUptoRow.holds Try.pinned (OpenSpec.upto fnExactFormatKeysSpec)

end Rows
end Go.Proofs.Ytnblopilgfdjkaa
