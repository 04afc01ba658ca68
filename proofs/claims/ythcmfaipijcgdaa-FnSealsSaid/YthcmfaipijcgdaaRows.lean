/-
  No cell of these rows narrows 'for every input' (looked for: loops, veiled, ifaces, maps, wideKeys, modest, calm, conditions, laid).
  DERIVED. THE GIVEN ROWS OF THIS SEAT. 9 by the template 'for every input the law returns true; each argument reads behind the call as it read before'; 0 by the template 'total and deterministic' (their statements: YthcmfaipijcgdaaTotals.lean).
  GIVEN WITH THE SEED: the statements are not yours to turn. If you find one false, say at which input.
  Laid BY PROGRAM, IN A SANDBOX (cutbox-rows.mjs): the forced cells as the released guide's own fill.sh prints them over the translation 4dd80b75adcd9722… (all of the seat's roots in one cut). By AI agents, Wed Nov 11 2026. No macro, syntax, notation, axiom, sorry.
-/
import Derived.Test.YthcmfaipijcgdaaChecked
import GoSem.Claim
import GoSem.ClaimJoined
import GoSem.ClaimMapViews
import Derived.JoinedTies
import Derived.KernelRfl
namespace Go.Proofs.Ythcmfaipijcgdaa
/- THE CELL 'sum', in the pinned program and in every row, IS THE sha256 OF THE DUMP (.gsa) THAT YthcmfaipijcgdaaProg.lean LOADS. Nothing in Lean hashes anything: it is a label: what it is worth is what the hold of that sum in a sandbox is worth. -/
noncomputable def Try.pinned : Pinned := { name := "ythcmfaipijcgdaa", sum := "4dd80b75adcd97220cb6d39188b44384cd4acde9e1e9e873703a318fd5e56938", checked := Try.checked }
namespace Rows
def none {H : Type} : Left H := { results := [], args := [] }

/-- 'laws.FnSeals': WHATEVER THE INPUT: true; the input reads as it did. -/
def fnSealsSpec : ChangeSpec := { name := "fnSeals", fn := fun _ => fun
  | [d] => { results := [.lit (.bool true)], args := [d] }
  | _ => none }
def fnSealsRow : OpenClaim := { program := "ythcmfaipijcgdaa", sum := "4dd80b75adcd97220cb6d39188b44384cd4acde9e1e9e873703a318fd5e56938", func := "loop.example/g00507/laws.FnSeals", spec := "fnSeals", unfollowed := true, recurses := true, apart := false }
def FnSealsSaid : Prop := fnSealsRow.holds Try.pinned (OpenSpec.ofChange fnSealsSpec)

/-- ITS FALSE NEIGHBOUR: 'it returns false'. Refute it at one input. -/
def fnSealsWrong : ChangeSpec := { name := "fnSeals", fn := fun _ => fun
  | [d] => { results := [.lit (.bool false)], args := [d] }
  | _ => none }
def FnSealsWrongFalsely : Prop := fnSealsRow.holds Try.pinned (OpenSpec.ofChange fnSealsWrong)

/-- 'laws.FnExactDigest': WHATEVER THE INPUT: true; the input reads as it did. -/
def fnExactDigestSpec : ChangeSpec := { name := "fnExactDigest", fn := fun _ => fun
  | [d] => { results := [.lit (.bool true)], args := [d] }
  | _ => none }
def fnExactDigestRow : OpenClaim := { program := "ythcmfaipijcgdaa", sum := "4dd80b75adcd97220cb6d39188b44384cd4acde9e1e9e873703a318fd5e56938", func := "loop.example/g00507/laws.FnExactDigest", spec := "fnExactDigest", apart := false }
def FnExactDigestSaid : Prop := fnExactDigestRow.holds Try.pinned (OpenSpec.ofChange fnExactDigestSpec)

/-- ITS FALSE NEIGHBOUR: 'it returns false'. Refute it at one input. -/
def fnExactDigestWrong : ChangeSpec := { name := "fnExactDigest", fn := fun _ => fun
  | [d] => { results := [.lit (.bool false)], args := [d] }
  | _ => none }
def FnExactDigestWrongFalsely : Prop := fnExactDigestRow.holds Try.pinned (OpenSpec.ofChange fnExactDigestWrong)

/-- 'laws.FnExactComputeMAC': WHATEVER THE INPUT: true; the input reads as it did. -/
def fnExactComputeMACSpec : ChangeSpec := { name := "fnExactComputeMAC", fn := fun _ => fun
  | [d1, d2] => { results := [.lit (.bool true)], args := [d1, d2] }
  | _ => none }
def fnExactComputeMACRow : OpenClaim := { program := "ythcmfaipijcgdaa", sum := "4dd80b75adcd97220cb6d39188b44384cd4acde9e1e9e873703a318fd5e56938", func := "loop.example/g00507/laws.FnExactComputeMAC", spec := "fnExactComputeMAC", apart := false }
def FnExactComputeMACSaid : Prop := fnExactComputeMACRow.holds Try.pinned (OpenSpec.ofChange fnExactComputeMACSpec)

/-- ITS FALSE NEIGHBOUR: 'it returns false'. Refute it at one input. -/
def fnExactComputeMACWrong : ChangeSpec := { name := "fnExactComputeMAC", fn := fun _ => fun
  | [d1, d2] => { results := [.lit (.bool false)], args := [d1, d2] }
  | _ => none }
def FnExactComputeMACWrongFalsely : Prop := fnExactComputeMACRow.holds Try.pinned (OpenSpec.ofChange fnExactComputeMACWrong)

/-- 'laws.FnExactValidSecret': WHATEVER THE INPUT: true; the input reads as it did. -/
def fnExactValidSecretSpec : ChangeSpec := { name := "fnExactValidSecret", fn := fun _ => fun
  | [d] => { results := [.lit (.bool true)], args := [d] }
  | _ => none }
def fnExactValidSecretRow : OpenClaim := { program := "ythcmfaipijcgdaa", sum := "4dd80b75adcd97220cb6d39188b44384cd4acde9e1e9e873703a318fd5e56938", func := "loop.example/g00507/laws.FnExactValidSecret", spec := "fnExactValidSecret", apart := false }
def FnExactValidSecretSaid : Prop := fnExactValidSecretRow.holds Try.pinned (OpenSpec.ofChange fnExactValidSecretSpec)

/-- ITS FALSE NEIGHBOUR: 'it returns false'. Refute it at one input. -/
def fnExactValidSecretWrong : ChangeSpec := { name := "fnExactValidSecret", fn := fun _ => fun
  | [d] => { results := [.lit (.bool false)], args := [d] }
  | _ => none }
def FnExactValidSecretWrongFalsely : Prop := fnExactValidSecretRow.holds Try.pinned (OpenSpec.ofChange fnExactValidSecretWrong)

/-- 'laws.FnExactBytesToInts': WHATEVER THE INPUT: true; the input reads as it did. -/
def fnExactBytesToIntsSpec : ChangeSpec := { name := "fnExactBytesToInts", fn := fun _ => fun
  | [d] => { results := [.lit (.bool true)], args := [d] }
  | _ => none }
def fnExactBytesToIntsRow : OpenClaim := { program := "ythcmfaipijcgdaa", sum := "4dd80b75adcd97220cb6d39188b44384cd4acde9e1e9e873703a318fd5e56938", func := "loop.example/g00507/laws.FnExactBytesToInts", spec := "fnExactBytesToInts", apart := false }
def FnExactBytesToIntsSaid : Prop := fnExactBytesToIntsRow.holds Try.pinned (OpenSpec.ofChange fnExactBytesToIntsSpec)

/-- ITS FALSE NEIGHBOUR: 'it returns false'. Refute it at one input. -/
def fnExactBytesToIntsWrong : ChangeSpec := { name := "fnExactBytesToInts", fn := fun _ => fun
  | [d] => { results := [.lit (.bool false)], args := [d] }
  | _ => none }
def FnExactBytesToIntsWrongFalsely : Prop := fnExactBytesToIntsRow.holds Try.pinned (OpenSpec.ofChange fnExactBytesToIntsWrong)

/-- 'laws.FnExactEncrypt': WHATEVER THE INPUT: true; the input reads as it did. -/
def fnExactEncryptSpec : ChangeSpec := { name := "fnExactEncrypt", fn := fun _ => fun
  | [d1, d2] => { results := [.lit (.bool true)], args := [d1, d2] }
  | _ => none }
def fnExactEncryptRow : OpenClaim := { program := "ythcmfaipijcgdaa", sum := "4dd80b75adcd97220cb6d39188b44384cd4acde9e1e9e873703a318fd5e56938", func := "loop.example/g00507/laws.FnExactEncrypt", spec := "fnExactEncrypt", unfollowed := true, recurses := true, apart := false }
def FnExactEncryptSaid : Prop := fnExactEncryptRow.holds Try.pinned (OpenSpec.ofChange fnExactEncryptSpec)

/-- ITS FALSE NEIGHBOUR: 'it returns false'. Refute it at one input. -/
def fnExactEncryptWrong : ChangeSpec := { name := "fnExactEncrypt", fn := fun _ => fun
  | [d1, d2] => { results := [.lit (.bool false)], args := [d1, d2] }
  | _ => none }
def FnExactEncryptWrongFalsely : Prop := fnExactEncryptRow.holds Try.pinned (OpenSpec.ofChange fnExactEncryptWrong)

/-- 'laws.FnExactDecrypt': WHATEVER THE INPUT: true; the input reads as it did. -/
def fnExactDecryptSpec : ChangeSpec := { name := "fnExactDecrypt", fn := fun _ => fun
  | [d1, d2] => { results := [.lit (.bool true)], args := [d1, d2] }
  | _ => none }
def fnExactDecryptRow : OpenClaim := { program := "ythcmfaipijcgdaa", sum := "4dd80b75adcd97220cb6d39188b44384cd4acde9e1e9e873703a318fd5e56938", func := "loop.example/g00507/laws.FnExactDecrypt", spec := "fnExactDecrypt", unfollowed := true, recurses := true, apart := false }
def FnExactDecryptSaid : Prop := fnExactDecryptRow.holds Try.pinned (OpenSpec.ofChange fnExactDecryptSpec)

/-- ITS FALSE NEIGHBOUR: 'it returns false'. Refute it at one input. -/
def fnExactDecryptWrong : ChangeSpec := { name := "fnExactDecrypt", fn := fun _ => fun
  | [d1, d2] => { results := [.lit (.bool false)], args := [d1, d2] }
  | _ => none }
def FnExactDecryptWrongFalsely : Prop := fnExactDecryptRow.holds Try.pinned (OpenSpec.ofChange fnExactDecryptWrong)

/-- 'laws.FnExactDeriveSecret': WHATEVER THE INPUT: true; the input reads as it did. -/
def fnExactDeriveSecretSpec : ChangeSpec := { name := "fnExactDeriveSecret", fn := fun _ => fun
  | [d1, d2] => { results := [.lit (.bool true)], args := [d1, d2] }
  | _ => none }
def fnExactDeriveSecretRow : OpenClaim := { program := "ythcmfaipijcgdaa", sum := "4dd80b75adcd97220cb6d39188b44384cd4acde9e1e9e873703a318fd5e56938", func := "loop.example/g00507/laws.FnExactDeriveSecret", spec := "fnExactDeriveSecret", apart := false }
def FnExactDeriveSecretSaid : Prop := fnExactDeriveSecretRow.holds Try.pinned (OpenSpec.ofChange fnExactDeriveSecretSpec)

/-- ITS FALSE NEIGHBOUR: 'it returns false'. Refute it at one input. -/
def fnExactDeriveSecretWrong : ChangeSpec := { name := "fnExactDeriveSecret", fn := fun _ => fun
  | [d1, d2] => { results := [.lit (.bool false)], args := [d1, d2] }
  | _ => none }
def FnExactDeriveSecretWrongFalsely : Prop := fnExactDeriveSecretRow.holds Try.pinned (OpenSpec.ofChange fnExactDeriveSecretWrong)

/-- 'laws.FnExactEqualInts': WHATEVER THE INPUT: true; the input reads as it did. -/
def fnExactEqualIntsSpec : ChangeSpec := { name := "fnExactEqualInts", fn := fun _ => fun
  | [d1, d2] => { results := [.lit (.bool true)], args := [d1, d2] }
  | _ => none }
def fnExactEqualIntsRow : OpenClaim := { program := "ythcmfaipijcgdaa", sum := "4dd80b75adcd97220cb6d39188b44384cd4acde9e1e9e873703a318fd5e56938", func := "loop.example/g00507/laws.FnExactEqualInts", spec := "fnExactEqualInts", apart := false }
def FnExactEqualIntsSaid : Prop := fnExactEqualIntsRow.holds Try.pinned (OpenSpec.ofChange fnExactEqualIntsSpec)

/-- ITS FALSE NEIGHBOUR: 'it returns false'. Refute it at one input. -/
def fnExactEqualIntsWrong : ChangeSpec := { name := "fnExactEqualInts", fn := fun _ => fun
  | [d1, d2] => { results := [.lit (.bool false)], args := [d1, d2] }
  | _ => none }
def FnExactEqualIntsWrongFalsely : Prop := fnExactEqualIntsRow.holds Try.pinned (OpenSpec.ofChange fnExactEqualIntsWrong)

/- THE SECOND FORM. 'bulk': how many values and letters a reading holds, each counted each time it is reached (what is shared counts as often as it is met; a slice's spare places count too). A statement '..UptoSaid' is the law's where the arguments, and the package variables that the reading takes, are together of bulk at most 1048576: NARROWER than '..Said'. Prove '..Said' where nothing that the law and all that it calls make is longer than what came in: it says more and counts as full. Else prove '..UptoSaid'. A law counts once. -/
mutual
def uptoBulk {H : Type} : DataW H → Nat
  | .lit (.string bytes) => bytes.length + 1
  | .lit _ => 1
  | .nil => 1
  | .ptr d => uptoBulk d + 1
  | .slice elems spare => uptoBulkAll elems + uptoBulkAll spare + 1
  | .agg parts => uptoBulkAll parts + 1
  | .iface _ d => uptoBulk d + 1
  | .map entries => uptoBulkEntries entries + 1
  | .held _ => 1
def uptoBulkAll {H : Type} : List (DataW H) → Nat
  | [] => 0
  | d :: r => uptoBulk d + uptoBulkAll r
def uptoBulkEntries {H : Type} : List (Lit × DataW H) → Nat
  | [] => 0
  | x :: r => uptoBulkEntry x + uptoBulkEntries r
def uptoBulkEntry {H : Type} : Lit × DataW H → Nat
  | (.string bytes, d) => bytes.length + uptoBulk d + 1
  | (_, d) => uptoBulk d + 1
 end
def uptoSmall : (H : Type) → List (DataW H) → Bool := fun _ ds => decide (uptoBulkAll ds ≤ 1048576)
def OpenSpec.upto (s : _root_.Go.ChangeSpec) : _root_.Go.OpenSpec := { _root_.Go.OpenSpec.ofChange s with cond := some uptoSmall }

/-- 'laws.FnSeals', WHERE WHAT IT READS IS OF BULK AT MOST 1048576: true; the input reads as it did. -/
def fnSealsUptoRow : OpenClaim := { program := "ythcmfaipijcgdaa", sum := "4dd80b75adcd97220cb6d39188b44384cd4acde9e1e9e873703a318fd5e56938", func := "loop.example/g00507/laws.FnSeals", spec := "fnSeals", unfollowed := true, recurses := true, apart := false, narrowed := true }
def FnSealsUptoSaid : Prop := fnSealsUptoRow.holds Try.pinned (OpenSpec.upto fnSealsSpec)

/-- 'laws.FnExactDigest', WHERE WHAT IT READS IS OF BULK AT MOST 1048576: true; the input reads as it did. -/
def fnExactDigestUptoRow : OpenClaim := { program := "ythcmfaipijcgdaa", sum := "4dd80b75adcd97220cb6d39188b44384cd4acde9e1e9e873703a318fd5e56938", func := "loop.example/g00507/laws.FnExactDigest", spec := "fnExactDigest", apart := false, narrowed := true }
def FnExactDigestUptoSaid : Prop := fnExactDigestUptoRow.holds Try.pinned (OpenSpec.upto fnExactDigestSpec)

/-- 'laws.FnExactComputeMAC', WHERE WHAT IT READS IS OF BULK AT MOST 1048576: true; the input reads as it did. -/
def fnExactComputeMACUptoRow : OpenClaim := { program := "ythcmfaipijcgdaa", sum := "4dd80b75adcd97220cb6d39188b44384cd4acde9e1e9e873703a318fd5e56938", func := "loop.example/g00507/laws.FnExactComputeMAC", spec := "fnExactComputeMAC", apart := false, narrowed := true }
def FnExactComputeMACUptoSaid : Prop := fnExactComputeMACUptoRow.holds Try.pinned (OpenSpec.upto fnExactComputeMACSpec)

/-- 'laws.FnExactValidSecret', WHERE WHAT IT READS IS OF BULK AT MOST 1048576: true; the input reads as it did. -/
def fnExactValidSecretUptoRow : OpenClaim := { program := "ythcmfaipijcgdaa", sum := "4dd80b75adcd97220cb6d39188b44384cd4acde9e1e9e873703a318fd5e56938", func := "loop.example/g00507/laws.FnExactValidSecret", spec := "fnExactValidSecret", apart := false, narrowed := true }
def FnExactValidSecretUptoSaid : Prop := fnExactValidSecretUptoRow.holds Try.pinned (OpenSpec.upto fnExactValidSecretSpec)

/-- 'laws.FnExactBytesToInts', WHERE WHAT IT READS IS OF BULK AT MOST 1048576: true; the input reads as it did. -/
def fnExactBytesToIntsUptoRow : OpenClaim := { program := "ythcmfaipijcgdaa", sum := "4dd80b75adcd97220cb6d39188b44384cd4acde9e1e9e873703a318fd5e56938", func := "loop.example/g00507/laws.FnExactBytesToInts", spec := "fnExactBytesToInts", apart := false, narrowed := true }
def FnExactBytesToIntsUptoSaid : Prop := fnExactBytesToIntsUptoRow.holds Try.pinned (OpenSpec.upto fnExactBytesToIntsSpec)

/-- 'laws.FnExactEncrypt', WHERE WHAT IT READS IS OF BULK AT MOST 1048576: true; the input reads as it did. -/
def fnExactEncryptUptoRow : OpenClaim := { program := "ythcmfaipijcgdaa", sum := "4dd80b75adcd97220cb6d39188b44384cd4acde9e1e9e873703a318fd5e56938", func := "loop.example/g00507/laws.FnExactEncrypt", spec := "fnExactEncrypt", unfollowed := true, recurses := true, apart := false, narrowed := true }
def FnExactEncryptUptoSaid : Prop := fnExactEncryptUptoRow.holds Try.pinned (OpenSpec.upto fnExactEncryptSpec)

/-- 'laws.FnExactDecrypt', WHERE WHAT IT READS IS OF BULK AT MOST 1048576: true; the input reads as it did. -/
def fnExactDecryptUptoRow : OpenClaim := { program := "ythcmfaipijcgdaa", sum := "4dd80b75adcd97220cb6d39188b44384cd4acde9e1e9e873703a318fd5e56938", func := "loop.example/g00507/laws.FnExactDecrypt", spec := "fnExactDecrypt", unfollowed := true, recurses := true, apart := false, narrowed := true }
def FnExactDecryptUptoSaid : Prop := fnExactDecryptUptoRow.holds Try.pinned (OpenSpec.upto fnExactDecryptSpec)

/-- 'laws.FnExactDeriveSecret', WHERE WHAT IT READS IS OF BULK AT MOST 1048576: true; the input reads as it did. -/
def fnExactDeriveSecretUptoRow : OpenClaim := { program := "ythcmfaipijcgdaa", sum := "4dd80b75adcd97220cb6d39188b44384cd4acde9e1e9e873703a318fd5e56938", func := "loop.example/g00507/laws.FnExactDeriveSecret", spec := "fnExactDeriveSecret", apart := false, narrowed := true }
def FnExactDeriveSecretUptoSaid : Prop := fnExactDeriveSecretUptoRow.holds Try.pinned (OpenSpec.upto fnExactDeriveSecretSpec)

/-- 'laws.FnExactEqualInts', WHERE WHAT IT READS IS OF BULK AT MOST 1048576: true; the input reads as it did. -/
def fnExactEqualIntsUptoRow : OpenClaim := { program := "ythcmfaipijcgdaa", sum := "4dd80b75adcd97220cb6d39188b44384cd4acde9e1e9e873703a318fd5e56938", func := "loop.example/g00507/laws.FnExactEqualInts", spec := "fnExactEqualInts", apart := false, narrowed := true }
def FnExactEqualIntsUptoSaid : Prop := fnExactEqualIntsUptoRow.holds Try.pinned (OpenSpec.upto fnExactEqualIntsSpec)

end Rows
end Go.Proofs.Ythcmfaipijcgdaa
