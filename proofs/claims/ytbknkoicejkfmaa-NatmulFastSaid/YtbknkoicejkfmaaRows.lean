/-
  No cell of these rows narrows 'for every input' (looked for: loops, veiled, ifaces, maps, wideKeys, modest, calm, conditions, laid).
  DERIVED. THE GIVEN ROWS OF THIS SEAT. 5 by the template 'for every input the law returns true; each argument reads behind the call as it read before'; 0 by the template 'total and deterministic' (their statements: YtbknkoicejkfmaaTotals.lean).
  GIVEN WITH THE SEED: the statements are not yours to turn. If you find one false, say at which input.
  Laid BY PROGRAM, IN A SANDBOX (cutbox-rows.mjs): the forced cells as the released guide's own fill.sh prints them over the translation 4c78e2c5fc804412… (all of the seat's roots in one cut). By AI agents, Wed Nov 11 2026. No macro, syntax, notation, axiom, sorry.
-/
import Derived.Test.YtbknkoicejkfmaaChecked
import GoSem.Claim
import GoSem.ClaimJoined
import GoSem.ClaimMapViews
import Derived.JoinedTies
import Derived.KernelRfl
namespace Go.Proofs.Ytbknkoicejkfmaa
/- THE CELL 'sum', in the pinned program and in every row, IS THE sha256 OF THE DUMP (.gsa) THAT YtbknkoicejkfmaaProg.lean LOADS. Nothing in Lean hashes anything: it is a label: what it is worth is what the hold of that sum in a sandbox is worth. -/
noncomputable def Try.pinned : Pinned := { name := "ytbknkoicejkfmaa", sum := "4c78e2c5fc8044120c2621c9b8984cd15c386b2fec7ccf6e2c7f4b24394e5580", checked := Try.checked }
namespace Rows
def none {H : Type} : Left H := { results := [], args := [] }

/-- 'quittancelaw02.NatmulSays': WHATEVER THE INPUT: true; the input reads as it did. -/
def natmulSaysSpec : ChangeSpec := { name := "natmulSays", fn := fun _ => fun
  | [d1, d2, d3] => { results := [.lit (.bool true)], args := [d1, d2, d3] }
  | _ => none }
def natmulSaysRow : OpenClaim := { program := "ytbknkoicejkfmaa", sum := "4c78e2c5fc8044120c2621c9b8984cd15c386b2fec7ccf6e2c7f4b24394e5580", func := "quittance/quittancelaw02.NatmulSays", spec := "natmulSays", recurses := true, apart := false }
def NatmulSaysSaid : Prop := natmulSaysRow.holds Try.pinned (OpenSpec.ofChange natmulSaysSpec)

/-- ITS FALSE NEIGHBOUR: 'it returns false'. Refute it at one input. -/
def natmulSaysWrong : ChangeSpec := { name := "natmulSays", fn := fun _ => fun
  | [d1, d2, d3] => { results := [.lit (.bool false)], args := [d1, d2, d3] }
  | _ => none }
def NatmulSaysWrongFalsely : Prop := natmulSaysRow.holds Try.pinned (OpenSpec.ofChange natmulSaysWrong)

/-- 'quittancelaw02.NatmulPowers': WHATEVER THE INPUT: true; the input reads as it did. -/
def natmulPowersSpec : ChangeSpec := { name := "natmulPowers", fn := fun _ => fun
  | [d1, d2] => { results := [.lit (.bool true)], args := [d1, d2] }
  | _ => none }
def natmulPowersRow : OpenClaim := { program := "ytbknkoicejkfmaa", sum := "4c78e2c5fc8044120c2621c9b8984cd15c386b2fec7ccf6e2c7f4b24394e5580", func := "quittance/quittancelaw02.NatmulPowers", spec := "natmulPowers", recurses := true, apart := false }
def NatmulPowersSaid : Prop := natmulPowersRow.holds Try.pinned (OpenSpec.ofChange natmulPowersSpec)

/-- ITS FALSE NEIGHBOUR: 'it returns false'. Refute it at one input. -/
def natmulPowersWrong : ChangeSpec := { name := "natmulPowers", fn := fun _ => fun
  | [d1, d2] => { results := [.lit (.bool false)], args := [d1, d2] }
  | _ => none }
def NatmulPowersWrongFalsely : Prop := natmulPowersRow.holds Try.pinned (OpenSpec.ofChange natmulPowersWrong)

/-- 'quittancelaw02.NatmulRing': WHATEVER THE INPUT: true; the input reads as it did. -/
def natmulRingSpec : ChangeSpec := { name := "natmulRing", fn := fun _ => fun
  | [d1, d2, d3] => { results := [.lit (.bool true)], args := [d1, d2, d3] }
  | _ => none }
def natmulRingRow : OpenClaim := { program := "ytbknkoicejkfmaa", sum := "4c78e2c5fc8044120c2621c9b8984cd15c386b2fec7ccf6e2c7f4b24394e5580", func := "quittance/quittancelaw02.NatmulRing", spec := "natmulRing", recurses := true, apart := false }
def NatmulRingSaid : Prop := natmulRingRow.holds Try.pinned (OpenSpec.ofChange natmulRingSpec)

/-- ITS FALSE NEIGHBOUR: 'it returns false'. Refute it at one input. -/
def natmulRingWrong : ChangeSpec := { name := "natmulRing", fn := fun _ => fun
  | [d1, d2, d3] => { results := [.lit (.bool false)], args := [d1, d2, d3] }
  | _ => none }
def NatmulRingWrongFalsely : Prop := natmulRingRow.holds Try.pinned (OpenSpec.ofChange natmulRingWrong)

/-- 'quittancelaw02.NatmulTens': WHATEVER THE INPUT: true; the input reads as it did. -/
def natmulTensSpec : ChangeSpec := { name := "natmulTens", fn := fun _ => fun
  | [d1, d2, d3] => { results := [.lit (.bool true)], args := [d1, d2, d3] }
  | _ => none }
def natmulTensRow : OpenClaim := { program := "ytbknkoicejkfmaa", sum := "4c78e2c5fc8044120c2621c9b8984cd15c386b2fec7ccf6e2c7f4b24394e5580", func := "quittance/quittancelaw02.NatmulTens", spec := "natmulTens", recurses := true, apart := false }
def NatmulTensSaid : Prop := natmulTensRow.holds Try.pinned (OpenSpec.ofChange natmulTensSpec)

/-- ITS FALSE NEIGHBOUR: 'it returns false'. Refute it at one input. -/
def natmulTensWrong : ChangeSpec := { name := "natmulTens", fn := fun _ => fun
  | [d1, d2, d3] => { results := [.lit (.bool false)], args := [d1, d2, d3] }
  | _ => none }
def NatmulTensWrongFalsely : Prop := natmulTensRow.holds Try.pinned (OpenSpec.ofChange natmulTensWrong)

/-- 'quittancelaw02.NatmulFast': WHATEVER THE INPUT: true; the input reads as it did. -/
def natmulFastSpec : ChangeSpec := { name := "natmulFast", fn := fun _ => fun
  | [d1, d2, d3] => { results := [.lit (.bool true)], args := [d1, d2, d3] }
  | _ => none }
def natmulFastRow : OpenClaim := { program := "ytbknkoicejkfmaa", sum := "4c78e2c5fc8044120c2621c9b8984cd15c386b2fec7ccf6e2c7f4b24394e5580", func := "quittance/quittancelaw02.NatmulFast", spec := "natmulFast", recurses := true, apart := false }
def NatmulFastSaid : Prop := natmulFastRow.holds Try.pinned (OpenSpec.ofChange natmulFastSpec)

/-- ITS FALSE NEIGHBOUR: 'it returns false'. Refute it at one input. -/
def natmulFastWrong : ChangeSpec := { name := "natmulFast", fn := fun _ => fun
  | [d1, d2, d3] => { results := [.lit (.bool false)], args := [d1, d2, d3] }
  | _ => none }
def NatmulFastWrongFalsely : Prop := natmulFastRow.holds Try.pinned (OpenSpec.ofChange natmulFastWrong)

/- THE SECOND FORM. 'bulk': how many values and letters a reading holds, each counted each time it is reached (what is shared counts as often as it is met; a slice's spare places count too). A statement '..UptoSaid' is the law's where the arguments, and the package variables that the reading takes, are together of bulk at most 1048576: NARROWER than '..Said'. Prove '..Said' where nothing that the law and all that it calls make is longer than what came in: it says more and counts as full. Else prove '..UptoSaid'. A law counts once. -/
mutual
def uptoBulk {H : Type} : DataW H → Nat
  | .lit (.string bytes) => bytes.length + 1
  | .lit _ => 1
  | .nil => 1
  | .ptr d => uptoBulk d + 1
  | .slice elems spare => uptoBulkAll elems + uptoBulkAll spare + 1
  | .agg parts => uptoBulkAll parts + 1
  | .iface _ d => uptoBulk d + 1
  | .map entries => uptoBulkEntries entries + 1
  | .held _ => 1
def uptoBulkAll {H : Type} : List (DataW H) → Nat
  | [] => 0
  | d :: r => uptoBulk d + uptoBulkAll r
def uptoBulkEntries {H : Type} : List (Lit × DataW H) → Nat
  | [] => 0
  | x :: r => uptoBulkEntry x + uptoBulkEntries r
def uptoBulkEntry {H : Type} : Lit × DataW H → Nat
  | (.string bytes, d) => bytes.length + uptoBulk d + 1
  | (_, d) => uptoBulk d + 1
 end
def uptoSmall : (H : Type) → List (DataW H) → Bool := fun _ ds => decide (uptoBulkAll ds ≤ 1048576)
def OpenSpec.upto (s : _root_.Go.ChangeSpec) : _root_.Go.OpenSpec := { _root_.Go.OpenSpec.ofChange s with cond := some uptoSmall }

/-- 'quittancelaw02.NatmulSays', WHERE WHAT IT READS IS OF BULK AT MOST 1048576: true; the input reads as it did. -/
def natmulSaysUptoRow : OpenClaim := { program := "ytbknkoicejkfmaa", sum := "4c78e2c5fc8044120c2621c9b8984cd15c386b2fec7ccf6e2c7f4b24394e5580", func := "quittance/quittancelaw02.NatmulSays", spec := "natmulSays", recurses := true, apart := false, narrowed := true }
def NatmulSaysUptoSaid : Prop := natmulSaysUptoRow.holds Try.pinned (OpenSpec.upto natmulSaysSpec)

/-- 'quittancelaw02.NatmulPowers', WHERE WHAT IT READS IS OF BULK AT MOST 1048576: true; the input reads as it did. -/
def natmulPowersUptoRow : OpenClaim := { program := "ytbknkoicejkfmaa", sum := "4c78e2c5fc8044120c2621c9b8984cd15c386b2fec7ccf6e2c7f4b24394e5580", func := "quittance/quittancelaw02.NatmulPowers", spec := "natmulPowers", recurses := true, apart := false, narrowed := true }
def NatmulPowersUptoSaid : Prop := natmulPowersUptoRow.holds Try.pinned (OpenSpec.upto natmulPowersSpec)

/-- 'quittancelaw02.NatmulRing', WHERE WHAT IT READS IS OF BULK AT MOST 1048576: true; the input reads as it did. -/
def natmulRingUptoRow : OpenClaim := { program := "ytbknkoicejkfmaa", sum := "4c78e2c5fc8044120c2621c9b8984cd15c386b2fec7ccf6e2c7f4b24394e5580", func := "quittance/quittancelaw02.NatmulRing", spec := "natmulRing", recurses := true, apart := false, narrowed := true }
def NatmulRingUptoSaid : Prop := natmulRingUptoRow.holds Try.pinned (OpenSpec.upto natmulRingSpec)

/-- 'quittancelaw02.NatmulTens', WHERE WHAT IT READS IS OF BULK AT MOST 1048576: true; the input reads as it did. -/
def natmulTensUptoRow : OpenClaim := { program := "ytbknkoicejkfmaa", sum := "4c78e2c5fc8044120c2621c9b8984cd15c386b2fec7ccf6e2c7f4b24394e5580", func := "quittance/quittancelaw02.NatmulTens", spec := "natmulTens", recurses := true, apart := false, narrowed := true }
def NatmulTensUptoSaid : Prop := natmulTensUptoRow.holds Try.pinned (OpenSpec.upto natmulTensSpec)

/-- 'quittancelaw02.NatmulFast', WHERE WHAT IT READS IS OF BULK AT MOST 1048576: true; the input reads as it did. -/
def natmulFastUptoRow : OpenClaim := { program := "ytbknkoicejkfmaa", sum := "4c78e2c5fc8044120c2621c9b8984cd15c386b2fec7ccf6e2c7f4b24394e5580", func := "quittance/quittancelaw02.NatmulFast", spec := "natmulFast", recurses := true, apart := false, narrowed := true }
def NatmulFastUptoSaid : Prop := natmulFastUptoRow.holds Try.pinned (OpenSpec.upto natmulFastSpec)

end Rows
end Go.Proofs.Ytbknkoicejkfmaa
